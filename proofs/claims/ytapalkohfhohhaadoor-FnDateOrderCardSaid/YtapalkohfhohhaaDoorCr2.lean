/- A cursor over a text: numbers and signs. -/
import Derived.Test.YtapalkohfhohhaaDoorQv
import Derived.Test.YtapalkohfhohhaaDoorKp
namespace Go.Proofs.YtapalkohfhohhaaDoor
open Go.RowKit
/-- The cursor at block g, with this rest. -/
abbrev Cur (w : World) (g : Nat) (l : List UInt8) : Prop := Blk w g 57 #[str l]
theorem Cur.cell {w : World} {g : Nat} {l : List UInt8} (h : Cur w g l) : w.cell? ⟨g, 0, none⟩ = some (str l) := by
  unfold Cur Blk at h; simp [World.cell?, h]
theorem Cur.free {w : World} {g : Nat} {l : List UInt8} (h : Cur w g l) : w.frozen? ⟨g, 0, none⟩ = false := by
  unfold Cur Blk at h; simp [World.frozen?, h]
theorem Cur.put {w : World} {g : Nat} {l : List UInt8} (h : Cur w g l) (m : List UInt8) : Cur (w.setCell ⟨g, 0, none⟩ (str m)) g m := by
  unfold Cur Blk at *
  simp [World.setCell, Array.getElem?_modify, h]
def curLen (g : Nat) (w : World) : Nat := match w.cell? ⟨g, 0, none⟩ with | some (.string s) => s.size | _ => 0
theorem Cur.len {w : World} {g : Nat} {l : List UInt8} (h : Cur w g l) : curLen g w = l.length := by
  unfold curLen; rw [h.cell]; exact str_size l
theorem grown_put {a w : World} {g : Nat} (h : a.grownBy w (some g)) (v : Value) : a.grownBy (w.setCell ⟨g, 0, none⟩ v) (some g) :=
  ⟨h.os, h.tape, h.output, by simpa [World.setCell] using h.size, fun i hi hne => by
    refine Eq.trans ?_ (h.block i hi hne)
    exact Below.heap_setCell w ⟨g, 0, none⟩ v i (fun e => hne (by rw [e]))⟩
theorem wrap_eq (n : Int) : IntKind.i64.wrap n = wrap64 n := by rw [IntKind.wrap_i64]; unfold wrap64; omega
set_option maxHeartbeats 1000000 in
theorem number_any (g : Nat) (l : List UInt8) (w : World) (hc : Cur w g l) :
    Calls Tryd.prog 71 #[.pointer (some ⟨g, 0, none⟩)] w fun e w' => e = .returned (.int .i64 (rdN l 0).1) ∧ Cur w' g (rdN l 0).2 ∧ w.grownBy w' (some g) := by
  have HC := Lib.hid hc; clear hc
  go_enter Tryd.func71, Tryd.ntmps71
  go_wp2_with fail
  go_loopw [3] (fun v wr => ∃ (a : Int) (r : List UInt8), v = .int .i64 a ∧ Hid (Cur wr g r) ∧ Hid (rdN r a = rdN l 0) ∧ r.length ≤ l.length ∧ w.grownBy wr (some g)) (fun _ wr => curLen g wr)
  case atStart => exact ⟨0, l, rfl, HC, Lib.hid rfl, Nat.le_refl _, grown_refl w g⟩
  case round =>
    obtain ⟨a, r, rfl, HR, HE, hrl, hg⟩ := hrel
    have x0 := HR.out.cell
    have f0 := HR.out.free
    rcases r with _ | ⟨c, t⟩
    · have E := Lib.hid (show rdN l 0 = (a, []) from HE.out.symm)
      go_wp2_with fail
      go_ret
      exact ⟨by rw [E.out]; rfl, by rw [E.out]; exact HR.out, hg⟩
    · obtain ⟨z, hz⟩ : ∃ z : Int, z = (c.toNat : Int) := ⟨_, rfl⟩
      have hx : ∀ h, (((ByteArray.mk (c :: t).toArray)[0]'h).toNat : Int) = z := fun h => hz.symm
      have hz1 : 0 ≤ z ∧ z ≤ 255 := by have := c.toNat_lt; omega
      have hsz : (ByteArray.mk (c :: t).toArray).size = t.length + 1 := by rw [str_size]; rfl
      simp only [List.length_cons] at hrl
      cases hd : dgt c with
      | false =>
        have HB := Lib.hid (show btw z 48 57 = false from btw_iff_f.2 (by have := dgt_iff_f.1 hd; omega))
        have E := Lib.hid (show rdN l 0 = (a, c :: t) from HE.out.symm.trans (rdN_stop hd))
        clear hz
        go_wp2_with fail
        refine (between_any _ _ _ _).mono ?_
        rintro e w' ⟨rfl, rfl⟩
        rw [HB.out]
        go_wp2_with fail
        go_ret
        exact ⟨by rw [E.out]; rfl, by rw [E.out]; exact HR.out, hg⟩
      | true =>
        have hb := dgt_iff.1 hd
        have HB := Lib.hid (show btw z 48 57 = true from btw_iff.2 (by omega))
        have E := Lib.hid (show rdN t (stp a c) = rdN l 0 from (rdN_go hd).symm.trans HE.out)
        have hz2 : 48 ≤ z ∧ z ≤ 57 := by omega
        have HZ := Lib.hid (show dgv c = z - 48 by unfold dgv; omega)
        have HCut := Lib.hid (cut_one c t)
        clear hz hb
        go_wp2_with fail
        refine (between_any _ _ _ _).mono ?_
        rintro e w' ⟨rfl, rfl⟩
        rw [HB.out]
        go_wp2_with fail
        have e1 := HCut.out
        rw [hsz] at e1
        rw [e1]
        refine ⟨⟨_, t, rfl, Lib.hid (HR.out.put t), Lib.hid ?_, by omega, grown_put hg _⟩, ?_⟩
        · rw [← E.out]
          unfold stp
          rw [HZ.out, wrap_eq, wrap_eq]
        · rw [(HR.out.put t).len, HR.out.len]
          simp
set_option maxHeartbeats 400000 in
theorem skip_any (g : Nat) (l : List UInt8) (x : UInt8) (w : World) (hc : Cur w g l) :
    Calls Tryd.prog 72 #[.pointer (some ⟨g, 0, none⟩), str [x]] w fun e w' => e = .returned (.bool (Lib.hasPrefix l [x])) ∧ Cur w' g (skp x l) ∧ w.grownBy w' (some g) := by
  have x0 := hc.cell
  have f0 := hc.free
  have HC := Lib.hid hc; clear hc
  have HT := Lib.hid (skp_trim x l)
  go_enter Tryd.func72, Tryd.ntmps72
  go_wp2_with fail
  refine (Tryd.strings_CutPrefix _ _ _).mono ?_
  rintro e w' ⟨rfl, rfl⟩
  rw [HT.out]
  go_wp2_with fail
  go_ret
  exact ⟨rfl, HC.out.put _, grown_put (grown_refl _ _) _⟩
end Go.Proofs.YtapalkohfhohhaaDoor
