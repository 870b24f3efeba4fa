/- A cursor over a text: numbers and signs. -/
import Derived.Test.YtoledkecgfhdbaaDoorQv
import Derived.Test.YtoledkecgfhdbaaDoorKp
namespace Go.Proofs.YtoledkecgfhdbaaDoor
open Go.RowKit
/-- The cursor at block g, with this rest. -/
abbrev Cur (w : World) (g : Nat) (l : List UInt8) : Prop := Blk w g 44 #[str l]
theorem Cur.cell {w : World} {g : Nat} {l : List UInt8} (h : Cur w g l) : w.cell? ⟨g, 0, none⟩ = some (str l) := by
  unfold Cur Blk at h; simp [World.cell?, h]
theorem Cur.free {w : World} {g : Nat} {l : List UInt8} (h : Cur w g l) : w.frozen? ⟨g, 0, none⟩ = false := by
  unfold Cur Blk at h; simp [World.frozen?, h]
theorem Cur.put {w : World} {g : Nat} {l : List UInt8} (h : Cur w g l) (m : List UInt8) : Cur (w.setCell ⟨g, 0, none⟩ (str m)) g m := by
  unfold Cur Blk at *
  simp [World.setCell, Array.getElem?_modify, h]
def curLen (g : Nat) (w : World) : Nat := match w.cell? ⟨g, 0, none⟩ with | some (.string s) => s.size | _ => 0
theorem Cur.len {w : World} {g : Nat} {l : List UInt8} (h : Cur w g l) : curLen g w = l.length := by
  unfold curLen; rw [h.cell]; exact str_size l
theorem grown_put {a w : World} {g : Nat} (h : a.grownBy w (some g)) (v : Value) : a.grownBy (w.setCell ⟨g, 0, none⟩ v) (some g) :=
  ⟨h.os, h.tape, h.output, by simpa [World.setCell] using h.size, fun i hi hne => by
    refine Eq.trans ?_ (h.block i hi hne)
    exact Below.heap_setCell w ⟨g, 0, none⟩ v i (fun e => hne (by rw [e]))⟩
theorem wrap_eq (n : Int) : IntKind.i64.wrap n = wrap64 n := by rw [IntKind.wrap_i64]; unfold wrap64; omega
set_option maxHeartbeats 1000000 in
theorem number_any (g : Nat) (l : List UInt8) (w : World) (hc : Cur w g l) :
    Calls Tryd.prog 33 #[.pointer (some ⟨g, 0, none⟩)] w fun e w' => e = .returned (.int .i64 (rdN l 0).1) ∧ Cur w' g (rdN l 0).2 ∧ w.grownBy w' (some g) := by
  have HC := Lib.hid hc; clear hc
  go_enter Tryd.func33, Tryd.ntmps33
  go_wp2_with fail
  go_loopw [3] (fun v wr => ∃ (a : Int) (r : List UInt8), v = .int .i64 a ∧ Hid (Cur wr g r) ∧ Hid (rdN r a = rdN l 0) ∧ r.length ≤ l.length ∧ w.grownBy wr (some g)) (fun _ wr => curLen g wr)
  case atStart => exact ⟨0, l, rfl, HC, Lib.hid rfl, Nat.le_refl _, grown_refl w g⟩
  case round =>
    obtain ⟨a, r, rfl, HR, HE, hrl, hg⟩ := hrel
    have x0 := HR.out.cell
    have f0 := HR.out.free
    rcases r with _ | ⟨c, t⟩
    · have E := Lib.hid (show rdN l 0 = (a, []) from HE.out.symm)
      go_wp2_with fail
      go_ret
      exact ⟨by rw [E.out]; rfl, by rw [E.out]; exact HR.out, hg⟩
    · obtain ⟨z, hz⟩ : ∃ z : Int, z = (c.toNat : Int) := ⟨_, rfl⟩
      have hx : ∀ h, (((ByteArray.mk (c :: t).toArray)[0]'h).toNat : Int) = z := fun h => hz.symm
      have hz1 : 0 ≤ z ∧ z ≤ 255 := by have := c.toNat_lt; omega
      have hsz : (ByteArray.mk (c :: t).toArray).size = t.length + 1 := by rw [str_size]; rfl
      simp only [List.length_cons] at hrl
      cases hd : dgt c with
      | false =>
        have HB := Lib.hid (show btw z 48 57 = false from btw_iff_f.2 (by have := dgt_iff_f.1 hd; omega))
        have E := Lib.hid (show rdN l 0 = (a, c :: t) from HE.out.symm.trans (rdN_stop hd))
        clear hz
        go_wp2_with fail
        refine (between_any _ _ _ _).mono ?_
        rintro e w' ⟨rfl, rfl⟩
        rw [HB.out]
        go_wp2_with fail
        go_ret
        exact ⟨by rw [E.out]; rfl, by rw [E.out]; exact HR.out, hg⟩
      | true =>
        have hb := dgt_iff.1 hd
        have HB := Lib.hid (show btw z 48 57 = true from btw_iff.2 (by omega))
        have E := Lib.hid (show rdN t (stp a c) = rdN l 0 from (rdN_go hd).symm.trans HE.out)
        have hz2 : 48 ≤ z ∧ z ≤ 57 := by omega
        have HZ := Lib.hid (show dgv c = z - 48 by unfold dgv; omega)
        have HCut := Lib.hid (cut_one c t)
        clear hz hb
        go_wp2_with fail
        refine (between_any _ _ _ _).mono ?_
        rintro e w' ⟨rfl, rfl⟩
        rw [HB.out]
        go_wp2_with fail
        have e1 := HCut.out
        rw [hsz] at e1
        rw [e1]
        refine ⟨⟨_, t, rfl, Lib.hid (HR.out.put t), Lib.hid ?_, by omega, grown_put hg _⟩, ?_⟩
        · rw [← E.out]
          unfold stp
          rw [HZ.out, wrap_eq, wrap_eq]
        · rw [(HR.out.put t).len, HR.out.len]
          simp
set_option maxHeartbeats 400000 in
theorem skip_any (g : Nat) (l : List UInt8) (x : UInt8) (w : World) (hc : Cur w g l) :
    Calls Tryd.prog 34 #[.pointer (some ⟨g, 0, none⟩), str [x]] w fun e w' => e = .returned (.bool (Lib.hasPrefix l [x])) ∧ Cur w' g (skp x l) ∧ w.grownBy w' (some g) := by
  have x0 := hc.cell
  have f0 := hc.free
  have HC := Lib.hid hc; clear hc
  have HT := Lib.hid (skp_trim x l)
  go_enter Tryd.func34, Tryd.ntmps34
  go_wp2_with fail
  refine (Tryd.strings_CutPrefix _ _ _).mono ?_
  rintro e w' ⟨rfl, rfl⟩
  rw [HT.out]
  go_wp2_with fail
  go_ret
  exact ⟨rfl, HC.out.put _, grown_put (grown_refl _ _) _⟩
set_option maxHeartbeats 1000000 in
theorem quote_any (g : Nat) (l : List UInt8) (w : World) (hc : Cur w g l) :
    Calls Tryd.prog 24 #[.pointer (some ⟨g, 0, none⟩)] w fun e w' => e = .returned (.int .i64 (Qt.read l)) ∧ w.grownBy w' (some g) := by
  have E := Lib.hid (show Qt.read l = (if Lib.hasPrefix (rdN (skp 45 (rdN l 0).2) 0).2 [43] then IntKind.i64.wrap (IntKind.i64.wrap (IntKind.i64.wrap (64 * (rdN l 0).1) + IntKind.i64.wrap (2 * (rdN (skp 45 (rdN l 0).2) 0).1)) + 1) else IntKind.i64.wrap (IntKind.i64.wrap (64 * (rdN l 0).1) + IntKind.i64.wrap (2 * (rdN (skp 45 (rdN l 0).2) 0).1))) from rfl)
  have HC := Lib.hid hc; clear hc
  obtain ⟨a, r, hA⟩ : ∃ a r, rdN l 0 = (a, r) := ⟨_, _, rfl⟩
  obtain ⟨b, s, hB⟩ : ∃ b s, rdN (skp 45 r) 0 = (b, s) := ⟨_, _, rfl⟩
  have E1 := Lib.hid (show Qt.read l = (if Lib.hasPrefix s [43] then wrap64 (wrap64 (wrap64 (64 * a) + wrap64 (2 * b)) + 1) else wrap64 (wrap64 (64 * a) + wrap64 (2 * b))) by
    rw [E.out, hA]
    simp only
    rw [hB]
    simp only [wrap_eq])
  have HA := Lib.hid hA
  have HB := Lib.hid hB
  clear hA hB E
  go_enter Tryd.func24, Tryd.ntmps24
  go_wp2_with fail
  refine (number_any _ _ _ HC.out).mono ?_
  rw [HA.out]
  rintro e w1 ⟨rfl, c1, g1⟩
  have C1 := Lib.hid c1; clear c1
  go_wp2_with fail
  refine (skip_any _ _ 45 _ C1.out).mono ?_
  rintro e w2 ⟨rfl, c2, g2⟩
  have C2 := Lib.hid c2; clear c2
  replace g2 := grown_trans g1 g2
  clear g1 C1
  go_wp2_with fail
  refine (number_any _ _ _ C2.out).mono ?_
  try dsimp only
  rw [HB.out]
  rintro e w3 ⟨rfl, c3, g3⟩
  have C3 := Lib.hid c3; clear c3
  replace g3 := grown_trans g2 g3
  clear g2 C2
  cases hp : Lib.hasPrefix s [43] with
  | false =>
    have E2 := Lib.hid (show Qt.read l = wrap64 (wrap64 (64 * a) + wrap64 (2 * b)) by rw [E1.out, hp]; rfl)
    have HP := Lib.hid hp; clear hp
    go_wp2_with fail
    refine (skip_any _ _ 43 _ C3.out).mono ?_
    try dsimp only
    rw [HP.out]
    rintro e w4 ⟨rfl, -, g4⟩
    replace g4 := grown_trans g3 g4
    go_wp2_with fail
    go_ret
    exact ⟨by rw [E2.out]; rfl, g4⟩
  | true =>
    have E2 := Lib.hid (show Qt.read l = wrap64 (wrap64 (wrap64 (64 * a) + wrap64 (2 * b)) + 1) by rw [E1.out, hp]; rfl)
    have HP := Lib.hid hp; clear hp
    go_wp2_with fail
    refine (skip_any _ _ 43 _ C3.out).mono ?_
    try dsimp only
    rw [HP.out]
    rintro e w4 ⟨rfl, -, g4⟩
    replace g4 := grown_trans g3 g4
    go_wp2_with fail
    go_ret
    exact ⟨by rw [E2.out]; rfl, g4⟩
end Go.Proofs.YtoledkecgfhdbaaDoor
