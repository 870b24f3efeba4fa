/- The drawing functions: a number out of a list, a day, a date. -/
import Derived.Test.YtkdooncfchmkfaaDoorDraw
namespace Go.Proofs.YtkdooncfchmkfaaDoor
open Go.RowKit
def okInt (lo hi : Int) : Value → Bool
  | .int .i64 x => decide (lo ≤ x) && decide (x ≤ hi)
  | _ => false
def okInts (lo hi : Int) (cs : Array Value) : Bool := cs.toList.all (okInt lo hi)
theorem okInts_at {lo hi : Int} {cs : Array Value} (h : okInts lo hi cs = true) {i : Nat} (hi' : i < cs.size) : ∃ x : Int, cs[i]? = some (.int .i64 x) ∧ lo ≤ x ∧ x ≤ hi := by
  have h1 := List.all_eq_true.1 h cs[i] (by simp)
  have h2 : cs[i]? = some cs[i] := Array.getElem?_eq_getElem hi'
  rw [h2]
  generalize cs[i] = v at h1
  unfold okInt at h1
  split at h1
  · rename_i x
    simp at h1
    exact ⟨x, rfl, h1⟩
  · cases h1
/-- What a call of one leaves. -/
def Oned (lo hi : Int) (w : World) (g p : Nat) (e : Ending) (w' : World) : Prop :=
  ∃ v : Int, e = .returned (.int .i64 v) ∧ (lo ≤ v ∧ v ≤ hi) ∧ Rdr w' g (p + 1) ∧ w.grownBy w' (some g)
set_option maxHeartbeats 400000 in
theorem one_any (lo hi : Int) (w : World) (g p b : Nat) (cs : Array Value) (T : TypeId) (h : Rdr w g p) (hp : p ≤ 1000000) (hb : w.heap[b]? = some (.cells cs T (0, 0))) (hbg : b ≠ g) (hn1 : 1 ≤ cs.size) (hn2 : cs.size ≤ 1000)
    (hok : okInts lo hi cs = true) (n c : Nat) (hn : n = cs.size) :
    Calls Tryd.prog 54 #[.pointer (some ⟨g, 0, none⟩), .slice (some ⟨b, 0, none⟩) n c] w (Oned lo hi w g p) := by
  have hblt : b < w.heap.size := by
    rcases Nat.lt_or_ge b w.heap.size with hlt | hge
    · exact hlt
    · rw [Array.getElem?_eq_none hge] at hb; cases hb
  have n1 : (1 : Int) ≤ (n : Int) := by omega
  have n2 : (n : Int) ≤ 1000 := by omega
  have HN := Lib.hid hn; clear hn
  have HB := Lib.hid hb; clear hb
  go_enter Tryd.func54, Tryd.ntmps54
  go_wp2_with fail
  refine (pick_any _ _ _ _ h hp (by omega) (by omega)).mono ?_
  rintro e w1 ⟨v, rfl, ⟨hv, _⟩, hr, hg⟩
  obtain ⟨v0, v1⟩ := hv (by omega)
  obtain ⟨k, rfl⟩ := Int.eq_ofNat_of_zero_le v0
  have hk : k < n := by omega
  obtain ⟨x, hx, x0, x1⟩ := okInts_at hok (i := k) (by rw [← HN.out]; exact hk)
  have hc : w1.cell? ⟨b, k, none⟩ = some (.int .i64 x) := by
    rw [World.cell?_of_block (w := w) (a := ⟨b, k, none⟩) (hg.block b hblt (fun e => hbg (by injection e)))]
    simp [World.cell?, HB.out, hx]
  clear hx hv
  go_wp2_with fail
  go_ret
  exact ⟨x, rfl, ⟨x0, x1⟩, hr, hg⟩
/-- What newReader leaves. -/
def Made (w : World) (e : Ending) (w' : World) : Prop := ∃ g : Nat, e = .returned (.pointer (some ⟨g, 0, none⟩)) ∧ w.heap.size ≤ g ∧ Rdr w' g 0 ∧ Below w.heap.size w w'
theorem bytes_of_row {w : World} {a : Option Addr} {len cap : Nat} {zs : List Int} (h : IsRow .u8 w a len cap zs) (m : Nat) (hm : m ≤ len) (hm2 : m ≤ 2000) : Bytes w w.heap.size a m := by
  refine ⟨hm2, fun hl => ?_⟩
  rcases h with ⟨_, h0, _, _⟩ | ⟨x, rfl, h1, h2, h3, h4, h5⟩
  · omega
  · have hc := h4 0 (by omega)
    obtain ⟨b, off, spot⟩ := x
    have hspot : spot = none := by simpa [Addr.add] using World.cell?_spot hc
    subst hspot
    have hb : b < w.heap.size := by
      rcases Nat.lt_or_ge b w.heap.size with hlt | hge
      · exact hlt
      · simp [World.cell?, Addr.add, Array.getElem?_eq_none hge] at hc
    refine ⟨b, off, rfl, hb, fun i hi => ?_⟩
    have hi' := h4 i (by omega)
    have e : (Addr.add ⟨b, off, none⟩ i : Addr) = ⟨b, off + i, none⟩ := by unfold Addr.add; split <;> simp_all
    rw [e] at hi'
    refine ⟨zs.getD i 0, hi', u8_bd (h5 _ ?_)⟩
    rw [List.getD_eq_getElem?_getD, List.getElem?_eq_getElem (by omega)]
    simp
set_option maxHeartbeats 400000 in
theorem newReader_any (w : World) (a : Option Addr) (len cap : Nat) (zs : List Int) (h : IsRow .u8 w a len cap zs) :
    Calls Tryd.prog 35 #[.slice a len cap] w (Made w) := by
  by_cases hl : len ≤ 2000
  · have hd : decide (2000 < (len : Int)) = false := by simp; omega
    have hB := Lib.hid (bytes_of_row h len (Nat.le_refl _) hl)
    have hw : w.heap.size + 1 ≤ w.heap.size + 1 := Nat.le_refl _
    go_enter Tryd.func35, Tryd.ntmps35
    go_wp2_with fail
    go_ret
    refine ⟨w.heap.size, rfl, Nat.le_refl _, ⟨a, len, cap, 0, Nat.le_refl _, heap_alloc_new w _, ?_⟩, ?_⟩
    · exact hB.out.keep fun k hk => Below.heap_alloc _ _ _ hk
    · exact (Below.refl _ _).alloc (Nat.le_refl _) _
  · have hd : decide (2000 < (len : Int)) = true := by simp; omega
    have hB := Lib.hid (bytes_of_row h 2000 (by omega) (Nat.le_refl _))
    have hcap : 2000 ≤ cap := by
      rcases h with ⟨_, h0, _, _⟩ | ⟨x, rfl, h1, _⟩ <;> omega
    have hl2 : 2000 < len := by omega
    go_enter Tryd.func35, Tryd.ntmps35
    go_wp2_with fail
    go_ret
    refine ⟨w.heap.size, rfl, Nat.le_refl _, ⟨a, 2000, cap, 0, Nat.le_refl _, heap_alloc_new w _, ?_⟩, ?_⟩
    · exact hB.out.keep fun k hk => Below.heap_alloc _ _ _ hk
    · exact (Below.refl _ _).alloc (Nat.le_refl _) _
/-- A reader's call: it leaves a number between two bounds. -/
def Drawn (lo hi : Int) (k : Nat) (w : World) (g p : Nat) (e : Ending) (w' : World) : Prop :=
  ∃ v : Int, e = .returned (.int .i64 v) ∧ (lo ≤ v ∧ v ≤ hi) ∧ Rdr w' g (p + k) ∧ w.grownBy w' (some g)
theorem grown_alloc {w w' : World} {g : Nat} (h : w.grownBy w' (some g)) (o : Obj) : w.grownBy (w'.alloc o) (some g) :=
  ⟨h.os, h.tape, h.output, Nat.le_trans h.size (by simp), fun i hi hne => (Below.heap_alloc w' o i (Nat.lt_of_lt_of_le hi h.size)).trans (h.block i hi hne)⟩
theorem grown_trans {a b c : World} {g : Nat} (h : a.grownBy b (some g)) (k : b.grownBy c (some g)) : a.grownBy c (some g) :=
  ⟨k.os.trans h.os, k.tape.trans h.tape, k.output.trans h.output, Nat.le_trans h.size k.size, fun i hi hne => (k.block i (Nat.lt_of_lt_of_le hi h.size) hne).trans (h.block i hi hne)⟩
theorem grown_refl (w : World) (g : Nat) : w.grownBy w (some g) := ⟨rfl, rfl, rfl, Nat.le_refl _, fun _ _ _ => rfl⟩
theorem grown_below {a b : World} {g : Nat} (h : Below a.heap.size a b) : a.grownBy b (some g) := ⟨h.os, h.tape, h.output, h.size, fun i hi _ => h.block i hi⟩
theorem grown_drew {a b : World} {g : Nat} (h : a.grownBy b (some g)) (n : Nat) : a.grownBy (b.drewN n) (some g) := ⟨h.os, h.tape, h.output, h.size, h.block⟩
end Go.Proofs.YtkdooncfchmkfaaDoor
