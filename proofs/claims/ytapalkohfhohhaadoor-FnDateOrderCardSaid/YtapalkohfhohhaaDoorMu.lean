/- Texts that are changed at random. -/
import Derived.Test.YtapalkohfhohhaaDoorDrawB
import Derived.Test.YtapalkohfhohhaaDoorDate
import Derived.Deep.RegionWith
import Derived.Deep.DeepCutAuto
import Derived.Laws.BytesArg
import Derived.Outline
namespace Go.Proofs.YtapalkohfhohhaaDoor
open Go.RowKit
def okS : Value → Bool
  | .string s => decide (s.size ≤ 2)
  | _ => false
theorem okS_at {cs : Array Value} (h : cs.toList.all okS = true) {i : Nat} (hi' : i < cs.size) : ∃ s : ByteArray, cs[i]? = some (.string s) ∧ s.size ≤ 2 := by
  have h1 := List.all_eq_true.1 h cs[i] (by simp)
  have h2 : cs[i]? = some cs[i] := Array.getElem?_eq_getElem hi'
  rw [h2]
  generalize cs[i] = v at h1
  unfold okS at h1
  split at h1
  · rename_i x
    exact ⟨x, rfl, by simpa using h1⟩
  · cases h1
/-- A short text drawn: what is left behind. -/
def OfP (w : World) (g p : Nat) (e : Ending) (w' : World) : Prop :=
  ∃ s : ByteArray, e = .returned (.string s) ∧ s.size ≤ 2 ∧ Rdr w' g (p + 1) ∧ w.grownBy w' (some g)
set_option maxHeartbeats 400000 in
theorem of_any (w : World) (g p b : Nat) (cs : Array Value) (T : TypeId) (h : Rdr w g p) (hp : p ≤ 1000000) (hb : w.heap[b]? = some (.cells cs T (0, 0))) (hbg : b ≠ g) (hn1 : 1 ≤ cs.size) (hn2 : cs.size ≤ 1000)
    (hok : cs.toList.all okS = true) (n c : Nat) (hn : n = cs.size) :
    Calls Tryd.prog 73 #[.pointer (some ⟨g, 0, none⟩), .slice (some ⟨b, 0, none⟩) n c] w (OfP w g p) := by
  have hblt : b < w.heap.size := by
    rcases Nat.lt_or_ge b w.heap.size with hlt | hge
    · exact hlt
    · rw [Array.getElem?_eq_none hge] at hb; cases hb
  have n1 : (1 : Int) ≤ (n : Int) := by omega
  have n2 : (n : Int) ≤ 1000 := by omega
  have HN := Lib.hid hn; clear hn
  have HB := Lib.hid hb; clear hb
  go_enter Tryd.func73, Tryd.ntmps73
  go_wp2_with fail
  refine (pick_any _ _ _ _ h hp (by omega) (by omega)).mono ?_
  rintro e w1 ⟨v, rfl, ⟨hv, _⟩, hr, hg⟩
  obtain ⟨v0, v1⟩ := hv (by omega)
  obtain ⟨k, rfl⟩ := Int.eq_ofNat_of_zero_le v0
  have hk : k < n := by omega
  obtain ⟨x, hx, x1⟩ := okS_at hok (i := k) (by rw [← HN.out]; exact hk)
  have hc : w1.cell? ⟨b, k, none⟩ = some (.string x) := by
    rw [World.cell?_of_block (w := w) (a := ⟨b, k, none⟩) (hg.block b hblt (fun e => hbg (by injection e)))]
    simp [World.cell?, HB.out, hx]
  clear hx hv
  go_wp2_with fail
  go_ret
  exact ⟨x, rfl, x1, hr, hg⟩
/-- A text drawn: what is left behind. -/
def TextP (k N : Nat) (w : World) (g p : Nat) (e : Ending) (w' : World) : Prop :=
  ∃ s : ByteArray, e = .returned (.string s) ∧ s.size ≤ N ∧ Rdr w' g (p + k) ∧ w.grownBy w' (some g)
theorem grown_drM {a b : World} {g : Nat} (h : a.grownBy b (some g)) : a.grownBy b.drew (some g) := ⟨h.os, h.tape, h.output, h.size, h.block⟩
theorem addS (W : World) {x y : ByteArray} (hx : x.size ≤ 1000000) (hy : y.size ≤ 1000000) : (Op.stringOp .add x y).run Tryd.prog W = .ok (.string (x ++ y)) W :=
  run_string_add_sum W _ _ (by omega)
set_option maxHeartbeats 2000000 in
theorem mutate_any (s : ByteArray) (w : World) (g p : Nat) (h : Rdr w g p) (hp : p ≤ 800000) (hs : s.size ≤ 1000) :
    Calls Tryd.prog 43 #[.pointer (some ⟨g, 0, none⟩), .string s] w (TextP 3 (s.size + 2) w g p) := by
  have hgl := h.lt
  go_enter Tryd.func43, Tryd.ntmps43
  go_wp2_with fail
  refine (pick_any _ _ _ _ h (by omega) (by omega) (by omega)).mono ?_
  rintro e w1 ⟨v, rfl, ⟨hv, _⟩, hr, hg⟩
  obtain ⟨v0, v1⟩ := hv (by omega)
  obtain ⟨k, rfl⟩ := Int.eq_ofNat_of_zero_le v0
  have hgl1 := hr.lt
  clear hv
  go_wp2_with fail
  refine (pick_any _ _ _ _ hr (by omega) (by omega) (by omega)).mono ?_
  rintro e w2 ⟨u, rfl, ⟨hu, _⟩, hr2, hg2⟩
  obtain ⟨u0, u1⟩ := hu (by omega)
  have hgl2 := hr2.lt
  replace hg2 := grown_trans hg hg2
  clear hu hg hr
  have HR := Lib.hid hr2; clear hr2
  have HG := Lib.hid hg2; clear hg2
  by_cases c0 : u = 0
  · subst c0
    by_cases hk : k < s.size
    · have hk1 : (k : Int) < (s.size : Int) := by omega
      have l1 : (s.extract 0 k).size ≤ 1000 := by rw [ByteArray.size_extract]; omega
      have l2 : (s.extract (k + 1) s.size).size ≤ 1000 := by rw [ByteArray.size_extract]; omega
      have l3 : (s.extract 0 k).size + (s.extract (k + 1) s.size).size ≤ s.size := by rw [ByteArray.size_extract, ByteArray.size_extract]; omega
      have L := Lib.hid (And.intro l1 (And.intro l2 l3))
      have hk2 : (k : Int) ≤ (s.size : Int) := by omega
      have hk3 : (k : Int) + 1 ≤ (s.size : Int) := by omega
      have W1 : IntKind.i64.wrap ((k : Int) + 1) = (k : Int) + 1 := IntWalk.i64_in _ (by omega)
      have t1 : ((k : Int) + 1).toNat = k + 1 := by omega
      have p1 : 0 ≤ (k : Int) + 1 := by omega
      clear l1 l2 l3
      go_wp2_with fail
      have C := Lib.hid (of_any (w2.alloc (.cells #[.string ⟨#[48]⟩, .string ⟨#[49]⟩, .string ⟨#[32]⟩, .string ⟨#[45]⟩, .string ⟨#[43]⟩, .string ⟨#[97]⟩, .string ⟨#[46]⟩, .string ⟨#[57]⟩] 9)).drew g (p + 1 + 1) w2.heap.size #[.string ⟨#[48]⟩, .string ⟨#[49]⟩, .string ⟨#[32]⟩, .string ⟨#[45]⟩, .string ⟨#[43]⟩, .string ⟨#[97]⟩, .string ⟨#[46]⟩, .string ⟨#[57]⟩] 9 (Rdr.drew (HR.out.alloc _)) (by omega) (heap_alloc_new w2 _) (by omega) (by simp) (by simp) (by simp [okS, ByteArray.size]) 8 8 (by rfl))
      go_region_with ((go_at_call 73; (with_reducible refine (C.out).mono ?_); (rintro e w3 ⟨m, rfl, hm, hr3, hg3⟩); (have A1 := fun W => addS W (x := s.extract 0 k) (y := m) (by have := L.out; omega) (by omega)); (have A2 := fun W => addS W (x := s.extract 0 k ++ m) (y := s.extract (k + 1) s.size) (by rw [ByteArray.size_append]; have := L.out; omega) (by have := L.out; omega))))
      all_goals go_wp2_with fail
      all_goals go_ret
      all_goals exact ⟨_, rfl, by rw [ByteArray.size_append, ByteArray.size_append]; have := L.out; omega, hr3, grown_trans (grown_drM (grown_alloc HG.out _)) hg3⟩
    · have hk1 : ¬ (k : Int) < (s.size : Int) := by omega
      go_wp2_with fail
      go_ret
      exact ⟨_, rfl, by omega, HR.out.more (by omega), HG.out⟩
  · have e0 : (u == 0) = false := by simp [c0]
    by_cases c1 : u = 1
    · subst c1
      have hk2 : (k : Int) ≤ (s.size : Int) := by omega
      clear c0
      go_wp2_with fail
      go_ret
      exact ⟨_, rfl, by rw [ByteArray.size_extract]; omega, HR.out.more (by omega), HG.out⟩
    · have e1 : (u == 1) = false := by simp [c1]
      by_cases c2 : u = 2
      · subst c2
        clear c0 c1
        have C := Lib.hid (of_any (w2.alloc (.cells #[.string ⟨#[48]⟩, .string ⟨#[32]⟩, .string ⟨#[45]⟩, .string ⟨#[32, 54]⟩, .string ⟨#[120]⟩, .string ⟨#[50]⟩] 9)) g (p + 1 + 1) w2.heap.size #[.string ⟨#[48]⟩, .string ⟨#[32]⟩, .string ⟨#[45]⟩, .string ⟨#[32, 54]⟩, .string ⟨#[120]⟩, .string ⟨#[50]⟩] 9 (HR.out.alloc _) (by omega) (heap_alloc_new w2 _) (by omega) (by simp) (by simp) (by simp [okS, ByteArray.size]) 6 6 (by rfl))
        go_wp2_with fail
        refine (C.out).mono ?_
        rintro e w3 ⟨m, rfl, hm, hr3, hg3⟩
        have A1 := fun W => addS W (x := s) (y := m) (by omega) (by omega)
        have HG3 := Lib.hid (grown_trans (grown_alloc HG.out _) hg3)
        have HR3 := Lib.hid hr3
        clear hr3 hg3
        go_wp2_with fail
        go_ret
        exact ⟨_, rfl, by rw [ByteArray.size_append]; omega, HR3.out, HG3.out⟩
      · have e2 : (u == 2) = false := by simp [c2]
        clear c0 c1 c2
        go_wp2_with fail
        go_ret
        exact ⟨_, rfl, by omega, HR.out.more (by omega), HG.out⟩
end Go.Proofs.YtapalkohfhohhaaDoor
