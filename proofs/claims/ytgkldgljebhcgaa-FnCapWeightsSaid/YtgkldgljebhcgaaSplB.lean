/- Numbers spoilt: at most one more, and none is great. -/
import Derived.Test.YtgkldgljebhcgaaSpl
namespace Go.Proofs.Ytgkldgljebhcgaa
open Go.RowKit
def DrawnIntsB (N k : Nat) (w : World) (g p : Nat) (e : Ending) (w' : World) : Prop :=
  ∃ a cap xs, e = .returned (.slice a xs.length cap) ∧ IntsG w' g w'.heap.size a xs ∧ xs.length ≤ N ∧ (xs.length ≤ cap ∧ cap ≤ maxLen) ∧ Rdr w' g (p + k) ∧ w.grownBy w' (some g) ∧ ∀ x ∈ xs, -1 ≤ x ∧ x ≤ 100000
set_option maxRecDepth 4000 in
set_option maxHeartbeats 1000000 in
theorem spoilB_any (w : World) (g p B : Nat) (v : Value) (xs : List Int) (n : Int) (h : Rdr w g p) (hp : p ≤ 100000) (hown : Own w B v xs) (hl : xs.length ≤ 50) (n0 : -1 ≤ n) (n1 : n ≤ 100000) (hx : ∀ x ∈ xs, -1 ≤ x ∧ x ≤ 100000) :
    Calls Try.prog 19 #[.pointer (some ⟨g, 0, none⟩), v, .int .i64 n] w (DrawnIntsB (xs.length + 1) 60 w g p) := by
  have hgl := h.lt
  have HX := Lib.hid hx; clear hx
  obtain ⟨b, cap, rfl, hb, hbl, hc, _⟩ := hown.form
  have HC := Lib.hid hc; clear hc
  clear hown
  go_enter Try.func19, Try.ntmps19
  go_wp2_with fail
  refine (copyInts_any _ _ _ _ HC.out hbl (by omega)).mono ?_
  rintro e w1 ⟨v1, rfl, hown1, hb1⟩
  have hr1 := h.below hb1 hgl
  have hg1 := grown_below (g := g) hb1
  clear hb1
  obtain ⟨b1, cap1, rfl, hB1, hbl1, hc1, hf1⟩ := hown1.form
  have HC1 := Lib.hid hc1; clear hc1
  have HF1 := Lib.hid hf1; clear hf1
  have HO1 := Lib.hid hown1; clear hown1
  go_wp2_with fail
  refine (pick_any _ _ _ _ hr1 (by omega) (by omega) (by omega)).mono ?_
  rintro e w2 ⟨s, rfl, ⟨hs, _⟩, hr2, hg2⟩
  obtain ⟨s0, s1⟩ := hs (by omega)
  clear hs
  have hg3 := grown_trans hg1 hg2
  have HO2 := Lib.hid (HO1.out.kept hg2 (by omega))
  have hw2 : w.heap.size ≤ w2.heap.size := Nat.le_trans hg1.size hg2.size
  by_cases c0 : s = 0
  · subst c0
    have HP := Lib.hid ((HO2.out.alloc (.cells #[.int .i64 n] 3)))
    go_wp2_with (at_builtin; refine wpList_push _ rfl _ _ rfl w.heap.size _ xs rfl HP.out w2.heap.size _ n rfl (by simp) (by omega) (by simp; omega) ?_; intro v3 w3 hown3 hg4)
    have hg5 := grown_far (grown_alloc hg3 _) hg4 (fun j hj => HP.out.far j hj)
    have hr3 := hr2.alloc (.cells #[.int .i64 n] 3)
    have hr4 : Rdr w3 g (p + 1) := rdr_far hr3 hg4 (fun j hj => by have := HP.out.far j hj; omega)
    obtain ⟨b3, cap3, rfl, _, _, _, _⟩ := hown3.form
    go_ret
    exact ⟨_, _, _, rfl, hown3.intsG (by omega), by simp, hown3.cap, hr4.more (by omega), hg5, fun x hx => by
      rcases List.mem_append.1 hx with hx | hx
      · exact HX.out x hx
      · simp only [List.mem_cons, List.not_mem_nil, or_false] at hx; omega⟩
  · have e0 : (s == 0) = false := by simp [c0]
    by_cases c1 : s = 1
    · subst c1
      cases xs with
      | nil =>
        go_wp2_with fail
        go_ret
        exact ⟨_, _, [], rfl, fun hl => by simp at hl, by simp, HO2.out.cap, hr2.more (by omega), hg3, HX.out⟩
      | cons y ys =>
        have hcl := HO2.out.1.2
        obtain ⟨hlc, hcm⟩ : ys.length + 1 ≤ cap1 ∧ cap1 ≤ maxLen := by
          rcases hcl with ⟨q, _⟩ | ⟨b', cap', cur, q, _, _, q1, q2, _⟩
          · simp at q
          · simp only [Value.slice.injEq, true_and] at q
            rw [q.2]; exact ⟨q1, q2⟩
        unfold maxLen at hcm
        clear hcl
        obtain ⟨b4, cap4, e4, _, hlt4, hc4, _⟩ := HO2.out.form
        simp only [Value.slice.injEq, Option.some.injEq, Addr.mk.injEq, and_true, true_and] at e4
        obtain ⟨rfl, rfl⟩ := e4
        have HC4 := Lib.hid hc4; clear hc4
        have hfin : IntsG w2 g w2.heap.size (some ⟨b1, 1, none⟩) ys := fun _ => ⟨b1, 1, rfl, by omega, hlt4, fun i hi => by
          have := HC4.out (1 + i) (by simp; omega)
          rw [this, Nat.add_comm]; simp⟩
        have HF := Lib.hid hfin; clear hfin
        by_cases hc1 : cap1 = 1
        · have hx1 : ys.length = 0 := by omega
          obtain rfl : ys = [] := List.length_eq_zero_iff.1 hx1
          obtain rfl : cap1 = 1 := hc1
          go_wp2_with fail
          go_ret
          exact ⟨some ⟨b1, 0, none⟩, 0, [], by simp, fun hl => by simp at hl, by simp, ⟨by simp, Nat.zero_le _⟩, hr2.more (by omega), hg3, fun x hx => by cases hx⟩
        · go_wp2_with fail
          go_ret
          exact ⟨some ⟨b1, 1, none⟩, cap1 - 1, ys, by simp, HF.out, by simp; omega, ⟨by omega, by unfold maxLen; omega⟩, hr2.more (by omega), hg3, fun x hx => HX.out x (List.mem_cons_of_mem _ hx)⟩
    · have e1 : (s == 1) = false := by simp [c1]
      by_cases c2 : s = 2
      · subst c2
        cases xs with
        | nil =>
          go_wp2_with fail
          go_ret
          exact ⟨_, _, [], rfl, fun hl => by simp at hl, by simp, HO2.out.cap, hr2.more (by omega), hg3, HX.out⟩
        | cons y ys =>
          simp at hl
          go_wp2_with fail
          refine (pick_any _ _ _ _ hr2 (by omega) (by omega) (by omega)).mono ?_
          rintro e w3 ⟨t, rfl, ⟨ht, _⟩, hr3, hg4⟩
          obtain ⟨t0, t1⟩ := ht (by omega)
          clear ht
          obtain ⟨k, rfl⟩ := Int.eq_ofNat_of_zero_le t0
          have hk : k < ys.length + 1 := by omega
          have hg5 := grown_trans hg3 hg4
          have HO3 := Lib.hid (HO2.out.kept hg4 (by omega))
          go_wp2_with fail
          refine (one_any (-1) 100000 _ g (p + 1 + 1) w3.heap.size _ _ (hr3.alloc _) (by omega) (heap_alloc_new w3 _) (by have := hr3.lt; omega) (by simp) (by simp) (by simp [okInts, okInt]; omega) 4 4 (by rfl)).mono ?_
          rintro e w4 ⟨z, rfl, hz, hr4, hg6⟩
          have HO4 := Lib.hid ((HO3.out.alloc (.cells #[.int .i64 (-1), .int .i64 n, .int .i64 0, .int .i64 1] 3)).kept hg6 (by omega))
          have hg7 := grown_trans (grown_alloc hg5 _) hg6
          obtain ⟨b4, cap4, e4, hB4, hlt4, hc4, hf4⟩ := HO4.out.form
          simp only [Value.slice.injEq, Option.some.injEq, Addr.mk.injEq, and_true, true_and] at e4
          obtain ⟨rfl, rfl⟩ := e4
          have hck := hc4 k (by simp; omega)
          have hfk := hf4 k
          clear hc4 hf4
          go_wp2_with fail
          go_ret
          obtain ⟨hst, hgs⟩ := HO4.out.1.stored k (.int .i64 z)
          have hO5 : Own (w4.setCell ⟨b1, k, none⟩ (.int .i64 z)) w.heap.size (.slice (some ⟨b1, 0, none⟩) ((y :: ys).set k z).length cap1) ((y :: ys).set k z) := by
            refine ⟨?_, by simp⟩
            rw [List.length_set, List.map_set]
            exact hst
          have hr5 : Rdr (w4.setCell ⟨b1, k, none⟩ (.int .i64 z)) g (p + 4) := rdr_far (hr4.more (by omega)) hgs (fun j hj => by injection hj with hj; omega)
          refine ⟨some ⟨b1, 0, none⟩, cap1, (y :: ys).set k z, ?_, hO5.intsG (by omega), by simp, hO5.cap, hr5.more (by omega), grown_far hg7 hgs (fun j hj => by injection hj with hj; omega), fun x hx => by
            rcases List.mem_or_eq_of_mem_set hx with hx | hx
            · exact HX.out x hx
            · subst hx; exact hz⟩
          simp
      · have e2 : (s == 2) = false := by simp [c2]
        go_wp2_with fail
        go_ret
        exact ⟨_, _, _, rfl, HO2.out.intsG (by omega), by omega, HO2.out.cap, hr2.more (by omega), hg3, HX.out⟩
end Go.Proofs.Ytgkldgljebhcgaa
