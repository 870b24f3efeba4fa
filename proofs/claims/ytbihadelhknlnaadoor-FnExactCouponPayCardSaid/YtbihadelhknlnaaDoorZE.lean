import Derived.Test.YtbihadelhknlnaaDoorOwn
import Derived.Test.YtbihadelhknlnaaDoorDrawB
import Derived.Maps.AppendAt
import Derived.Test.YtbihadelhknlnaaDoorAvHold
import Derived.Laws.MakeOwn
/- Numbers drawn, copied and spoilt. -/
namespace Go.Proofs.YtbihadelhknlnaaDoor
open Go.RowKit
/-- .. behind block g. -/
def IntsG (w : World) (g B : Nat) (a : Option Addr) (xs : List Int) : Prop :=
  0 < xs.length → ∃ b off, a = some ⟨b, off, none⟩ ∧ g < b ∧ b < B ∧ ∀ i, i < xs.length → w.cell? ⟨b, off + i, none⟩ = some (.int .i64 (xs.getD i 0))
theorem IntsG.kept {w w' : World} {g : Nat} {a : Option Addr} {xs : List Int} (h : IntsG w g w.heap.size a xs) (k : w.grownBy w' (some g)) : IntsG w' g w'.heap.size a xs := fun hl => by
  obtain ⟨b, off, e, hg, hb, hc⟩ := h hl
  exact ⟨b, off, e, hg, Nat.lt_of_lt_of_le hb k.size, fun i hi => (World.cell?_of_block (w := w) (w' := w') (a := ⟨b, off + i, none⟩) (k.block b hb (fun e => by injection e; omega))).trans (hc i hi)⟩
theorem IntsG.alloc {w : World} {g : Nat} {a : Option Addr} {xs : List Int} (h : IntsG w g w.heap.size a xs) (o : Obj) : IntsG (w.alloc o) g (w.alloc o).heap.size a xs := h.kept (grown_alloc (grown_refl w g) o)
theorem Own.intsG {w : World} {B b cap g : Nat} {xs : List Int} (h : Own w B (.slice (some ⟨b, 0, none⟩) xs.length cap) xs) (hg : g < B) : IntsG w g w.heap.size (some ⟨b, 0, none⟩) xs := fun _ => by
  obtain ⟨b', cap', e, hb, hlt, hc, _⟩ := h.form
  simp only [Value.slice.injEq, Option.some.injEq, Addr.mk.injEq, and_true, true_and] at e
  obtain ⟨rfl, rfl⟩ := e
  exact ⟨b, 0, rfl, by omega, hlt, fun i hi => by rw [Nat.zero_add]; exact hc i hi⟩
theorem rdr_far {a b : World} {g p : Nat} {r : Option Nat} (h : Rdr a g p) (k : a.grownBy b r) (hr : ∀ j, r = some j → g < j) : Rdr b g p := by
  obtain ⟨x, len, cap, q, h0, h1, h2⟩ := h
  have hlt : g < a.heap.size := Rdr.lt ⟨x, len, cap, q, h0, h1, h2⟩
  exact ⟨x, len, cap, q, h0, (k.block g hlt (fun e => by have := hr g e.symm; omega)).trans h1, h2.keep fun i hi => k.block i (by omega) (fun e => by have := hr i e.symm; omega)⟩
/-- Numbers drawn out of a law's input. -/
def DrawnInts (k : Nat) (w : World) (g p : Nat) (e : Ending) (w' : World) : Prop :=
  ∃ a cap xs, e = .returned (.slice a xs.length cap) ∧ IntsG w' g w'.heap.size a xs ∧ xs.length ≤ 100 ∧ (xs.length ≤ cap ∧ cap ≤ maxLen) ∧ Rdr w' g (p + k) ∧ w.grownBy w' (some g)
def Copied (xs : List Int) (w : World) (e : Ending) (w' : World) : Prop := ∃ v, e = .returned v ∧ Own w' w.heap.size v xs ∧ Below w.heap.size w w'
set_option maxHeartbeats 400000 in
theorem copyInts_any (w : World) (b cap : Nat) (xs : List Int) (hc : ∀ i, i < xs.length → w.cell? ⟨b, i, none⟩ = some (.int .i64 (xs.getD i 0))) (hb : b < w.heap.size) (hl : xs.length ≤ 1000) :
    Calls Tryd.prog 48 #[.slice (some ⟨b, 0, none⟩) xs.length cap] w (Copied xs w) := by
  obtain ⟨i0, hi, hz0, hz1, hz2⟩ := info_parts infoInt
  have hnews : ∀ j u, (xs.map (Value.int .i64))[j]? = some u → (w.alloc (.cells #[] 3)).cell? ((⟨b, 0, none⟩ : Addr).add j) = some u := by
    intro j u hu
    have hj : j < xs.length := by
      have := (List.getElem?_eq_some_iff.1 hu).1
      simpa using this
    have e : (⟨b, 0, none⟩ : Addr).add j = ⟨b, j, none⟩ := by unfold Addr.add; split <;> simp_all
    rw [e, World.cell?_of_block (w := w) (a := ⟨b, j, none⟩) (Below.heap_alloc _ _ _ hb), hc j hj]
    rw [List.getElem?_map, List.getElem?_eq_getElem hj] at hu
    rw [List.getD_eq_getElem?_getD, List.getElem?_eq_getElem hj]
    simpa using hu
  have HN := Lib.hid hnews; clear hnews hc
  have HO := Lib.hid (own_new w)
  go_enter Tryd.func48, Tryd.ntmps48
  go_wp2_with (at_builtin; refine wpList_append_own _ rfl _ _ 25 rfl w.heap.size 3 i0 (.int .i64 0) 1 8 Tryd.underlying25 hi hz0 hz1 hz2 rfl (by decide) _ 0 [] rfl HO.out.1 ⟨b, 0, none⟩ xs.length cap (xs.map (Value.int .i64)) rfl (by simp) HN.out (ints_oneCell .i64 xs) (by unfold maxLen; omega) (by omega) (by simp) ?_; intro v' w2 hown' hgrow2 hnil2)
  go_ret
  refine ⟨_, rfl, ⟨by simpa using hown', fun e => ?_⟩, ?_⟩
  · exact HO.out.2 (hnil2.1 e).1
  · exact ((Below.refl _ _).alloc (Nat.le_refl _) _).grown hgrow2 (by simp) (fun j hj => HO.out.far j hj)
set_option maxHeartbeats 1000000 in
theorem spoil_any (w : World) (g p B : Nat) (v : Value) (xs : List Int) (n : Int) (h : Rdr w g p) (hp : p ≤ 100000) (hown : Own w B v xs) (hl : xs.length ≤ 50) (n0 : -1 ≤ n) (n1 : n ≤ 100000) :
    Calls Tryd.prog 32 #[.pointer (some ⟨g, 0, none⟩), v, .int .i64 n] w (DrawnInts 60 w g p) := by
  have hgl := h.lt
  obtain ⟨b, cap, rfl, hb, hbl, hc, _⟩ := hown.form
  have HC := Lib.hid hc; clear hc
  clear hown
  go_enter Tryd.func32, Tryd.ntmps32
  go_wp2_with fail
  refine (copyInts_any _ _ _ _ HC.out hbl (by omega)).mono ?_
  rintro e w1 ⟨v1, rfl, hown1, hb1⟩
  have hr1 := h.below hb1 hgl
  have hg1 := grown_below (g := g) hb1
  clear hb1
  obtain ⟨b1, cap1, rfl, hB1, hbl1, hc1, hf1⟩ := hown1.form
  have HC1 := Lib.hid hc1; clear hc1
  have HF1 := Lib.hid hf1; clear hf1
  have HO1 := Lib.hid hown1; clear hown1
  go_wp2_with fail
  refine (pick_any _ _ _ _ hr1 (by omega) (by omega) (by omega)).mono ?_
  rintro e w2 ⟨s, rfl, ⟨hs, _⟩, hr2, hg2⟩
  obtain ⟨s0, s1⟩ := hs (by omega)
  clear hs
  have hg3 := grown_trans hg1 hg2
  have HO2 := Lib.hid (HO1.out.kept hg2 (by omega))
  have hw2 : w.heap.size ≤ w2.heap.size := Nat.le_trans hg1.size hg2.size
  by_cases c0 : s = 0
  · subst c0
    have HP := Lib.hid ((HO2.out.alloc (.cells #[.int .i64 n] 3)))
    go_wp2_with (at_builtin; refine wpList_push _ rfl _ _ rfl w.heap.size _ xs rfl HP.out w2.heap.size _ n rfl (by simp) (by omega) (by simp; omega) ?_; intro v3 w3 hown3 hg4)
    have hg5 := grown_far (grown_alloc hg3 _) hg4 (fun j hj => HP.out.far j hj)
    have hr3 := hr2.alloc (.cells #[.int .i64 n] 3)
    have hr4 : Rdr w3 g (p + 1) := rdr_far hr3 hg4 (fun j hj => by have := HP.out.far j hj; omega)
    obtain ⟨b3, cap3, rfl, _, _, _, _⟩ := hown3.form
    go_ret
    exact ⟨_, _, _, rfl, hown3.intsG (by omega), by simp; omega, hown3.cap, hr4.more (by omega), hg5⟩
  · have e0 : (s == 0) = false := by simp [c0]
    by_cases c1 : s = 1
    · subst c1
      cases xs with
      | nil =>
        go_wp2_with fail
        go_ret
        exact ⟨_, _, [], rfl, fun hl => by simp at hl, by simp, HO2.out.cap, hr2.more (by omega), hg3⟩
      | cons y ys =>
        have hcl := HO2.out.1.2
        obtain ⟨hlc, hcm⟩ : ys.length + 1 ≤ cap1 ∧ cap1 ≤ maxLen := by
          rcases hcl with ⟨q, _⟩ | ⟨b', cap', cur, q, _, _, q1, q2, _⟩
          · simp at q
          · simp only [Value.slice.injEq, true_and] at q
            rw [q.2]; exact ⟨q1, q2⟩
        unfold maxLen at hcm
        clear hcl
        obtain ⟨b4, cap4, e4, _, hlt4, hc4, _⟩ := HO2.out.form
        simp only [Value.slice.injEq, Option.some.injEq, Addr.mk.injEq, and_true, true_and] at e4
        obtain ⟨rfl, rfl⟩ := e4
        have HC4 := Lib.hid hc4; clear hc4
        have hfin : IntsG w2 g w2.heap.size (some ⟨b1, 1, none⟩) ys := fun _ => ⟨b1, 1, rfl, by omega, hlt4, fun i hi => by
          have := HC4.out (1 + i) (by simp; omega)
          rw [this, Nat.add_comm]; simp⟩
        have HF := Lib.hid hfin; clear hfin
        by_cases hc1 : cap1 = 1
        · have hx1 : ys.length = 0 := by omega
          obtain rfl : ys = [] := List.length_eq_zero_iff.1 hx1
          obtain rfl : cap1 = 1 := hc1
          go_wp2_with fail
          go_ret
          exact ⟨some ⟨b1, 0, none⟩, 0, [], by simp, fun hl => by simp at hl, by simp, ⟨by simp, Nat.zero_le _⟩, hr2.more (by omega), hg3⟩
        · go_wp2_with fail
          go_ret
          exact ⟨some ⟨b1, 1, none⟩, cap1 - 1, ys, by simp, HF.out, by simp at hl; omega, ⟨by omega, by unfold maxLen; omega⟩, hr2.more (by omega), hg3⟩
    · have e1 : (s == 1) = false := by simp [c1]
      by_cases c2 : s = 2
      · subst c2
        cases xs with
        | nil =>
          go_wp2_with fail
          go_ret
          exact ⟨_, _, [], rfl, fun hl => by simp at hl, by simp, HO2.out.cap, hr2.more (by omega), hg3⟩
        | cons y ys =>
          simp at hl
          go_wp2_with fail
          refine (pick_any _ _ _ _ hr2 (by omega) (by omega) (by omega)).mono ?_
          rintro e w3 ⟨t, rfl, ⟨ht, _⟩, hr3, hg4⟩
          obtain ⟨t0, t1⟩ := ht (by omega)
          clear ht
          obtain ⟨k, rfl⟩ := Int.eq_ofNat_of_zero_le t0
          have hk : k < ys.length + 1 := by omega
          have hg5 := grown_trans hg3 hg4
          have HO3 := Lib.hid (HO2.out.kept hg4 (by omega))
          go_wp2_with fail
          refine (one_any (-1) 100000 _ g (p + 1 + 1) w3.heap.size _ _ (hr3.alloc _) (by omega) (heap_alloc_new w3 _) (by have := hr3.lt; omega) (by simp) (by simp) (by simp [okInts, okInt]; omega) 4 4 (by rfl)).mono ?_
          rintro e w4 ⟨z, rfl, hz, hr4, hg6⟩
          have HO4 := Lib.hid ((HO3.out.alloc (.cells #[.int .i64 (-1), .int .i64 n, .int .i64 0, .int .i64 1] 3)).kept hg6 (by omega))
          have hg7 := grown_trans (grown_alloc hg5 _) hg6
          obtain ⟨b4, cap4, e4, hB4, hlt4, hc4, hf4⟩ := HO4.out.form
          simp only [Value.slice.injEq, Option.some.injEq, Addr.mk.injEq, and_true, true_and] at e4
          obtain ⟨rfl, rfl⟩ := e4
          have hck := hc4 k (by simp; omega)
          have hfk := hf4 k
          clear hc4 hf4
          go_wp2_with fail
          go_ret
          obtain ⟨hst, hgs⟩ := HO4.out.1.stored k (.int .i64 z)
          have hO5 : Own (w4.setCell ⟨b1, k, none⟩ (.int .i64 z)) w.heap.size (.slice (some ⟨b1, 0, none⟩) ((y :: ys).set k z).length cap1) ((y :: ys).set k z) := by
            refine ⟨?_, by simp⟩
            rw [List.length_set, List.map_set]
            exact hst
          have hr5 : Rdr (w4.setCell ⟨b1, k, none⟩ (.int .i64 z)) g (p + 4) := rdr_far (hr4.more (by omega)) hgs (fun j hj => by injection hj with hj; omega)
          refine ⟨some ⟨b1, 0, none⟩, cap1, (y :: ys).set k z, ?_, hO5.intsG (by omega), by simp; omega, hO5.cap, hr5.more (by omega), grown_far hg7 hgs (fun j hj => by injection hj with hj; omega)⟩
          simp
      · have e2 : (s == 2) = false := by simp [c2]
        go_wp2_with fail
        go_ret
        exact ⟨_, _, _, rfl, HO2.out.intsG (by omega), by omega, HO2.out.cap, hr2.more (by omega), hg3⟩
end Go.Proofs.YtbihadelhknlnaaDoor

/- Numbers spoilt: at most one more, and none is great. -/
namespace Go.Proofs.YtbihadelhknlnaaDoor
open Go.RowKit
def DrawnIntsB (N k : Nat) (w : World) (g p : Nat) (e : Ending) (w' : World) : Prop :=
  ∃ a cap xs, e = .returned (.slice a xs.length cap) ∧ IntsG w' g w'.heap.size a xs ∧ xs.length ≤ N ∧ (xs.length ≤ cap ∧ cap ≤ maxLen) ∧ Rdr w' g (p + k) ∧ w.grownBy w' (some g) ∧ ∀ x ∈ xs, -1 ≤ x ∧ x ≤ 100000
set_option maxRecDepth 4000 in
set_option maxHeartbeats 1000000 in
theorem spoilB_any (w : World) (g p B : Nat) (v : Value) (xs : List Int) (n : Int) (h : Rdr w g p) (hp : p ≤ 100000) (hown : Own w B v xs) (hl : xs.length ≤ 50) (n0 : -1 ≤ n) (n1 : n ≤ 100000) (hx : ∀ x ∈ xs, -1 ≤ x ∧ x ≤ 100000) :
    Calls Tryd.prog 32 #[.pointer (some ⟨g, 0, none⟩), v, .int .i64 n] w (DrawnIntsB (xs.length + 1) 60 w g p) := by
  have hgl := h.lt
  have HX := Lib.hid hx; clear hx
  obtain ⟨b, cap, rfl, hb, hbl, hc, _⟩ := hown.form
  have HC := Lib.hid hc; clear hc
  clear hown
  go_enter Tryd.func32, Tryd.ntmps32
  go_wp2_with fail
  refine (copyInts_any _ _ _ _ HC.out hbl (by omega)).mono ?_
  rintro e w1 ⟨v1, rfl, hown1, hb1⟩
  have hr1 := h.below hb1 hgl
  have hg1 := grown_below (g := g) hb1
  clear hb1
  obtain ⟨b1, cap1, rfl, hB1, hbl1, hc1, hf1⟩ := hown1.form
  have HC1 := Lib.hid hc1; clear hc1
  have HF1 := Lib.hid hf1; clear hf1
  have HO1 := Lib.hid hown1; clear hown1
  go_wp2_with fail
  refine (pick_any _ _ _ _ hr1 (by omega) (by omega) (by omega)).mono ?_
  rintro e w2 ⟨s, rfl, ⟨hs, _⟩, hr2, hg2⟩
  obtain ⟨s0, s1⟩ := hs (by omega)
  clear hs
  have hg3 := grown_trans hg1 hg2
  have HO2 := Lib.hid (HO1.out.kept hg2 (by omega))
  have hw2 : w.heap.size ≤ w2.heap.size := Nat.le_trans hg1.size hg2.size
  by_cases c0 : s = 0
  · subst c0
    have HP := Lib.hid ((HO2.out.alloc (.cells #[.int .i64 n] 3)))
    go_wp2_with (at_builtin; refine wpList_push _ rfl _ _ rfl w.heap.size _ xs rfl HP.out w2.heap.size _ n rfl (by simp) (by omega) (by simp; omega) ?_; intro v3 w3 hown3 hg4)
    have hg5 := grown_far (grown_alloc hg3 _) hg4 (fun j hj => HP.out.far j hj)
    have hr3 := hr2.alloc (.cells #[.int .i64 n] 3)
    have hr4 : Rdr w3 g (p + 1) := rdr_far hr3 hg4 (fun j hj => by have := HP.out.far j hj; omega)
    obtain ⟨b3, cap3, rfl, _, _, _, _⟩ := hown3.form
    go_ret
    exact ⟨_, _, _, rfl, hown3.intsG (by omega), by simp, hown3.cap, hr4.more (by omega), hg5, fun x hx => by
      rcases List.mem_append.1 hx with hx | hx
      · exact HX.out x hx
      · simp only [List.mem_cons, List.not_mem_nil, or_false] at hx; omega⟩
  · have e0 : (s == 0) = false := by simp [c0]
    by_cases c1 : s = 1
    · subst c1
      cases xs with
      | nil =>
        go_wp2_with fail
        go_ret
        exact ⟨_, _, [], rfl, fun hl => by simp at hl, by simp, HO2.out.cap, hr2.more (by omega), hg3, HX.out⟩
      | cons y ys =>
        have hcl := HO2.out.1.2
        obtain ⟨hlc, hcm⟩ : ys.length + 1 ≤ cap1 ∧ cap1 ≤ maxLen := by
          rcases hcl with ⟨q, _⟩ | ⟨b', cap', cur, q, _, _, q1, q2, _⟩
          · simp at q
          · simp only [Value.slice.injEq, true_and] at q
            rw [q.2]; exact ⟨q1, q2⟩
        unfold maxLen at hcm
        clear hcl
        obtain ⟨b4, cap4, e4, _, hlt4, hc4, _⟩ := HO2.out.form
        simp only [Value.slice.injEq, Option.some.injEq, Addr.mk.injEq, and_true, true_and] at e4
        obtain ⟨rfl, rfl⟩ := e4
        have HC4 := Lib.hid hc4; clear hc4
        have hfin : IntsG w2 g w2.heap.size (some ⟨b1, 1, none⟩) ys := fun _ => ⟨b1, 1, rfl, by omega, hlt4, fun i hi => by
          have := HC4.out (1 + i) (by simp; omega)
          rw [this, Nat.add_comm]; simp⟩
        have HF := Lib.hid hfin; clear hfin
        by_cases hc1 : cap1 = 1
        · have hx1 : ys.length = 0 := by omega
          obtain rfl : ys = [] := List.length_eq_zero_iff.1 hx1
          obtain rfl : cap1 = 1 := hc1
          go_wp2_with fail
          go_ret
          exact ⟨some ⟨b1, 0, none⟩, 0, [], by simp, fun hl => by simp at hl, by simp, ⟨by simp, Nat.zero_le _⟩, hr2.more (by omega), hg3, fun x hx => by cases hx⟩
        · go_wp2_with fail
          go_ret
          exact ⟨some ⟨b1, 1, none⟩, cap1 - 1, ys, by simp, HF.out, by simp; omega, ⟨by omega, by unfold maxLen; omega⟩, hr2.more (by omega), hg3, fun x hx => HX.out x (List.mem_cons_of_mem _ hx)⟩
    · have e1 : (s == 1) = false := by simp [c1]
      by_cases c2 : s = 2
      · subst c2
        cases xs with
        | nil =>
          go_wp2_with fail
          go_ret
          exact ⟨_, _, [], rfl, fun hl => by simp at hl, by simp, HO2.out.cap, hr2.more (by omega), hg3, HX.out⟩
        | cons y ys =>
          simp at hl
          go_wp2_with fail
          refine (pick_any _ _ _ _ hr2 (by omega) (by omega) (by omega)).mono ?_
          rintro e w3 ⟨t, rfl, ⟨ht, _⟩, hr3, hg4⟩
          obtain ⟨t0, t1⟩ := ht (by omega)
          clear ht
          obtain ⟨k, rfl⟩ := Int.eq_ofNat_of_zero_le t0
          have hk : k < ys.length + 1 := by omega
          have hg5 := grown_trans hg3 hg4
          have HO3 := Lib.hid (HO2.out.kept hg4 (by omega))
          go_wp2_with fail
          refine (one_any (-1) 100000 _ g (p + 1 + 1) w3.heap.size _ _ (hr3.alloc _) (by omega) (heap_alloc_new w3 _) (by have := hr3.lt; omega) (by simp) (by simp) (by simp [okInts, okInt]; omega) 4 4 (by rfl)).mono ?_
          rintro e w4 ⟨z, rfl, hz, hr4, hg6⟩
          have HO4 := Lib.hid ((HO3.out.alloc (.cells #[.int .i64 (-1), .int .i64 n, .int .i64 0, .int .i64 1] 3)).kept hg6 (by omega))
          have hg7 := grown_trans (grown_alloc hg5 _) hg6
          obtain ⟨b4, cap4, e4, hB4, hlt4, hc4, hf4⟩ := HO4.out.form
          simp only [Value.slice.injEq, Option.some.injEq, Addr.mk.injEq, and_true, true_and] at e4
          obtain ⟨rfl, rfl⟩ := e4
          have hck := hc4 k (by simp; omega)
          have hfk := hf4 k
          clear hc4 hf4
          go_wp2_with fail
          go_ret
          obtain ⟨hst, hgs⟩ := HO4.out.1.stored k (.int .i64 z)
          have hO5 : Own (w4.setCell ⟨b1, k, none⟩ (.int .i64 z)) w.heap.size (.slice (some ⟨b1, 0, none⟩) ((y :: ys).set k z).length cap1) ((y :: ys).set k z) := by
            refine ⟨?_, by simp⟩
            rw [List.length_set, List.map_set]
            exact hst
          have hr5 : Rdr (w4.setCell ⟨b1, k, none⟩ (.int .i64 z)) g (p + 4) := rdr_far (hr4.more (by omega)) hgs (fun j hj => by injection hj with hj; omega)
          refine ⟨some ⟨b1, 0, none⟩, cap1, (y :: ys).set k z, ?_, hO5.intsG (by omega), by simp, hO5.cap, hr5.more (by omega), grown_far hg7 hgs (fun j hj => by injection hj with hj; omega), fun x hx => by
            rcases List.mem_or_eq_of_mem_set hx with hx | hx
            · exact HX.out x hx
            · subst hx; exact hz⟩
          simp
      · have e2 : (s == 2) = false := by simp [c2]
        go_wp2_with fail
        go_ret
        exact ⟨_, _, _, rfl, HO2.out.intsG (by omega), by omega, HO2.out.cap, hr2.more (by omega), hg3, HX.out⟩
end Go.Proofs.YtbihadelhknlnaaDoor

/- Blocks that are kept while numbers are drawn: the reader alone turns. -/
namespace Go.Proofs.YtbihadelhknlnaaDoor
open Go.RowKit
def Kg (w : World) (g : Nat) (l : List (Nat × TypeId × Array Value)) (W : World) : Prop :=
  g < w.heap.size ∧ w.grownBy W (some g) ∧ ∀ t ∈ l, w.heap.size ≤ t.1 ∧ Blk W t.1 t.2.1 t.2.2
theorem Kg.refl {w : World} {g : Nat} (h : g < w.heap.size) : Kg w g [] w := ⟨h, grown_refl w g, fun t ht => by cases ht⟩
theorem Kg.size {w W : World} {g : Nat} {l : List (Nat × TypeId × Array Value)} (k : Kg w g l W) : w.heap.size ≤ W.heap.size := k.2.1.size
theorem Kg.grown {w W W' : World} {g : Nat} {l : List (Nat × TypeId × Array Value)} (k : Kg w g l W) (hg : W.grownBy W' (some g)) : Kg w g l W' :=
  ⟨k.1, grown_trans k.2.1 hg, fun t ht => ⟨(k.2.2 t ht).1, (k.2.2 t ht).2.grown hg (by have := (k.2.2 t ht).1; have := k.1; omega)⟩⟩
theorem Kg.alloc {w W : World} {g : Nat} {l : List (Nat × TypeId × Array Value)} (k : Kg w g l W) (o : Obj) : Kg w g l (W.alloc o) :=
  ⟨k.1, grown_alloc k.2.1 o, fun t ht => ⟨(k.2.2 t ht).1, (k.2.2 t ht).2.alloc o⟩⟩
theorem Kg.add {w W : World} {g : Nat} {l : List (Nat × TypeId × Array Value)} (k : Kg w g l W) {b : Nat} {T : TypeId} {cs : Array Value} (hb : w.heap.size ≤ b) (h : Blk W b T cs) : Kg w g ((b, T, cs) :: l) W :=
  ⟨k.1, k.2.1, fun t ht => by
    rcases List.mem_cons.1 ht with e | e
    · subst e; exact ⟨hb, h⟩
    · exact k.2.2 t e⟩
theorem Kg.new {w W : World} {g : Nat} {l : List (Nat × TypeId × Array Value)} (k : Kg w g l W) (T : TypeId) (cs : Array Value) : Kg w g ((W.heap.size, T, cs) :: l) (W.alloc (.cells cs T)) := (k.alloc _).add k.size (Blk.new W cs T)
theorem Kg.set {w W : World} {g : Nat} {l : List (Nat × TypeId × Array Value)} (k : Kg w g l W) {p : Addr} (hp : ∀ t ∈ l, t.1 ≠ p.block) (hw : w.heap.size ≤ p.block) (u : Value) : Kg w g l (W.setCell p u) :=
  ⟨k.1, grown_setCell k.2.1 hw u, fun t ht => ⟨(k.2.2 t ht).1, by
    have h := (k.2.2 t ht).2
    unfold Blk at *
    simp only [World.setCell, Array.getElem?_modify]
    rw [if_neg (fun e => hp t ht e.symm), h]⟩⟩
theorem Kg.first {w W : World} {g : Nat} {l : List (Nat × TypeId × Array Value)} {b : Nat} {T : TypeId} {cs : Array Value} (k : Kg w g ((b, T, cs) :: l) W) : Blk W b T cs := (k.2.2 (b, T, cs) (by simp)).2
theorem Kg.second {w W : World} {g : Nat} {l : List (Nat × TypeId × Array Value)} {b : Nat} {T : TypeId} {cs : Array Value} {x : Nat × TypeId × Array Value} (k : Kg w g (x :: (b, T, cs) :: l) W) : Blk W b T cs := (k.2.2 (b, T, cs) (by simp)).2
theorem Kg.drop {w W : World} {g : Nat} {l : List (Nat × TypeId × Array Value)} {x : Nat × TypeId × Array Value} (k : Kg w g (x :: l) W) : Kg w g l W := ⟨k.1, k.2.1, fun t ht => k.2.2 t (List.mem_cons_of_mem _ ht)⟩
theorem Rdr.far {w : World} {g p b i : Nat} (h : Rdr w g p) (hb : g < b) (v : Value) : Rdr (w.setCell ⟨b, i, none⟩ v) g p :=
  h.below ((Below.refl (g + 1) w).setCell (by show g + 1 ≤ b; omega) v) (by omega)
end Go.Proofs.YtbihadelhknlnaaDoor

/- Holdings: valid, drawn. -/
namespace Go.Proofs.YtbihadelhknlnaaDoor
open Go.RowKit
set_option maxHeartbeats 400000 in
theorem hold_any (w : World) (v : Value) (xs : List Int) (hv : R1o w v xs) (hm : xs.length ≤ 9223372036854775807) :
    Calls Tryd.prog 22 #[v] w fun x w' => x = .returned (.bool (Ho.ok xs)) ∧ Below w.heap.size w w' := by
  have HX := Lib.hid (av_Hold w v xs 1 8 hv hm)
  obtain ⟨⟨a, c, rfl⟩, h1⟩ := hv
  clear h1
  go_enter Tryd.func22, Tryd.ntmps22
  go_wp2_with fail
  refine HX.out.mono ?_
  rintro e w1 ⟨rfl, hb⟩
  go_wp2_with fail
  go_ret
  exact ⟨rfl, hb⟩
/-- One number appended; where the row then lies. -/
theorem wpList_pushI (w : World) {ops : Array Oper} {rest : List Oper} {o : Oper} {a : Act} {Q : Exit → Act → World → Prop} (hgd : o.guard = none) (s x : Operand)
    (ho : o.op = .call { callee := .builtin .append, args := #[s, x], argTypes := #[25, 25] })
    (B : Nat) (v : Value) (xs : List Int) (hs : a.eval s = v) (hown : Own w B v xs) (b c : Nat) (y : Int) (hx : a.eval x = .slice (some ⟨b, 0, none⟩) 1 c) (hcell : w.cell? ⟨b, 0, none⟩ = some (.int .i64 y))
    (hl : xs.length + 1 ≤ 1000000) (hB : B ≤ w.heap.size)
    (h : ∀ v' w', Own w' B v' (xs ++ [y]) → w.grownBy w' v.ownBlock → (v'.ownBlock = v.ownBlock ∨ v'.ownBlock = some w.heap.size) → wpList Tryd.prog ops Q rest (a.put o.dst v') w') : wpList Tryd.prog ops Q (o :: rest) a w := by
  obtain ⟨i0, hi, hz0, hz1, hz2⟩ := info_parts infoInt
  refine wpList_append_own_at w hgd s x 25 ho B 3 i0 (.int .i64 0) 1 8 Tryd.underlying25 hi hz0 hz1 hz2 rfl (by decide) v xs.length _ hs hown.1 ⟨b, 0, none⟩ 1 c [.int .i64 y] hx rfl ?_ (ints_oneCell .i64 [y]) (by unfold maxLen; omega) (by omega) hB ?_
  · intro j u hu
    cases j with
    | zero => simp at hu; subst hu; exact hcell
    | succ j => simp at hu
  · intro v' w' h1 h2 h3 h4
    refine h v' w' ⟨by simpa using h1, fun e => ?_⟩ h2 h4
    exact hown.2 (h3.1 e).1
set_option maxHeartbeats 800000 in
theorem sholders_any (w : World) (v : Value) (xs : List Int) (hv : R1o w v xs) (hm : xs.length ≤ 9223372036854775807) :
    Calls Tryd.prog 25 #[v] w fun e w' => e = .returned (.bool (Ho.ok xs)) ∧ w = w' := by
  have HA := Lib.hid (allIn_any w v xs 0 9999 hv hm)
  obtain ⟨⟨a, cap, rfl⟩, -⟩ := hv
  have hO : Ho.ok xs = (btw xs.length 1 8 && xs.all holdB) := rfl
  have hA : xs.all holdB = xs.all (fun x => btw x 0 9999) := rfl
  cases h : btw xs.length 1 8 with
  | false =>
    have E := Lib.hid (hO.trans (show _ = false by rw [h, Bool.false_and]))
    go_enter Tryd.func25, Tryd.ntmps25
    go_wp2_with fail
    refine (inRange_any _ _ _ _).mono ?_
    rintro e w1 ⟨rfl, rfl⟩
    rw [h]
    go_wp2_with fail
    go_ret
    exact ⟨ret_bool E.out.symm, rfl⟩
  | true =>
    have E := Lib.hid (hO.trans (show _ = xs.all (fun x => btw x 0 9999) by rw [h, hA, Bool.true_and]))
    go_enter Tryd.func25, Tryd.ntmps25
    go_wp2_with fail
    refine (inRange_any _ _ _ _).mono ?_
    rintro e w1 ⟨rfl, rfl⟩
    rw [h]
    go_wp2_with fail
    refine HA.out.mono ?_
    rintro e w1 ⟨rfl, rfl⟩
    go_wp2_with fail
    go_ret
    exact ⟨ret_bool E.out.symm, rfl⟩
theorem IntsG.r1p {w : World} {g B : Nat} {a : Option Addr} {xs : List Int} {cap : Nat} (h : IntsG w g B a xs) (hB : B ≤ w.heap.size) : R1o w (.slice a xs.length cap) xs := by
  refine ⟨⟨a, cap, rfl⟩, fun hl => ?_⟩
  obtain ⟨b, off, rfl, -, hb, hc⟩ := h hl
  exact ⟨b, off, cap, rfl, by omega, hc⟩
set_option maxRecDepth 8000 in
set_option maxHeartbeats 2000000 in
theorem anyHolders_any (w : World) (g p : Nat) (h : Rdr w g p) (hp : p ≤ 100) :
    Calls Tryd.prog 18 #[.pointer (some ⟨g, 0, none⟩)] w (DrawnIntsB 10 1000 w g p) := by
  have hgl := h.lt
  go_enter Tryd.func18, Tryd.ntmps18
  go_wp2_with fail
  refine (one_any 0 9 _ g _ (w.heap.size + 1) _ _ ((h.alloc _).alloc _) (by omega) (by simpa using heap_alloc_new (w.alloc (.cells #[] 3)) _) (by omega) (by decide) (by decide) (by decide) 8 8 (by rfl)).mono ?_
  rintro e w3 ⟨n, rfl, ⟨n0, n1⟩, hr3, hg3⟩
  have HG3 := Lib.hid (grown_trans (grown_alloc (grown_alloc (grown_refl w g) (.cells #[] 3)) (.cells #[.int .i64 3, .int .i64 4, .int .i64 2, .int .i64 5, .int .i64 1, .int .i64 0, .int .i64 8, .int .i64 9] 3)) hg3)
  have HO3 := Lib.hid (((own_new w).alloc (.cells #[.int .i64 3, .int .i64 4, .int .i64 2, .int .i64 5, .int .i64 1, .int .i64 0, .int .i64 8, .int .i64 9] 3)).kept hg3 hgl)
  clear hg3
  go_wp2_with fail
  go_loopw [3, 4] (fun o y wr => ∃ (m : Nat) (xs : List Int), y = .int .i64 m ∧ xs.length + m ≤ 9 ∧ Hid (Own wr w.heap.size o xs) ∧ Hid (Rdr wr g (p + 100 + 2 * xs.length)) ∧ Hid (w.grownBy wr (some g)) ∧ Hid (∀ x ∈ xs, -1 ≤ x ∧ x ≤ 100000)) (fun _ y _ => (intOf y).toNat)
  case atStart => exact ⟨n.toNat, [], by simp; omega, by simp; omega, HO3, Lib.hid (hr3.more (by simp)), HG3, Lib.hid (fun x hx => by cases hx)⟩
  case round =>
    obtain ⟨m, xs, rfl, hm, HO, HR, HG, HX⟩ := hrel
    obtain ⟨b6, c6, rfl, hb6, -⟩ := HO.out.form
    by_cases hlt : 0 < m
    · have hlt' : (0 : Int) < m := by omega
      go_wp2_with fail
      refine (pick_any _ _ _ _ HR.out (by omega) (by omega) (by omega)).mono ?_
      rintro e w4 ⟨y, rfl, ⟨hy, -⟩, hr4, hg4⟩
      obtain ⟨y0, y1⟩ := hy (by omega)
      have HO4 := Lib.hid (HO.out.kept hg4 hgl)
      have HG4 := Lib.hid (grown_trans HG.out hg4)
      clear hy hg4
      go_wp2_with fail
      refine (one_any 0 9999 _ g _ w4.heap.size _ _ (hr4.alloc _) (by omega) (heap_alloc_new w4 _) (by have := hr4.lt; omega) (by simp) (by simp) (by simp [okInts, okInt]; omega) 8 8 (by rfl)).mono ?_
      rintro e w5 ⟨x0, rfl, ⟨a0, a1⟩, hr5, hg5⟩
      have HO5 := Lib.hid ((HO4.out.alloc (.cells #[.int .i64 0, .int .i64 1, .int .i64 10, .int .i64 33, .int .i64 100, .int .i64 7, .int .i64 9999, .int .i64 y] 3)).kept hg5 hgl)
      have HG5 := Lib.hid (grown_trans (grown_alloc HG4.out (.cells #[.int .i64 0, .int .i64 1, .int .i64 10, .int .i64 33, .int .i64 100, .int .i64 7, .int .i64 9999, .int .i64 y] 3)) hg5)
      have HR5 := Lib.hid hr5
      have hw5 : w.heap.size ≤ w5.heap.size := HG5.out.size
      clear hg5 hr5 hr4
      have hKN := (Blk.new w5 #[.int .i64 x0] 3).one0
      go_wp2_with (at_builtin; refine wpList_push _ rfl _ _ rfl w.heap.size _ xs rfl (HO5.out.alloc _) w5.heap.size _ x0 rfl hKN (by omega) (by simp; omega) ?_; intro v6 w6 hown6 hg6)
      have HO6 := Lib.hid hown6
      have HG6 := Lib.hid hg6
      clear hown6 hg6 hKN
      go_roundw
      case rel =>
        refine ⟨m - 1, xs ++ [x0], by go_num, by simp; omega, HO6, ?_, ?_, Lib.hid (fun x hx => ?_)⟩
        · have h1 := HR5.out.alloc (.cells #[.int .i64 x0] 3)
          exact Lib.hid ((rdr_far h1 HG6.out (fun j e => by have := HO5.out.far j e; omega)).more (by simp; omega))
        · exact Lib.hid (grown_far (grown_alloc HG5.out _) HG6.out (fun j e => by have := HO5.out.far j e; omega))
        · rcases List.mem_append.1 hx with hx | hx
          · exact HX.out x hx
          · simp only [List.mem_cons, List.not_mem_nil, or_false] at hx; omega
      case measure => simp [intOf] <;> omega
    · obtain rfl : m = 0 := by omega
      have hlt' : ¬ (0 : Int) < ((0 : Nat) : Int) := by omega
      go_wp2_with fail
      refine (spoilB_any _ _ _ _ _ _ _ HR.out (by omega) HO.out (by omega) (by omega) (by omega) HX.out).mono ?_
      rintro e w6 ⟨a6, cap6, es, rfl, hI6, hl6, hc6, hr6, hg6, hx6⟩
      have HG6 := Lib.hid (grown_trans HG.out hg6)
      have HX6 := Lib.hid hx6; clear hx6
      go_wp2_with fail
      go_ret
      exact ⟨a6, cap6, es, rfl, hI6, by omega, hc6, hr6.more (by omega), HG6.out, HX6.out⟩
end Go.Proofs.YtbihadelhknlnaaDoor
