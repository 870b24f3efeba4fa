/- Holidays drawn out of a law's input. -/
import Derived.Test.YtdmamojidefdaaaHolS
import Derived.Maps.AppendAt
namespace Go.Proofs.Ytdmamojidefdaaa
open Go.RowKit
theorem infoInt : (Try.prog.info? 3).map (fun i => (i.zero, i.size, i.bytes)) = some (some (.int .i64 0), 1, 8) := by kernel_rfl
/-- A row of numbers that the call has made. -/
def Own (w : World) (B : Nat) (v : Value) (xs : List Int) : Prop := w.ownsRow B 3 1 v xs.length (xs.map (Value.int .i64)) ∧ v ≠ .slice none 0 0
theorem Own.form {w : World} {B : Nat} {v : Value} {xs : List Int} (h : Own w B v xs) :
    ∃ b cap, v = .slice (some ⟨b, 0, none⟩) xs.length cap ∧ B ≤ b ∧ b < w.heap.size ∧ (∀ i, i < xs.length → w.cell? ⟨b, i, none⟩ = some (.int .i64 (xs.getD i 0))) ∧ (∀ i, w.frozen? ⟨b, i, none⟩ = false) := by
  obtain ⟨h1, h2⟩ := h
  rcases h1.2 with ⟨h3, _⟩ | ⟨b, cap, cur, rfl, hb, hblk, _⟩
  · exact absurd h3 h2
  · refine ⟨b, cap, rfl, hb, ?_, fun i hi => ?_, fun i => h1.frozenAt i⟩
    · rcases Nat.lt_or_ge b w.heap.size with hlt | hge
      · exact hlt
      · rw [Array.getElem?_eq_none hge] at hblk; cases hblk
    · rw [h1.cellAt i (by omega)]
      rw [List.getElem?_map, List.getElem?_eq_getElem hi, List.getD_eq_getElem?_getD, List.getElem?_eq_getElem hi]
      rfl
theorem Own.kept {w w' : World} {B g : Nat} {v : Value} {xs : List Int} (h : Own w B v xs) (hg : w.grownBy w' (some g)) (hlt : g < B) : Own w' B v xs :=
  ⟨h.1.kept hg (.inr fun e => by have := (h.1.lt g e).1; omega), h.2⟩
theorem Own.alloc {w : World} {B : Nat} {v : Value} {xs : List Int} (h : Own w B v xs) (o : Obj) : Own (w.alloc o) B v xs := ⟨h.1.alloc o, h.2⟩
theorem Own.ints {w : World} {B b cap : Nat} {xs : List Int} (h : Own w B (.slice (some ⟨b, 0, none⟩) xs.length cap) xs) : Ints w w.heap.size (some ⟨b, 0, none⟩) xs := fun _ => by
  obtain ⟨b', cap', e, _, hlt, hc, _⟩ := h.form
  simp only [Value.slice.injEq, Option.some.injEq, Addr.mk.injEq, and_true, true_and] at e
  obtain ⟨rfl, rfl⟩ := e
  exact ⟨b, 0, rfl, hlt, fun i hi => by rw [Nat.zero_add]; exact hc i hi⟩
/-- .. behind block g. -/
def IntsG (w : World) (g B : Nat) (a : Option Addr) (xs : List Int) : Prop :=
  0 < xs.length → ∃ b off, a = some ⟨b, off, none⟩ ∧ g < b ∧ b < B ∧ ∀ i, i < xs.length → w.cell? ⟨b, off + i, none⟩ = some (.int .i64 (xs.getD i 0))
theorem IntsG.ints {w : World} {g B : Nat} {a : Option Addr} {xs : List Int} (h : IntsG w g B a xs) : Ints w B a xs := fun hl => by
  obtain ⟨b, off, e, _, hb, hc⟩ := h hl
  exact ⟨b, off, e, hb, hc⟩
theorem IntsG.kept {w w' : World} {g : Nat} {a : Option Addr} {xs : List Int} (h : IntsG w g w.heap.size a xs) (k : w.grownBy w' (some g)) : IntsG w' g w'.heap.size a xs := fun hl => by
  obtain ⟨b, off, e, hg, hb, hc⟩ := h hl
  exact ⟨b, off, e, hg, Nat.lt_of_lt_of_le hb k.size, fun i hi => (World.cell?_of_block (w := w) (w' := w') (a := ⟨b, off + i, none⟩) (k.block b hb (fun e => by injection e; omega))).trans (hc i hi)⟩
theorem IntsG.alloc {w : World} {g : Nat} {a : Option Addr} {xs : List Int} (h : IntsG w g w.heap.size a xs) (o : Obj) : IntsG (w.alloc o) g (w.alloc o).heap.size a xs := h.kept (grown_alloc (grown_refl w g) o)
theorem Own.intsG {w : World} {B b cap g : Nat} {xs : List Int} (h : Own w B (.slice (some ⟨b, 0, none⟩) xs.length cap) xs) (hg : g < B) : IntsG w g w.heap.size (some ⟨b, 0, none⟩) xs := fun _ => by
  obtain ⟨b', cap', e, hb, hlt, hc, _⟩ := h.form
  simp only [Value.slice.injEq, Option.some.injEq, Addr.mk.injEq, and_true, true_and] at e
  obtain ⟨rfl, rfl⟩ := e
  exact ⟨b, 0, rfl, by omega, hlt, fun i hi => by rw [Nat.zero_add]; exact hc i hi⟩
theorem Own.cap {w : World} {B b cap : Nat} {xs : List Int} (h : Own w B (.slice (some ⟨b, 0, none⟩) xs.length cap) xs) : xs.length ≤ cap ∧ cap ≤ maxLen := by
  rcases h.1.2 with ⟨q, _⟩ | ⟨b', cap', cur, q, _, _, q1, q2, _⟩
  · simp at q
  · simp only [Value.slice.injEq, true_and] at q
    rw [q.2]; exact ⟨q1, q2⟩
theorem own_new (w : World) : Own (w.alloc (.cells #[] 3)) w.heap.size (.slice (some ⟨w.heap.size, 0, none⟩) 0 0) [] :=
  ⟨World.ownsRow_lit w #[] 0 (Nat.le_refl _) (Nat.zero_le _) (by simp), by simp⟩
/-- One number appended. -/
theorem wpList_push (w : World) {ops : Array Oper} {rest : List Oper} {o : Oper} {a : Act} {Q : Exit → Act → World → Prop} (hgd : o.guard = none) (s x : Operand)
    (ho : o.op = .call { callee := .builtin .append, args := #[s, x], argTypes := #[23, 23] })
    (B : Nat) (v : Value) (xs : List Int) (hs : a.eval s = v) (hown : Own w B v xs) (b c : Nat) (y : Int) (hx : a.eval x = .slice (some ⟨b, 0, none⟩) 1 c) (hcell : w.cell? ⟨b, 0, none⟩ = some (.int .i64 y))
    (hl : xs.length + 1 ≤ 1000000) (hB : B ≤ w.heap.size)
    (h : ∀ v' w', Own w' B v' (xs ++ [y]) → w.grownBy w' v.ownBlock → wpList Try.prog ops Q rest (a.put o.dst v') w') : wpList Try.prog ops Q (o :: rest) a w := by
  obtain ⟨i0, hi, hz0, hz1, hz2⟩ := info_parts infoInt
  refine wpList_append_own w hgd s x 23 ho B 3 i0 (.int .i64 0) 1 8 Try.underlying23 hi hz0 hz1 hz2 rfl (by decide) v xs.length _ hs hown.1 ⟨b, 0, none⟩ 1 c [.int .i64 y] hx rfl ?_ (ints_oneCell .i64 [y]) (by unfold maxLen; omega) (by omega) hB ?_
  · intro j u hu
    cases j with
    | zero => simp at hu; subst hu; exact hcell
    | succ j => simp at hu
  · intro v' w' h1 h2 h3
    refine h v' w' ⟨by simpa using h1, fun e => ?_⟩ h2
    exact hown.2 (h3.1 e).1
theorem grown_far {a b c : World} {g : Nat} {r : Option Nat} (h : a.grownBy b (some g)) (k : b.grownBy c r) (hr : ∀ j, r = some j → a.heap.size ≤ j) : a.grownBy c (some g) :=
  ⟨k.os.trans h.os, k.tape.trans h.tape, k.output.trans h.output, Nat.le_trans h.size k.size, fun i hi hne => (k.block i (Nat.lt_of_lt_of_le hi h.size) (fun e => by have := hr i e.symm; omega)).trans (h.block i hi hne)⟩
theorem Own.far {w : World} {B : Nat} {v : Value} {xs : List Int} (h : Own w B v xs) : ∀ j, v.ownBlock = some j → B ≤ j := fun j e => (h.1.lt j e).1
theorem rdr_far {a b : World} {g p : Nat} {r : Option Nat} (h : Rdr a g p) (k : a.grownBy b r) (hr : ∀ j, r = some j → g < j) : Rdr b g p := by
  obtain ⟨x, len, cap, q, h0, h1, h2⟩ := h
  have hlt : g < a.heap.size := Rdr.lt ⟨x, len, cap, q, h0, h1, h2⟩
  exact ⟨x, len, cap, q, h0, (k.block g hlt (fun e => by have := hr g e.symm; omega)).trans h1, h2.keep fun i hi => k.block i (by omega) (fun e => by have := hr i e.symm; omega)⟩
/-- Numbers drawn out of a law's input. -/
def DrawnInts (k : Nat) (w : World) (g p : Nat) (e : Ending) (w' : World) : Prop :=
  ∃ a cap xs, e = .returned (.slice a xs.length cap) ∧ IntsG w' g w'.heap.size a xs ∧ xs.length ≤ 100 ∧ (xs.length ≤ cap ∧ cap ≤ maxLen) ∧ Rdr w' g (p + k) ∧ w.grownBy w' (some g)
def Copied (xs : List Int) (w : World) (e : Ending) (w' : World) : Prop := ∃ v, e = .returned v ∧ Own w' w.heap.size v xs ∧ Below w.heap.size w w'
set_option maxHeartbeats 400000 in
theorem copyInts_any (w : World) (b cap : Nat) (xs : List Int) (hc : ∀ i, i < xs.length → w.cell? ⟨b, i, none⟩ = some (.int .i64 (xs.getD i 0))) (hb : b < w.heap.size) (hl : xs.length ≤ 1000) :
    Calls Try.prog 34 #[.slice (some ⟨b, 0, none⟩) xs.length cap] w (Copied xs w) := by
  obtain ⟨i0, hi, hz0, hz1, hz2⟩ := info_parts infoInt
  have hnews : ∀ j u, (xs.map (Value.int .i64))[j]? = some u → (w.alloc (.cells #[] 3)).cell? ((⟨b, 0, none⟩ : Addr).add j) = some u := by
    intro j u hu
    have hj : j < xs.length := by
      have := (List.getElem?_eq_some_iff.1 hu).1
      simpa using this
    have e : (⟨b, 0, none⟩ : Addr).add j = ⟨b, j, none⟩ := by unfold Addr.add; split <;> simp_all
    rw [e, World.cell?_of_block (w := w) (a := ⟨b, j, none⟩) (Below.heap_alloc _ _ _ hb), hc j hj]
    rw [List.getElem?_map, List.getElem?_eq_getElem hj] at hu
    rw [List.getD_eq_getElem?_getD, List.getElem?_eq_getElem hj]
    simpa using hu
  have HN := Lib.hid hnews; clear hnews hc
  have HO := Lib.hid (own_new w)
  go_enter Try.func34, Try.ntmps34
  go_wp2_with (at_builtin; refine wpList_append_own _ rfl _ _ 23 rfl w.heap.size 3 i0 (.int .i64 0) 1 8 Try.underlying23 hi hz0 hz1 hz2 rfl (by decide) _ 0 [] rfl HO.out.1 ⟨b, 0, none⟩ xs.length cap (xs.map (Value.int .i64)) rfl (by simp) HN.out (ints_oneCell .i64 xs) (by unfold maxLen; omega) (by omega) (by simp) ?_; intro v' w2 hown' hgrow2 hnil2)
  go_ret
  refine ⟨_, rfl, ⟨by simpa using hown', fun e => ?_⟩, ?_⟩
  · exact HO.out.2 (hnil2.1 e).1
  · exact ((Below.refl _ _).alloc (Nat.le_refl _) _).grown hgrow2 (by simp) (fun j hj => HO.out.far j hj)
set_option maxHeartbeats 1000000 in
theorem spoil_any (w : World) (g p B : Nat) (v : Value) (xs : List Int) (n : Int) (h : Rdr w g p) (hp : p ≤ 100000) (hown : Own w B v xs) (hl : xs.length ≤ 50) (n0 : -1 ≤ n) (n1 : n ≤ 100000) :
    Calls Try.prog 30 #[.pointer (some ⟨g, 0, none⟩), v, .int .i64 n] w (DrawnInts 60 w g p) := by
  have hgl := h.lt
  obtain ⟨b, cap, rfl, hb, hbl, hc, _⟩ := hown.form
  have HC := Lib.hid hc; clear hc
  clear hown
  go_enter Try.func30, Try.ntmps30
  go_wp2_with fail
  refine (copyInts_any _ _ _ _ HC.out hbl (by omega)).mono ?_
  rintro e w1 ⟨v1, rfl, hown1, hb1⟩
  have hr1 := h.below hb1 hgl
  have hg1 := grown_below (g := g) hb1
  clear hb1
  obtain ⟨b1, cap1, rfl, hB1, hbl1, hc1, hf1⟩ := hown1.form
  have HC1 := Lib.hid hc1; clear hc1
  have HF1 := Lib.hid hf1; clear hf1
  have HO1 := Lib.hid hown1; clear hown1
  go_wp2_with fail
  refine (pick_any _ _ _ _ hr1 (by omega) (by omega) (by omega)).mono ?_
  rintro e w2 ⟨s, rfl, ⟨hs, _⟩, hr2, hg2⟩
  obtain ⟨s0, s1⟩ := hs (by omega)
  clear hs
  have hg3 := grown_trans hg1 hg2
  have HO2 := Lib.hid (HO1.out.kept hg2 (by omega))
  have hw2 : w.heap.size ≤ w2.heap.size := Nat.le_trans hg1.size hg2.size
  by_cases c0 : s = 0
  · subst c0
    have HP := Lib.hid ((HO2.out.alloc (.cells #[.int .i64 n] 3)))
    go_wp2_with (at_builtin; refine wpList_push _ rfl _ _ rfl w.heap.size _ xs rfl HP.out w2.heap.size _ n rfl (by simp) (by omega) (by simp; omega) ?_; intro v3 w3 hown3 hg4)
    have hg5 := grown_far (grown_alloc hg3 _) hg4 (fun j hj => HP.out.far j hj)
    have hr3 := hr2.alloc (.cells #[.int .i64 n] 3)
    have hr4 : Rdr w3 g (p + 1) := rdr_far hr3 hg4 (fun j hj => by have := HP.out.far j hj; omega)
    obtain ⟨b3, cap3, rfl, _, _, _, _⟩ := hown3.form
    go_ret
    exact ⟨_, _, _, rfl, hown3.intsG (by omega), by simp; omega, hown3.cap, hr4.more (by omega), hg5⟩
  · have e0 : (s == 0) = false := by simp [c0]
    by_cases c1 : s = 1
    · subst c1
      cases xs with
      | nil =>
        go_wp2_with fail
        go_ret
        exact ⟨_, _, [], rfl, fun hl => by simp at hl, by simp, HO2.out.cap, hr2.more (by omega), hg3⟩
      | cons y ys =>
        have hcl := HO2.out.1.2
        obtain ⟨hlc, hcm⟩ : ys.length + 1 ≤ cap1 ∧ cap1 ≤ maxLen := by
          rcases hcl with ⟨q, _⟩ | ⟨b', cap', cur, q, _, _, q1, q2, _⟩
          · simp at q
          · simp only [Value.slice.injEq, true_and] at q
            rw [q.2]; exact ⟨q1, q2⟩
        unfold maxLen at hcm
        clear hcl
        obtain ⟨b4, cap4, e4, _, hlt4, hc4, _⟩ := HO2.out.form
        simp only [Value.slice.injEq, Option.some.injEq, Addr.mk.injEq, and_true, true_and] at e4
        obtain ⟨rfl, rfl⟩ := e4
        have HC4 := Lib.hid hc4; clear hc4
        have hfin : IntsG w2 g w2.heap.size (some ⟨b1, 1, none⟩) ys := fun _ => ⟨b1, 1, rfl, by omega, hlt4, fun i hi => by
          have := HC4.out (1 + i) (by simp; omega)
          rw [this, Nat.add_comm]; simp⟩
        have HF := Lib.hid hfin; clear hfin
        by_cases hc1 : cap1 = 1
        · have hx1 : ys.length = 0 := by omega
          obtain rfl : ys = [] := List.length_eq_zero_iff.1 hx1
          obtain rfl : cap1 = 1 := hc1
          go_wp2_with fail
          go_ret
          exact ⟨some ⟨b1, 0, none⟩, 0, [], by simp, fun hl => by simp at hl, by simp, ⟨by simp, Nat.zero_le _⟩, hr2.more (by omega), hg3⟩
        · go_wp2_with fail
          go_ret
          exact ⟨some ⟨b1, 1, none⟩, cap1 - 1, ys, by simp, HF.out, by simp at hl; omega, ⟨by omega, by unfold maxLen; omega⟩, hr2.more (by omega), hg3⟩
    · have e1 : (s == 1) = false := by simp [c1]
      by_cases c2 : s = 2
      · subst c2
        cases xs with
        | nil =>
          go_wp2_with fail
          go_ret
          exact ⟨_, _, [], rfl, fun hl => by simp at hl, by simp, HO2.out.cap, hr2.more (by omega), hg3⟩
        | cons y ys =>
          simp at hl
          go_wp2_with fail
          refine (pick_any _ _ _ _ hr2 (by omega) (by omega) (by omega)).mono ?_
          rintro e w3 ⟨t, rfl, ⟨ht, _⟩, hr3, hg4⟩
          obtain ⟨t0, t1⟩ := ht (by omega)
          clear ht
          obtain ⟨k, rfl⟩ := Int.eq_ofNat_of_zero_le t0
          have hk : k < ys.length + 1 := by omega
          have hg5 := grown_trans hg3 hg4
          have HO3 := Lib.hid (HO2.out.kept hg4 (by omega))
          go_wp2_with fail
          refine (one_any (-1) 100000 _ g (p + 1 + 1) w3.heap.size _ _ (hr3.alloc _) (by omega) (heap_alloc_new w3 _) (by have := hr3.lt; omega) (by simp) (by simp) (by simp [okInts, okInt]; omega) 4 4 (by rfl)).mono ?_
          rintro e w4 ⟨z, rfl, hz, hr4, hg6⟩
          have HO4 := Lib.hid ((HO3.out.alloc (.cells #[.int .i64 (-1), .int .i64 n, .int .i64 0, .int .i64 1] 3)).kept hg6 (by omega))
          have hg7 := grown_trans (grown_alloc hg5 _) hg6
          obtain ⟨b4, cap4, e4, hB4, hlt4, hc4, hf4⟩ := HO4.out.form
          simp only [Value.slice.injEq, Option.some.injEq, Addr.mk.injEq, and_true, true_and] at e4
          obtain ⟨rfl, rfl⟩ := e4
          have hck := hc4 k (by simp; omega)
          have hfk := hf4 k
          clear hc4 hf4
          go_wp2_with fail
          go_ret
          obtain ⟨hst, hgs⟩ := HO4.out.1.stored k (.int .i64 z)
          have hO5 : Own (w4.setCell ⟨b1, k, none⟩ (.int .i64 z)) w.heap.size (.slice (some ⟨b1, 0, none⟩) ((y :: ys).set k z).length cap1) ((y :: ys).set k z) := by
            refine ⟨?_, by simp⟩
            rw [List.length_set, List.map_set]
            exact hst
          have hr5 : Rdr (w4.setCell ⟨b1, k, none⟩ (.int .i64 z)) g (p + 4) := rdr_far (hr4.more (by omega)) hgs (fun j hj => by injection hj with hj; omega)
          refine ⟨some ⟨b1, 0, none⟩, cap1, (y :: ys).set k z, ?_, hO5.intsG (by omega), by simp; omega, hO5.cap, hr5.more (by omega), grown_far hg7 hgs (fun j hj => by injection hj with hj; omega)⟩
          simp
      · have e2 : (s == 2) = false := by simp [c2]
        go_wp2_with fail
        go_ret
        exact ⟨_, _, _, rfl, HO2.out.intsG (by omega), by omega, HO2.out.cap, hr2.more (by omega), hg3⟩
set_option maxHeartbeats 1000000 in
theorem anyHol_any (n : Int) (w : World) (g p : Nat) (h : Rdr w g p) (hp : p ≤ 1000) (n0 : -1 ≤ n) (n1 : n ≤ 40000) :
    Calls Try.prog 21 #[.pointer (some ⟨g, 0, none⟩), .int .i64 n] w (DrawnInts 100 w g p) := by
  have hgl := h.lt
  go_enter Try.func21, Try.ntmps21
  go_wp2_with fail
  refine (pick_any _ _ _ _ (h.alloc _) (by omega) (by omega) (by omega)).mono ?_
  rintro e w1 ⟨v, rfl, ⟨hv, _⟩, hr1, hg1⟩
  obtain ⟨v0, v1⟩ := hv (by omega)
  clear hv
  obtain hs | hs : 0 < n - v ∨ n - v ≤ 0 := by omega
  all_goals
    have HO1 := Lib.hid ((own_new w).kept hg1 hgl)
    have hg1' := grown_trans (grown_alloc (grown_refl w g) _) hg1
    go_wp2_with fail
    refine (one_any 0 13 _ g (p + 1) w1.heap.size _ _ (hr1.alloc _) (by omega) (heap_alloc_new w1 _) (by have := hr1.lt; omega) (by decide) (by decide) (by decide) 7 7 (by rfl)).mono ?_
    rintro e w2 ⟨K, rfl, ⟨K0, K1⟩, hr2, hg2⟩
    have HO2 := Lib.hid ((HO1.out.alloc (.cells #[.int .i64 2, .int .i64 3, .int .i64 4, .int .i64 1, .int .i64 0, .int .i64 12, .int .i64 13] 3)).kept hg2 hgl)
    have hg2' := grown_trans (grown_alloc hg1' _) hg2
    have hw2 : w.heap.size ≤ w2.heap.size := hg2'.size
    clear hg1 hg2 hg1' HO1 hr1
    go_wp2_with fail
    go_loopw [5, 6, 7] (fun s t k wr => ∃ (j : Nat) (xs : List Int) (q : Int), (j : Int) ≤ K ∧ xs.length = j ∧ k = .int .i64 (K - j) ∧ t = .int .i64 q ∧ 0 ≤ q ∧ q ≤ 40000 + 5 * j ∧ Own wr w.heap.size s xs ∧ Rdr wr g (p + 2 + 2 * j) ∧ w.grownBy wr (some g)) (fun _ _ k _ => (intOf k).toNat)
    case atStart => exact ⟨0, [], _, by omega, rfl, by simp, rfl, by omega, by omega, HO2.out, hr2, hg2'⟩
    case round =>
      obtain ⟨j, xs, q, hj, hx, rfl, rfl, q0, q1, hO, hr, hg⟩ := hrel
      have HX := Lib.hid hx
      have hxl : xs.length ≤ 13 := by omega
      clear hx
      have HO := Lib.hid hO
      obtain ⟨b, cap, rfl, hB, hbl, _, _⟩ := hO.form
      clear hO
      by_cases hlt : 0 < K - j
      · go_wp2_with fail
        refine (pick_any _ _ _ _ hr (by omega) (by omega) (by omega)).mono ?_
        rintro e w3 ⟨v3, rfl, ⟨hv, _⟩, hr3, hg3⟩
        obtain ⟨v30, v31⟩ := hv (by omega)
        clear hv
        have HO3 := Lib.hid (HO.out.kept hg3 hgl)
        have hg3' := grown_trans hg hg3
        have hw3 : w.heap.size ≤ w3.heap.size := hg3'.size
        have HO4 := Lib.hid (HO3.out.alloc (.cells #[.int .i64 q] 3))
        have HO5 := Lib.hid (HO3.out.alloc (.cells #[.int .i64 (36524 + v3)] 3))
        by_cases hm : q ≤ 36524 + v3
        · go_wp2_with (at_builtin; refine wpList_push _ rfl _ _ rfl w.heap.size _ xs rfl HO4.out w3.heap.size _ q rfl (by simp) (by omega) (by simp; omega) ?_; intro v4 w4 hown4 hg4)
          have hg4' := grown_far (grown_alloc hg3' _) hg4 (fun j hj => HO4.out.far j hj)
          have hr4 : Rdr w4 g (p + 2 + 2 * j + 1) := rdr_far (hr3.alloc _) hg4 (fun j hj => by have := HO4.out.far j hj; omega)
          refine (pick_any _ _ _ _ hr4 (by omega) (by omega) (by omega)).mono ?_
          rintro e w5 ⟨v5, rfl, ⟨hv, _⟩, hr5, hg5⟩
          obtain ⟨v50, v51⟩ := hv (by omega)
          clear hv hg4
          have HO6 := Lib.hid (hown4.kept hg5 hgl)
          clear hown4
          go_wp2_with fail
          go_roundw
          case rel => exact ⟨j + 1, xs ++ [q], _, by omega, by have := HX.out; simp; omega, by congr 1; omega, rfl, by omega, by omega, HO6.out, hr5.more (by omega), grown_trans hg4' hg5⟩
          case measure => simp [intOf]; omega
        · go_wp2_with (at_builtin; refine wpList_push _ rfl _ _ rfl w.heap.size _ xs rfl HO5.out w3.heap.size _ (36524 + v3) rfl (by simp) (by omega) (by simp; omega) ?_; intro v4 w4 hown4 hg4)
          have hg4' := grown_far (grown_alloc hg3' _) hg4 (fun j hj => HO5.out.far j hj)
          have hr4 : Rdr w4 g (p + 2 + 2 * j + 1) := rdr_far (hr3.alloc _) hg4 (fun j hj => by have := HO5.out.far j hj; omega)
          refine (pick_any _ _ _ _ hr4 (by omega) (by omega) (by omega)).mono ?_
          rintro e w5 ⟨v5, rfl, ⟨hv, _⟩, hr5, hg5⟩
          obtain ⟨v50, v51⟩ := hv (by omega)
          clear hv hg4
          have HO6 := Lib.hid (hown4.kept hg5 hgl)
          clear hown4
          go_wp2_with fail
          go_roundw
          case rel => exact ⟨j + 1, xs ++ [36524 + v3], _, by omega, by have := HX.out; simp; omega, by congr 1; omega, rfl, by omega, by omega, HO6.out, hr5.more (by omega), grown_trans hg4' hg5⟩
          case measure => simp [intOf]; omega
      · go_wp2_with fail
        refine (pick_any _ _ _ _ hr (by omega) (by omega) (by omega)).mono ?_
        rintro e w3 ⟨v3, rfl, _, hr3, hg3⟩
        have HO3 := Lib.hid (HO.out.kept hg3 hgl)
        have hg3' := grown_trans hg hg3
        by_cases c0 : v3 = 0
        · subst c0
          go_wp2_with fail
          refine (spoil_any _ _ _ w.heap.size _ xs _ hr3 (by omega) HO3.out (by omega) (by omega) (by omega)).mono ?_
          rintro e w4 ⟨a4, cap4, ys, rfl, hi4, hl4, hc4, hr4, hg4⟩
          have HI := Lib.hid hi4; clear hi4
          go_wp2_with fail
          go_ret
          exact ⟨a4, cap4, ys, rfl, HI.out, hl4, hc4, hr4.more (by omega), grown_trans hg3' hg4⟩
        · have e0 : (v3 == 0) = false := by simp [c0]
          go_wp2_with fail
          go_ret
          exact ⟨_, _, xs, rfl, HO3.out.intsG (by omega), by omega, HO3.out.cap, hr3.more (by omega), hg3'⟩
end Go.Proofs.Ytdmamojidefdaaa
