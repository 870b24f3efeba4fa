/- Notes matched: mathematics. -/
import Derived.Test.YtmamnljgkkjkcaaTr
namespace Go.Proofs.Ytmamnljgkkjkcaa
open Go.RowKit
theorem Mn.snocInd {α : Type} {P : List α → Prop} (h0 : P []) (h1 : ∀ l x, P l → P (l ++ [x])) (l : List α) : P l := by
  have key : ∀ l : List α, P l.reverse := by
    intro l
    induction l with
    | nil => exact h0
    | cons x l ih => rw [List.reverse_cons]; exact h1 _ _ ih
  have := key l.reverse
  rwa [List.reverse_reverse] at this
abbrev Mn.P : Type := Int × Int
def Mn.same (x y : Tri) : Bool := x.1 == y.1 && x.2.1 == y.2.1
def Mn.ab (n : Int) : Int := if n < 0 then -n else n
/-- The distance of prices. -/
def Mn.ds (x y : Tri) : Int := Mn.ab (x.2.2 - y.2.2)
/-- What is left for x of the first k notes: index and price. -/
def Mn.is (b : List Tri) (x : Tri) (used : List Int) (k : Nat) : List Nat := (List.range k).filter fun i => Mn.same x (b.getD i t0) && !(used.contains (i : Int))
/-- One more candidate: its index and distance, if that is less. -/
def Mn.go (x : Tri) (b : List Tri) (s : Int × Int) (i : Nat) : Int × Int := if Mn.ds x (b.getD i t0) < s.2 then ((i : Int), Mn.ds x (b.getD i t0)) else s
def Mn.pick (x : Tri) (b : List Tri) (tol : Int) (l : List Nat) : Int × Int := l.foldl (Mn.go x b) (-1, tol + 1)
/-- The index that a note is matched with. -/
def Mn.at (x : Tri) (b : List Tri) (used : List Int) (tol : Int) (k : Nat) : Int := (Mn.pick x b tol (Mn.is b x used k)).1
def Mn.run (b : List Tri) (tol : Int) (a : List Tri) : List Int := a.foldl (fun out x => out ++ [Mn.at x b out tol b.length]) []
theorem Mn.run_snoc (b : List Tri) (tol : Int) (a : List Tri) (x : Tri) : Mn.run b tol (a ++ [x]) = Mn.run b tol a ++ [Mn.at x b (Mn.run b tol a) tol b.length] := by unfold Mn.run; rw [List.foldl_append]; rfl
theorem Mn.run_len (b : List Tri) (tol : Int) (a : List Tri) : (Mn.run b tol a).length = a.length := by
  refine Mn.snocInd (P := fun a => (Mn.run b tol a).length = a.length) rfl (fun a x ih => ?_) a
  rw [Mn.run_snoc, List.length_append, List.length_append, ih]; rfl
theorem Mn.ds_nn (x y : Tri) : 0 ≤ Mn.ds x y := by unfold Mn.ds Mn.ab; split <;> omega
/-- What picking finds: nothing that is near enough, or the first nearest. -/
theorem Mn.pick_is (x : Tri) (b : List Tri) (tol : Int) (l : List Nat) :
    ((Mn.pick x b tol l).1 = -1 ∧ (Mn.pick x b tol l).2 = tol + 1 ∧ ∀ i ∈ l, tol < Mn.ds x (b.getD i t0)) ∨
    ∃ i ∈ l, (Mn.pick x b tol l).1 = (i : Int) ∧ (Mn.pick x b tol l).2 = Mn.ds x (b.getD i t0) ∧ Mn.ds x (b.getD i t0) ≤ tol := by
  refine Mn.snocInd (P := fun l => ((Mn.pick x b tol l).1 = -1 ∧ (Mn.pick x b tol l).2 = tol + 1 ∧ ∀ i ∈ l, tol < Mn.ds x (b.getD i t0)) ∨ ∃ i ∈ l, (Mn.pick x b tol l).1 = (i : Int) ∧ (Mn.pick x b tol l).2 = Mn.ds x (b.getD i t0) ∧ Mn.ds x (b.getD i t0) ≤ tol) (.inl ⟨rfl, rfl, fun i hi => by cases hi⟩) (fun l j ih => ?_) l
  · have e : Mn.pick x b tol (l ++ [j]) = Mn.go x b (Mn.pick x b tol l) j := by unfold Mn.pick; rw [List.foldl_append]; rfl
    rw [e]
    unfold Mn.go
    by_cases c : Mn.ds x (b.getD j t0) < (Mn.pick x b tol l).2
    · rw [if_pos c]
      refine .inr ⟨j, by simp, rfl, rfl, ?_⟩
      rcases ih with ⟨-, h2, -⟩ | ⟨i, -, -, h2, h3⟩ <;> omega
    · rw [if_neg c]
      rcases ih with ⟨h1, h2, h3⟩ | ⟨i, hi, h1, h2, h3⟩
      · refine .inl ⟨h1, h2, fun i hi => ?_⟩
        rcases List.mem_append.1 hi with hi | hi
        · exact h3 i hi
        · simp only [List.mem_cons, List.not_mem_nil, or_false] at hi
          subst hi; omega
      · exact .inr ⟨i, List.mem_append_left _ hi, h1, h2, h3⟩
theorem Mn.is_mem {b : List Tri} {x : Tri} {used : List Int} {k i : Nat} : i ∈ Mn.is b x used k ↔ i < k ∧ Mn.same x (b.getD i t0) = true ∧ (i : Int) ∉ used := by
  unfold Mn.is
  rw [List.mem_filter, List.mem_range]
  simp
/-- The model's step over one more note. -/
theorem Mn.at_step (x : Tri) (b : List Tri) (used : List Int) (tol : Int) (k : Nat) :
    Mn.at x b used tol (k + 1) = if (Mn.same x (b.getD k t0) = true ∧ Mn.ds x (b.getD k t0) ≤ tol) ∧ (k : Int) ∉ used ∧ (Mn.at x b used tol k < 0 ∨ Mn.ds x (b.getD k t0) < Mn.ds x (b.getD (Mn.at x b used tol k).toNat t0)) then (k : Int) else Mn.at x b used tol k := by
  have hP := Mn.pick_is x b tol (Mn.is b x used k)
  unfold Mn.at
  have e : Mn.is b x used (k + 1) = Mn.is b x used k ++ if Mn.same x (b.getD k t0) && !(used.contains (k : Int)) then [k] else [] := by
    unfold Mn.is
    rw [List.range_succ, List.filter_append]
    congr 1
    rw [List.filter_cons, List.filter_nil]
  rw [e]
  by_cases c : (Mn.same x (b.getD k t0) && !(used.contains (k : Int))) = true
  · rw [if_pos c]
    rw [Bool.and_eq_true, Bool.not_eq_true', List.contains_eq_mem, decide_eq_false_iff_not] at c
    have e2 : Mn.pick x b tol (Mn.is b x used k ++ [k]) = Mn.go x b (Mn.pick x b tol (Mn.is b x used k)) k := by unfold Mn.pick; rw [List.foldl_append]; rfl
    rw [e2]
    generalize Mn.pick x b tol (Mn.is b x used k) = s at hP ⊢
    unfold Mn.go
    rcases hP with ⟨h1, h2, -⟩ | ⟨i, -, h1, h2, h3⟩
    · by_cases g : Mn.ds x (b.getD k t0) < s.2
      · rw [if_pos g, if_pos ⟨⟨c.1, by omega⟩, c.2, .inl (by omega)⟩]
      · rw [if_neg g, if_neg (fun q => by have := q.1.2; omega)]
    · have e3 : s.1.toNat = i := by omega
      rw [e3]
      by_cases g : Mn.ds x (b.getD k t0) < s.2
      · rw [if_pos g, if_pos ⟨⟨c.1, by omega⟩, c.2, .inr (by omega)⟩]
      · rw [if_neg g, if_neg (fun q => by rcases q.2.2 with q | q <;> omega)]
  · rw [if_neg c, List.append_nil, if_neg (fun q => c (by
      rw [Bool.and_eq_true, Bool.not_eq_true', List.contains_eq_mem, decide_eq_false_iff_not]
      exact ⟨q.1.1, q.2.1⟩))]
end Go.Proofs.Ytmamnljgkkjkcaa
