/- Reversing a row of periods. -/
import Derived.Test.YtbihadelhknlnaaRow
import Derived.WalkKit
import Derived.WalkSpells
import Derived.WalkLawsBesides
import Derived.Lib.Hide
import Derived.IntWalk
import Derived.RegionTactic
import Derived.Shelf.RegionOpenPlain
import Derived.Outline
namespace Go.Proofs.Ytbihadelhknlnaa
open Go.RowKit
/-- The elements in reverse but for those between i and the place opposite. -/
def RevTo (ps qs : List Per) (i : Nat) : Prop := qs.length = ps.length ∧ ∀ t, t < ps.length → qs.getD t p0 = if t < i ∨ ps.length ≤ t + i then ps.getD (ps.length - 1 - t) p0 else ps.getD t p0
theorem revTo_start (ps : List Per) : RevTo ps ps 0 := ⟨rfl, fun t ht => by rw [if_neg (by omega)]⟩
theorem revTo_end {ps qs : List Per} {i : Nat} (h : RevTo ps qs i) (hi : ps.length ≤ 2 * i + 1) : qs = ps.reverse := by
  apply List.ext_getElem
  · rw [h.1, List.length_reverse]
  · intro t h1 h2
    have ht : t < ps.length := by rw [← h.1]; exact h1
    have e := h.2 t ht
    rw [List.getD_eq_getElem?_getD, List.getElem?_eq_getElem h1] at e
    rw [List.getElem_reverse]
    have e2 : ps.getD (ps.length - 1 - t) p0 = ps[ps.length - 1 - t]'(by omega) := by rw [List.getD_eq_getElem?_getD, List.getElem?_eq_getElem (by omega)]; rfl
    rw [← e2]
    by_cases c : t < i ∨ ps.length ≤ t + i
    · rw [if_pos c] at e; exact e
    · rw [if_neg c] at e
      rw [show ps.length - 1 - t = t by omega]
      exact e
def swapL (qs : List Per) (i j : Nat) : List Per := (qs.set i (qs.getD j p0)).set j (qs.getD i p0)
theorem revTo_step {ps qs : List Per} {i : Nat} (h : RevTo ps qs i) (hi : 2 * i + 1 < ps.length) : RevTo ps (swapL qs i (ps.length - 1 - i)) (i + 1) := by
  obtain ⟨h1, h2⟩ := h
  refine ⟨by simp [swapL, h1], fun t ht => ?_⟩
  unfold swapL
  have ei := h2 i (by omega)
  have ej := h2 (ps.length - 1 - i) (by omega)
  rw [if_neg (by omega)] at ei ej
  have g : ∀ (l : List Per) (a b : Nat) (x : Per), (l.set a x).getD b p0 = if a = b then (if b < l.length then x else p0) else l.getD b p0 := fun l a b x => by
    rw [List.getD_eq_getElem?_getD, List.getElem?_set]
    by_cases c : a = b
    · subst c
      rw [if_pos rfl, if_pos rfl]
      by_cases c' : a < l.length
      · rw [if_pos c', if_pos c']; rfl
      · rw [if_neg c', if_neg c']; rfl
    · rw [if_neg c, if_neg c, List.getD_eq_getElem?_getD]
  rw [g, g]
  by_cases c1 : ps.length - 1 - i = t
  · rw [if_pos c1, if_pos (by rw [List.length_set]; omega), ei, if_pos (by omega)]
    congr 1; omega
  · rw [if_neg c1]
    by_cases c2 : i = t
    · rw [if_pos c2, if_pos (by omega), ej, if_pos (by omega), ← c2]
    · rw [if_neg c2, h2 t ht]
      by_cases c3 : t < i ∨ ps.length ≤ t + i
      · rw [if_pos c3, if_pos (by omega)]
      · rw [if_neg c3, if_neg (by omega)]
theorem grown_dr (w : World) (r : Option Nat) : w.grownBy w.drew r := ⟨rfl, rfl, rfl, Nat.le_refl _, fun _ _ _ => rfl⟩
end Go.Proofs.Ytbihadelhknlnaa
