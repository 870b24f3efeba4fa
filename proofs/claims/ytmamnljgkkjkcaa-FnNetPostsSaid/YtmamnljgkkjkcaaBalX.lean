/- The exact law of balances, and the law of all ledgers. -/
import Derived.Test.YtmamnljgkkjkcaaTrXPost
import Derived.Test.YtmamnljgkkjkcaaBal2
namespace Go.Proofs.Ytmamnljgkkjkcaa
open Go.RowKit
/-- All accounts together. -/
theorem Bl.all {ps : List Tri} (h : Ps.ok ps = true) : ∀ i : Nat, i ≤ ps.length → Bl.sum (ps.take i) 0 + Bl.sum (ps.take i) 1 + Bl.sum (ps.take i) 2 + Bl.sum (ps.take i) 3 + Bl.sum (ps.take i) 4 + Bl.sum (ps.take i) 5 = 0
  | 0, _ => by simp [Bl.sum]
  | i + 1, hi => by
    have ih := Bl.all h i (by omega)
    obtain ⟨⟨f0, f1⟩, ⟨g0, g1⟩, -, -⟩ := (Ps.parts h).2 i (by omega)
    have hs : Bl.one (ps.getD i t0) 0 + Bl.one (ps.getD i t0) 1 + Bl.one (ps.getD i t0) 2 + Bl.one (ps.getD i t0) 3 + Bl.one (ps.getD i t0) 4 + Bl.one (ps.getD i t0) 5 = 0 := by
      generalize ps.getD i t0 = p at *
      obtain ⟨f, t, u⟩ := p
      simp only at f0 f1 g0 g1
      have hf : f = 0 ∨ f = 1 ∨ f = 2 ∨ f = 3 ∨ f = 4 ∨ f = 5 := by omega
      have hg : t = 0 ∨ t = 1 ∨ t = 2 ∨ t = 3 ∨ t = 4 ∨ t = 5 := by omega
      unfold Bl.one
      rcases hf with rfl | rfl | rfl | rfl | rfl | rfl <;> rcases hg with rfl | rfl | rfl | rfl | rfl | rfl <;> simp <;> omega
    rw [Bl.take (by omega), Bl.take (by omega), Bl.take (by omega), Bl.take (by omega), Bl.take (by omega), Bl.take (by omega)]
    omega
theorem Bl.out {ps : List Tri} (h : Ps.ok ps = true) {x : Int} (hx : x < 0 ∨ 5 < x) : ∀ i : Nat, i ≤ ps.length → Bl.sum (ps.take i) x = 0
  | 0, _ => by simp [Bl.sum]
  | i + 1, hi => by
    have ih := Bl.out h hx i (by omega)
    obtain ⟨⟨f0, f1⟩, ⟨g0, g1⟩, -, -⟩ := (Ps.parts h).2 i (by omega)
    rw [Bl.take (by omega), ih]
    unfold Bl.one
    rw [if_neg (by omega), if_neg (by omega)]
    omega
theorem Bl.val_all (ps : List Tri) : Bl.val ps 0 + Bl.val ps 1 + Bl.val ps 2 + Bl.val ps 3 + Bl.val ps 4 + Bl.val ps 5 = 0 := by
  unfold Bl.val
  cases h : Ps.ok ps with
  | false => simp
  | true =>
    have := Bl.all h ps.length (Nat.le_refl _)
    rw [List.take_length] at this
    simpa using this
theorem Bl.val_out (ps : List Tri) {x : Int} (hx : x < 0 ∨ 5 < x) : Bl.val ps x = 0 := by
  unfold Bl.val
  cases h : Ps.ok ps with
  | false => simp
  | true =>
    have := Bl.out h hx ps.length (Nat.le_refl _)
    rw [List.take_length] at this
    simpa using this
theorem Bl.val_bd (ps : List Tri) (x : Int) : -40000000000 ≤ Bl.val ps x ∧ Bl.val ps x ≤ 40000000000 := by
  unfold Bl.val
  cases h : Ps.ok ps with
  | false => simp
  | true =>
    have := Bl.bd h x ps.length (Nat.le_refl _)
    have hl := (Ps.parts h).1
    rw [List.take_length] at this
    simp only [if_true]
    omega
def Bl.part (ps : List Tri) : Nat → Int
  | 0 => 0
  | i + 1 => Bl.part ps i + Bl.val ps i
theorem Bl.part_bd (ps : List Tri) : ∀ i : Nat, i ≤ 6 → -40000000000 * (i : Int) ≤ Bl.part ps i ∧ Bl.part ps i ≤ 40000000000 * (i : Int)
  | 0, _ => by simp [Bl.part]
  | i + 1, h => by
    have ih := Bl.part_bd ps i (by omega)
    have := Bl.val_bd ps i
    unfold Bl.part
    omega
theorem Bl.part_six (ps : List Tri) : Bl.part ps 6 = 0 := by
  have := Bl.val_all ps
  simp only [Bl.part]
  simpa using this
end Go.Proofs.Ytmamnljgkkjkcaa
