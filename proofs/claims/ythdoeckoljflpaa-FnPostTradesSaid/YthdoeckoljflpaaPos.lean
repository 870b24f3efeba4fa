/- Positions, on both sides. -/
import Derived.Test.YthdoeckoljflpaaTd
namespace Go.Proofs.Ythdoeckoljflpaa
open Go.RowKit
/-- What a trade adds to the position at a day. -/
def Po.one (p : Tri) (d : Int) : Int := if p.1 ≤ d then p.2.1 else 0
def Po.sum (ps : List Tri) (d : Int) : Int := (ps.map fun p => Po.one p d).sum
def Po.val (ps : List Tri) (d : Int) : Int := if Td.ok ps = true then Po.sum ps d else 0
theorem Po.take {ps : List Tri} {i : Nat} (hi : i < ps.length) (x : Int) : Po.sum (ps.take (i + 1)) x = Po.sum (ps.take i) x + Po.one (ps.getD i t0) x := by
  have : ps.take (i + 1) = ps.take i ++ [ps.getD i t0] := by
    rw [List.take_add_one, List.getD_eq_getElem?_getD, List.getElem?_eq_getElem hi]; rfl
  unfold Po.sum
  rw [this, List.map_append, List.sum_append]
  simp
theorem Td.parts {ps : List Tri} (h : Td.ok ps = true) : ps.length ≤ 16 ∧ ∀ i, i < ps.length → (0 ≤ (ps.getD i t0).1 ∧ (ps.getD i t0).1 ≤ 36524) ∧ (ps.getD i t0).2.1 ≠ 0 ∧ (-9999 ≤ (ps.getD i t0).2.1 ∧ (ps.getD i t0).2.1 ≤ 9999) ∧ (1 ≤ (ps.getD i t0).2.2 ∧ (ps.getD i t0).2.2 ≤ 50000) := by
  unfold Td.ok at h
  rw [Bool.and_eq_true, Bool.and_eq_true, decide_eq_true_eq] at h
  refine ⟨h.1, fun i hi => ?_⟩
  have := all_atF h.2.1 hi
  unfold Td.one at this
  rw [Bool.and_eq_true, Bool.and_eq_true, Bool.and_eq_true, btw_iff, btw_iff, btw_iff] at this
  obtain ⟨a, b, c, d⟩ := this
  exact ⟨a, by simpa using b, c, d⟩
theorem Po.bd {ps : List Tri} (h : Td.ok ps = true) (x : Int) : ∀ i : Nat, i ≤ ps.length → -9999 * (i : Int) ≤ Po.sum (ps.take i) x ∧ Po.sum (ps.take i) x ≤ 9999 * (i : Int)
  | 0, _ => by simp [Po.sum]
  | i + 1, hi => by
    have ih := Po.bd h x i (by omega)
    have o := (Td.parts h).2 i (by omega)
    rw [Po.take (by omega)]
    unfold Po.one
    split <;> omega
end Go.Proofs.Ythdoeckoljflpaa
