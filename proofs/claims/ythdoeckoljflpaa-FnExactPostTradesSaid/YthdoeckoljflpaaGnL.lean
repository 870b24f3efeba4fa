/- The law of gains: cash and what the lots cost. -/
import Derived.Test.YthdoeckoljflpaaTdL
import Derived.Test.YthdoeckoljflpaaLtU
namespace Go.Proofs.Ythdoeckoljflpaa
open Go.RowKit
theorem OffRow.r2o {w : World} {B : Nat} {T : TypeId} {v : Value} {q : List Pr} (h : OffRow w B T v q.length (q.flatMap ac2)) : R2o w v q := by
  refine ⟨h.slice, fun h0 => ?_⟩
  obtain ⟨g, o, cap, rfl, ⟨-, hb⟩, -, hc, -⟩ := h.form h0
  refine ⟨g, o, cap, rfl, hb, fun i hi => ?_⟩
  have key : ∀ j, j < 2 → w.cell? ⟨g, o + (i * 2 + j), none⟩ = (ac2 (q.getD i pr0))[j]? := fun j hj => by
    rw [hc (i * 2 + j) (by omega), Nat.mul_comm i 2, flat_at 2 ac2 ac2_len pr0 q i j hi hj]
  have k0 := key 0 (by omega)
  have k1 := key 1 (by omega)
  rw [← Nat.add_assoc] at k0 k1
  exact ⟨k0, k1⟩
def Gn.paid (ps : List Tri) : Int := (ps.map fun t => t.2.1 * t.2.2).sum
theorem Gn.paid_step {ps : List Tri} {i : Nat} (hi : i < ps.length) : Gn.paid (ps.take (i + 1)) = Gn.paid (ps.take i) + (ps.getD i t0).2.1 * (ps.getD i t0).2.2 := by
  unfold Gn.paid
  rw [take_snocT hi, List.map_append, List.sum_append, List.map_cons, List.map_nil, List.sum_cons, List.sum_nil, Int.add_zero]
theorem Gn.prod {m p : Int} (hm : -9999 ≤ m ∧ m ≤ 9999) (hp : 1 ≤ p ∧ p ≤ 50000) : -499950000 ≤ m * p ∧ m * p ≤ 499950000 := by
  have h := Int.natAbs_mul m p
  have h2 : m.natAbs * p.natAbs ≤ 9999 * 50000 := Nat.mul_le_mul (by omega) (by omega)
  omega
theorem Gn.paid_bd {ps : List Tri} (h : ∀ i, i < ps.length → Lt.tone (ps.getD i t0)) : ∀ i : Nat, i ≤ ps.length → -499950000 * (i : Int) ≤ Gn.paid (ps.take i) ∧ Gn.paid (ps.take i) ≤ 499950000 * (i : Int)
  | 0, _ => by simp [Gn.paid]
  | i + 1, hi => by
    have ih := Gn.paid_bd h i (by omega)
    have ht := h i (by omega)
    have hp := Gn.prod ⟨ht.1.1, ht.1.2.1⟩ ht.2
    rw [Gn.paid_step (by omega)]
    omega
theorem Gn.take_snoc2 {q : List Pr} {i : Nat} (hi : i < q.length) : q.take (i + 1) = q.take i ++ [q.getD i pr0] := by
  rw [List.take_succ_eq_append_getElem hi, List.getD_eq_getElem?_getD, List.getElem?_eq_getElem hi]; rfl
theorem Gn.worth_step {q : List Pr} {i : Nat} (hi : i < q.length) : Lt.worth (q.take (i + 1)) = Lt.worth (q.take i) + (q.getD i pr0).1 * (q.getD i pr0).2 := by
  unfold Lt.worth
  rw [Gn.take_snoc2 hi, List.map_append, List.sum_append, List.map_cons, List.map_nil, List.sum_cons, List.sum_nil, Int.add_zero]
theorem Gn.many_step {q : List Pr} {i : Nat} (hi : i < q.length) : Lt.many (q.take (i + 1)) = Lt.many (q.take i) + (q.getD i pr0).1 := by
  unfold Lt.many
  rw [Gn.take_snoc2 hi, List.map_append, List.sum_append, List.map_cons, List.map_nil, List.sum_cons, List.sum_nil, Int.add_zero]
theorem Gn.one_at {q : List Pr} (h : ∀ x ∈ q, Lt.one x) {i : Nat} (hi : i < q.length) : Lt.one (q.getD i pr0) := by
  rw [List.getD_eq_getElem?_getD, List.getElem?_eq_getElem hi]
  exact h _ (List.getElem_mem hi)
theorem Gn.worth_bd {q : List Pr} (h : ∀ x ∈ q, Lt.one x) : ∀ i : Nat, i ≤ q.length → (-499950000 * (i : Int) ≤ Lt.worth (q.take i) ∧ Lt.worth (q.take i) ≤ 499950000 * (i : Int)) ∧ (-9999 * (i : Int) ≤ Lt.many (q.take i) ∧ Lt.many (q.take i) ≤ 9999 * (i : Int))
  | 0, _ => by simp [Lt.worth, Lt.many]
  | i + 1, hi => by
    have ih := Gn.worth_bd h i (by omega)
    have ht := Gn.one_at h (show i < q.length by omega)
    have hp := Gn.prod ⟨ht.1.1, ht.1.2.1⟩ ht.2
    have ha := ht.1
    rw [Gn.worth_step (by omega), Gn.many_step (by omega)]
    omega
end Go.Proofs.Ythdoeckoljflpaa
