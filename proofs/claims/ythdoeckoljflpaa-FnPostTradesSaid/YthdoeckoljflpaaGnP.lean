/- The law of positions: sums of lots. -/
import Derived.Test.YthdoeckoljflpaaGnL
namespace Go.Proofs.Ythdoeckoljflpaa
open Go.RowKit
theorem Gn.mono {ps : List Tri} (h : Td.ok ps = true) {i : Nat} : ∀ d : Nat, i + d < ps.length → (ps.getD i t0).1 ≤ (ps.getD (i + d) t0).1
  | 0, _ => Int.le_refl _
  | d + 1, hd => by
    have ih := Gn.mono h (i := i) d (by omega)
    unfold Td.ok at h
    rw [Bool.and_eq_true, Bool.and_eq_true] at h
    have h1 := Td.asc_iff.1 h.2.2 (i + d) (by omega)
    have e : i + d + 1 = i + (d + 1) := by omega
    rw [e] at h1
    omega
theorem Gn.mem_at {ps : List Tri} {P : Tri → Prop} (h : ∀ i, i < ps.length → P (ps.getD i t0)) : ∀ x ∈ ps, P x := fun x hx => by
  obtain ⟨i, hi, rfl⟩ := List.getElem_of_mem hx
  have := h i hi
  rwa [List.getD_eq_getElem?_getD, List.getElem?_eq_getElem hi] at this
theorem Gn.sum_all : ∀ (ps : List Tri) (d : Int), (∀ x ∈ ps, x.1 ≤ d) → Po.sum ps d = (ps.map (·.2.1)).sum
  | [], _, _ => rfl
  | p :: ps, d, h => by
    have ih := Gn.sum_all ps d fun x hx => h x (List.mem_cons_of_mem _ hx)
    have h1 := h p List.mem_cons_self
    unfold Po.sum Po.one at *
    rw [List.map_cons, List.sum_cons, List.map_cons, List.sum_cons, ih, if_pos h1]
theorem Gn.sum_none : ∀ (ps : List Tri) (d : Int), (∀ x ∈ ps, d < x.1) → Po.sum ps d = 0
  | [], _, _ => rfl
  | p :: ps, d, h => by
    have ih := Gn.sum_none ps d fun x hx => h x (List.mem_cons_of_mem _ hx)
    have h1 := h p List.mem_cons_self
    unfold Po.sum Po.one at *
    rw [List.map_cons, List.sum_cons, ih, if_neg (by omega)]; rfl
end Go.Proofs.Ythdoeckoljflpaa
