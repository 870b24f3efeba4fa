/- The law of valid trades. -/
import Derived.Test.YthdoeckoljflpaaTdE
namespace Go.Proofs.Ythdoeckoljflpaa
open Go.RowKit
theorem R3o.take {w : World} {a : Option Addr} {ps : List Tri} {c : Nat} (h : R3o w (.slice a ps.length c) ps) {k : Nat} (hk : k ≤ ps.length) (c' : Nat) : R3o w (.slice a k c') (ps.take k) := by
  have hl : (ps.take k).length = k := by rw [List.length_take]; omega
  refine ⟨⟨a, c', by rw [hl]⟩, fun h0 => ?_⟩
  rw [hl] at h0
  obtain ⟨b, off, c2, e, hb, hc⟩ := h.2 (by omega)
  simp only [Value.slice.injEq, true_and] at e
  obtain ⟨rfl, rfl⟩ := e
  refine ⟨b, off, c', by rw [hl], hb, fun i hi => ?_⟩
  rw [hl] at hi
  have e2 : (ps.take k).getD i t0 = ps.getD i t0 := by rw [List.getD_eq_getElem?_getD, List.getD_eq_getElem?_getD, List.getElem?_take, if_pos hi]
  rw [e2]
  exact hc i (by omega)
theorem Td.ok_take {ps : List Tri} (h : Td.ok ps = true) (k : Nat) : Td.ok (ps.take k) = true := by
  unfold Td.ok at h ⊢
  rw [Bool.and_eq_true, Bool.and_eq_true, decide_eq_true_eq] at h ⊢
  refine ⟨by rw [List.length_take]; omega, List.all_eq_true.2 fun x hx => List.all_eq_true.1 h.2.1 x (List.mem_of_mem_take hx), Td.asc_iff.2 fun i hi => ?_⟩
  rw [List.length_take] at hi
  have ha := Td.asc_iff.1 h.2.2 i (by omega)
  rw [List.getD_eq_getElem?_getD, List.getD_eq_getElem?_getD, List.getElem?_take, List.getElem?_take, if_pos (by omega), if_pos (by omega), ← List.getD_eq_getElem?_getD, ← List.getD_eq_getElem?_getD]
  exact ha
end Go.Proofs.Ythdoeckoljflpaa
