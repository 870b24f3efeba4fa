/- Lots of all trades: the model. -/
import Derived.Test.YthdoeckoljflpaaLtT
import Derived.Laws.AppendOwnNone
namespace Go.Proofs.Ythdoeckoljflpaa
open Go.RowKit
set_option maxHeartbeats 400000 in
theorem sdistL_any (n : Int) (w : World) (h0 : -1000000000000000000 ≤ n) (h1 : n ≤ 1000000000000000000) : Calls Try.prog 56 #[.int .i64 n] w fun e w' => e = .returned (.int .i64 (if n < 0 then -n else n)) ∧ w = w' := by
  by_cases h : n < 0
  · rw [if_pos h]
    go_enter Try.func56, Try.ntmps56
    go_wp2_with fail
    go_ret
    exact ⟨rfl, rfl⟩
  · rw [if_neg h]
    go_enter Try.func56, Try.ntmps56
    go_wp2_with fail
    go_ret
    exact ⟨rfl, rfl⟩
theorem Lt.addA (g j : Nat) : (⟨g, 0, none⟩ : Addr).add j = ⟨g, j, none⟩ := by unfold Addr.add; split <;> simp_all
theorem Lt.addO (g o j : Nat) : (⟨g, o, none⟩ : Addr).add j = ⟨g, o + j, none⟩ := by unfold Addr.add; split <;> simp_all
theorem OffRow.news {w : World} {B : Nat} {T : TypeId} {v : Value} {n : Nat} {xs : List Value} (h : OffRow w B T v n xs) (hv : v ≠ .slice none 0 0) : ∃ g o cap, v = .slice (some ⟨g, o, none⟩) n cap ∧ ∀ j u, xs[j]? = some u → w.cell? ((⟨g, o, none⟩ : Addr).add j) = some u := by
  rcases h.2 with ⟨h2, _⟩ | ⟨g, o, cap, cur, rfl, hb, hg, hc, hm, hs, ht⟩
  · exact absurd h2 hv
  · refine ⟨g, o, cap, rfl, fun j u hu => ?_⟩
    rw [Lt.addO, cell_of_row w g (o + j) cur T (0, 0) hg]
    rw [← ht, List.getElem?_take, List.getElem?_drop] at hu
    split at hu
    · simpa using hu
    · cases hu
theorem OffRow.isNil {w : World} {B : Nat} {T : TypeId} {n : Nat} {xs : List Value} {v : Value} (h : OffRow w B T v n xs) (hv : v = .slice none 0 0) : n = 0 ∧ xs = [] := by
  rcases h.2 with ⟨_, h3⟩ | ⟨g, o, cap, cur, h2, _⟩
  · exact ⟨h3, List.eq_nil_of_length_eq_zero (by rw [h.1, h3])⟩
  · rw [hv] at h2; cases h2
theorem ac2_ones (q : List Pr) : ∀ u ∈ q.flatMap ac2, u.oneCell' = true := fun u hu => by
  obtain ⟨x, _, hx⟩ := List.mem_flatMap.1 hu
  exact ac2_one x u hx
theorem OffRow.first {w : World} {B : Nat} {T : TypeId} {v : Value} {x : Pr} {q : List Pr} (h : OffRow w B T v (q.length + 1) ((x :: q).flatMap ac2)) : ∃ b o cap, v = .slice (some ⟨b, o, none⟩) (q.length + 1) cap ∧ (B ≤ b ∧ b < w.heap.size) ∧ (q.length + 1 ≤ cap ∧ cap ≤ maxLen) ∧
    (w.cell? ⟨b, o, none⟩ = some (.int .i64 x.1) ∧ w.cell? ⟨b, o + 1, none⟩ = some (.int .i64 x.2)) ∧ (∀ j, w.frozen? ⟨b, j, none⟩ = false) := by
  obtain ⟨b, o, cap, rfl, hb, hc, h1, h2⟩ := h.form (by omega)
  refine ⟨b, o, cap, rfl, hb, hc, ⟨?_, ?_⟩, h2⟩
  · have := h1 0 (by omega)
    simpa [ac2] using this
  · have := h1 1 (by omega)
    simpa [ac2] using this
theorem OffRow.setX {w : World} {B : Nat} {T : TypeId} {x : Pr} {q : List Pr} {b o cap : Nat} (h : OffRow w B T (.slice (some ⟨b, o, none⟩) (q.length + 1) cap) (q.length + 1) ((x :: q).flatMap ac2)) (y : Int) :
    OffRow (w.setCell ⟨b, o, none⟩ (.int .i64 y)) B T (.slice (some ⟨b, o, none⟩) (q.length + 1) cap) (q.length + 1) (((y, x.2) :: q).flatMap ac2) := by
  have hs := h.stored 0 (by omega) (.int .i64 y)
  have e : ((x :: q).flatMap ac2).set 0 (.int .i64 y) = ((y, x.2) :: q).flatMap ac2 := by simp [ac2]
  rw [e] at hs
  exact hs.1
theorem OffRow.cutX {w : World} {B : Nat} {T : TypeId} {x : Pr} {q : List Pr} {b o cap : Nat} (h : OffRow w B T (.slice (some ⟨b, o, none⟩) (q.length + 1) cap) (q.length + 1) ((x :: q).flatMap ac2)) :
    OffRow w B T (.slice (if cap = 1 then some ⟨b, o, none⟩ else some ⟨b, o + 2, none⟩) q.length (cap - 1)) q.length (q.flatMap ac2) := by
  have ht := h.tail
  have e : ((x :: q).flatMap ac2).drop 2 = q.flatMap ac2 := by simp [ac2]
  rwa [e] at ht
end Go.Proofs.Ythdoeckoljflpaa
