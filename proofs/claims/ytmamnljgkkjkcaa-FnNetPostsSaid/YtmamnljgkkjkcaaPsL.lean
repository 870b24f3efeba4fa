/- The laws of postings and of balances. -/
import Derived.Test.YtmamnljgkkjkcaaPsD
import Derived.Test.YtmamnljgkkjkcaaBalX
namespace Go.Proofs.Ytmamnljgkkjkcaa
open Go.RowKit
/-- Postings drawn out of a law's input. -/
def DPs (w : World) (e : Ending) (w' : World) : Prop :=
  ∃ v ps, e = .returned v ∧ TRow 40 w' w.heap.size v ps ∧ ps.length ≤ 41 ∧ (∀ q ∈ ps, PsIn q) ∧ (∃ b c, v = .slice (some ⟨b, 0, none⟩) ps.length c) ∧ Below w.heap.size w w'
def DPsA (w : World) (e : Ending) (w' : World) : Prop :=
  ∃ v ps, ∃ x : Int, e = .returned (.tuple #[v, .int .i64 x]) ∧ TRow 40 w' w.heap.size v ps ∧ ps.length ≤ 41 ∧ (∀ q ∈ ps, PsIn q) ∧ (∃ b c, v = .slice (some ⟨b, 0, none⟩) ps.length c) ∧ (-1 ≤ x ∧ x ≤ 6) ∧ Below w.heap.size w w'
theorem TRow.drew {T : TypeId} {w : World} {B : Nat} {v : Value} {ps : List Tri} (h : TRow T w B v ps) : TRow T w.drew B v ps := h
theorem TRow.slice {T : TypeId} {w : World} {B : Nat} {v : Value} {ps : List Tri} (h : TRow T w B v ps) (hn : v ≠ .slice none 0 0) : ∃ b c, v = .slice (some ⟨b, 0, none⟩) ps.length c := by
  rcases h.2 with ⟨h, _⟩ | ⟨b, cap, cur, h, _⟩
  · exact absurd h hn
  · exact ⟨b, cap, h⟩
/-- The reverse -/
def rev (p : Tri) : Tri := (p.2.1, p.1, p.2.2)
theorem rev_one (p : Tri) : Ps.one (rev p) = Ps.one p := by
  obtain ⟨f, t, u⟩ := p
  unfold Ps.one rev
  simp only
  have e : (t != f) = (f != t) := by by_cases h : f = t <;> simp [h, bne_comm]
  rw [e]
  cases btw f 0 5 <;> cases btw t 0 5 <;> simp
theorem rev_ok (ps : List Tri) : Ps.ok (ps.map rev) = Ps.ok ps := by
  unfold Ps.ok
  rw [List.length_map, List.all_map]
  have : (Ps.one ∘ rev) = Ps.one := funext rev_one
  rw [this]
theorem rev_bal (p : Tri) (x : Int) : Bl.one (rev p) x = - Bl.one p x := by
  unfold Bl.one rev
  simp only
  split <;> split <;> omega
theorem rev_sum (ps : List Tri) (x : Int) : Bl.sum (ps.map rev) x = - Bl.sum ps x := by
  unfold Bl.sum
  induction ps with
  | nil => rfl
  | cons p ps ih =>
    simp only [List.map_cons, List.sum_cons, rev_bal] at ih ⊢
    omega
theorem rev_val (ps : List Tri) (x : Int) : Bl.val (ps.map rev) x = - Bl.val ps x := by
  unfold Bl.val
  rw [rev_ok, rev_sum]
  split <;> omega
theorem rev_take {ps : List Tri} {k : Nat} (hk : k < ps.length) {p : Tri} (hp : p = ps.getD k t0) : (ps.take (k + 1)).map rev = (ps.take k).map rev ++ [rev p] := by
  have : ps.take (k + 1) = ps.take k ++ [ps.getD k t0] := by
    rw [List.take_add_one, List.getD_eq_getElem?_getD, List.getElem?_eq_getElem hk]; rfl
  rw [this, hp]; simp
end Go.Proofs.Ytmamnljgkkjkcaa
