/- Rows of periods that a call has made. -/
import Derived.Test.YtmamnljgkkjkcaaProg
import Derived.Test.YtmamnljgkkjkcaaDrawA
import Derived.Below
import Derived.Maps.AppendAt
import Derived.Laws.OwnMore
namespace Go.Proofs.Ytmamnljgkkjkcaa
open Go.RowKit
/-- A row's cells, k for each element. -/
theorem flat_len {α : Type} (k : Nat) (f : α → List Value) (hf : ∀ x, (f x).length = k) : ∀ ps : List α, (ps.flatMap f).length = ps.length * k
  | [] => by simp
  | p :: ps => by rw [List.flatMap_cons, List.length_append, hf, flat_len k f hf ps, List.length_cons, Nat.add_mul]; omega
theorem flat_at {α : Type} (k : Nat) (f : α → List Value) (hf : ∀ x, (f x).length = k) (d : α) : ∀ (ps : List α) (i j : Nat), i < ps.length → j < k → (ps.flatMap f)[k * i + j]? = (f (ps.getD i d))[j]?
  | [], i, j, h, _ => by simp at h
  | p :: ps, 0, j, _, hj => by
    rw [List.flatMap_cons, List.getElem?_append_left (by rw [hf]; omega)]
    simp
  | p :: ps, i + 1, j, h, hj => by
    rw [List.flatMap_cons, List.getElem?_append_right (by rw [hf, Nat.mul_add]; omega), hf, show k * (i + 1) + j - k = k * i + j by rw [Nat.mul_add]; omega]
    rw [flat_at k f hf d ps i j (by simpa using h) hj]
    simp
abbrev Per := Int × Int × Bool
def pc (p : Per) : List Value := [.int .i64 p.1, .int .i64 p.2.1, .bool p.2.2]
theorem pc_len (p : Per) : (pc p).length = 3 := rfl
theorem pc_one (p : Per) : ∀ u ∈ pc p, u.oneCell' = true := by intro u hu; simp [pc] at hu; rcases hu with rfl | rfl | rfl <;> rfl
def p0 : Per := (0, 0, false)
theorem flat_take {α : Type} (f : α → List Value) (ps : List α) (p : α) : (ps ++ [p]).flatMap f = ps.flatMap f ++ f p := by simp
end Go.Proofs.Ytmamnljgkkjkcaa
