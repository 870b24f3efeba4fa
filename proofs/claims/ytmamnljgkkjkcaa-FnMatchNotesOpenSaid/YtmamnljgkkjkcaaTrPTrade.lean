/- A Trade appended to a row of the call's own. -/
import Derived.Test.YtmamnljgkkjkcaaTrXTrade
import Derived.Maps.AppendAt
namespace Go.Proofs.Ytmamnljgkkjkcaa
open Go.RowKit
theorem newTrade_cells (w : World) (y : Tri) : ∀ j u, (ac y)[j]? = some u → (w.alloc (.cells #[.int .i64 y.1, .int .i64 y.2.1, .int .i64 y.2.2] 73)).cell? ((⟨w.heap.size, 0, none⟩ : Addr).add j) = some u := by
  intro j u h
  have hj : j = 0 ∨ j = 1 ∨ j = 2 := by
    have := (List.getElem?_eq_some_iff.1 h).1
    simp [ac] at this
    omega
  rcases hj with rfl | rfl | rfl <;> simp [ac] at h <;> subst h
  · simp [Addr.add]
  · simp [Addr.add]
  · simp [Addr.add]
theorem wpList_pushTrade (w : World) {ops : Array Oper} {rest : List Oper} {o : Oper} {a : Act} {Q : Exit → Act → World → Prop} (hgd : o.guard = none) (s x : Operand)
    (ho : o.op = .call { callee := .builtin .append, args := #[s, x], argTypes := #[23, 23] })
    (B : Nat) (v : Value) (xs : List Tri) (hs : a.eval s = v) (hown : TRow 73 w B v xs) (b c : Nat) (y : Tri) (hx : a.eval x = .slice (some ⟨b, 0, none⟩) 1 c) (hcell : ∀ j u, (ac y)[j]? = some u → w.cell? ((⟨b, 0, none⟩ : Addr).add j) = some u)
    (hl : xs.length + 1 ≤ 1000000) (hB : B ≤ w.heap.size)
    (h : ∀ v' w', TRow 73 w' B v' (xs ++ [y]) → v' ≠ .slice none 0 0 → w.grownBy w' v.ownBlock → (v'.ownBlock = v.ownBlock ∨ v'.ownBlock = some w.heap.size) → wpList Try.prog ops Q rest (a.put o.dst v') w') : wpList Try.prog ops Q (o :: rest) a w := by
  obtain ⟨i0, hi, hz0, hz1, hz2⟩ := infoPartsTrade
  refine wpList_append_own_at w hgd s x 23 ho B 73 i0 (.agg #[.int .i64 0, .int .i64 0, .int .i64 0]) 3 24 Try.underlying23 hi hz0 hz1 hz2 rfl (by decide) v xs.length _ hs hown ⟨b, 0, none⟩ 1 c (ac y) hx rfl hcell (ac_one y) (by unfold maxLen; omega) (by omega) hB ?_
  intro v' w' h1 h2 h3 h4
  refine h v' w' ?_ (fun e => absurd (h3.1 e).2 (by decide)) h2 h4
  unfold TRow
  rw [flat_take, List.length_append]
  exact h1
end Go.Proofs.Ytmamnljgkkjkcaa
