/- Notes matched: take, by what is left. -/
import Derived.Test.YtmamnljgkkjkcaaMnR
namespace Go.Proofs.Ytmamnljgkkjkcaa
open Go Go.RowKit
theorem World.ownsRow.of_block {w w' : World} {base size n : Nat} {e : TypeId} {v : Value} {xs : List Value} (h : w.ownsRow base e size v n xs) (hb : ∀ g, v.ownBlock = some g → w'.heap[g]? = w.heap[g]?) : w'.ownsRow base e size v n xs := by
  refine ⟨h.1, ?_⟩
  rcases h.2 with hn | ⟨g, cap, cur, rfl, h1, h2, rest⟩
  · exact .inl hn
  · exact .inr ⟨g, cap, cur, rfl, h1, (hb g rfl).trans h2, rest⟩
theorem Mn.rest_len (b : List Tri) (used : List Int) (x y : Int) : (Mn.rest b used x y).length ≤ b.length := by
  unfold Mn.rest Mn.is
  rw [List.length_map]
  exact Nat.le_trans (List.length_filter_le _ _) (by rw [List.length_range]; exact Nat.le_refl _)
theorem Mn.rest_get (b : List Tri) (used : List Int) (x y : Int) (i : Nat) (hi : i < (Mn.rest b used x y).length) : ∃ k, k < b.length ∧ (Mn.rest b used x y).getD i pr0 = Mn.cd b k := by
  have hl : i < (Mn.is b (x, y, 0) used b.length).length := by unfold Mn.rest at hi; rwa [List.length_map] at hi
  refine ⟨(Mn.is b (x, y, 0) used b.length)[i], (Mn.is_mem.1 (List.getElem_mem hl)).1, ?_⟩
  unfold Mn.rest
  rw [List.getD_eq_getElem?_getD, List.getElem?_map, List.getElem?_eq_getElem hl]; rfl
theorem take_at (w wr : World) (bm n : Nat) (f : Int → Int → Value) (b : List Tri) (used : List Int) (hC : Cds w wr bm n f (Mn.rest b used)) (t : Tri) (tol : Int) (hd : 0 ≤ t.1 ∧ t.1 ≤ 40000) (hm : 1 ≤ t.2.1 ∧ t.2.1 ≤ 10000) (hq : 1 ≤ t.2.2 ∧ t.2.2 ≤ 50000) (ht : 0 ≤ tol ∧ tol ≤ 50000)
    (hl : b.length ≤ 10) (hp : ∀ i, i < b.length → 1 ≤ (b.getD i t0).2.2 ∧ (b.getD i t0).2.2 ≤ 50000) (hn : n < 1000) :
    Calls Try.prog 69 #[.map (some bm), triV t, .int .i64 tol] wr (fun e W => ∃ f' n', n' ≤ n + 1 ∧ e = .returned (.int .i64 (Mn.at t b used tol b.length)) ∧ Cds w W bm n' f' (Mn.rest b (used ++ [Mn.at t b used tol b.length])) ∧ FreK wr W bm f f') := by
  obtain ⟨d, m, q⟩ := t
  refine (take_any w wr bm n f (Mn.rest b used) hC d m q tol hd hm hq ht (Nat.le_trans (Mn.rest_len ..) hl) (fun i hi => ?_) hn).mono ?_
  · obtain ⟨k, hk, e⟩ := Mn.rest_get b used d m i hi
    rw [e]
    exact hp k hk
  · rintro e W h
    have hA := Mn.at_st b d m q tol ht used
    have hB := Mn.st_bd q tol (Mn.rest b used d m) ht (Mn.rest b used d m).length
    rcases h with ⟨h1, rfl, h2, h3⟩ | ⟨h1, rfl, f', h2, h3⟩
    · rw [if_pos h1] at hA
      refine ⟨f, n, by omega, by rw [hA], ?_, h3⟩
      rw [hA, Mn.rest_none b used (-1) (by omega)]
      exact h2
    · rw [if_neg (by omega)] at hA
      refine ⟨f', n + 1, Nat.le_refl _, by rw [hA], ?_, h3⟩
      rw [hA, Mn.rest_take b used d m _ (by omega)]
      exact h2
end Go.Proofs.Ytmamnljgkkjkcaa
