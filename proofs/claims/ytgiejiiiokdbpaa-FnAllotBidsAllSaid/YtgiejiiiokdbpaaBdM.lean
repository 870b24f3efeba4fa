/- Bids: the yield at which an auction stops, by sums and by a sorted row: plain mathematics. -/
import Derived.Test.YtgiejiiiokdbpaaPrM
namespace Go.Proofs.Ytgiejiiiokdbpaa
/-- What is bid up to a yield. -/
def Bd.add (p : Int × Int) (y : Int) : Int := if p.1 ≤ y then p.2 else 0
def Bd.below (ps : List (Int × Int)) (y : Int) : Int := (ps.map fun p => Bd.add p y).sum
def Bd.best (ps : List (Int × Int)) (n : Int) : Nat → Int
  | 0 => -1
  | i + 1 => if n ≤ Bd.below ps (ps.getD i (0, 0)).1 ∧ (Bd.best ps n i < 0 ∨ (ps.getD i (0, 0)).1 < Bd.best ps n i) then (ps.getD i (0, 0)).1 else Bd.best ps n i
def Bd.stop (ps : List (Int × Int)) (n : Int) : Int := Bd.best ps n ps.length
/-- What a yield is at which an auction stops. -/
def Bd.Is (ps : List (Int × Int)) (n y : Int) : Prop := (y = -1 ∧ ∀ p ∈ ps, Bd.below ps p.1 < n) ∨ (0 ≤ y ∧ (∃ p ∈ ps, p.1 = y) ∧ n ≤ Bd.below ps y ∧ ∀ p ∈ ps, n ≤ Bd.below ps p.1 → y ≤ p.1)
theorem Bd.is_one {ps : List (Int × Int)} {n y z : Int} (hy : Bd.Is ps n y) (hz : Bd.Is ps n z) : y = z := by
  rcases hy with ⟨rfl, a⟩ | ⟨a0, ⟨p, hp, rfl⟩, a2, a3⟩
  · rcases hz with ⟨rfl, _⟩ | ⟨b0, ⟨q, hq, rfl⟩, b2, b3⟩
    · rfl
    · have := a q hq; omega
  · rcases hz with ⟨rfl, b⟩ | ⟨b0, ⟨q, hq, rfl⟩, b2, b3⟩
    · have := b p hp; omega
    · have h1 := a3 q hq b2
      have h2 := b3 p hp a2
      omega
theorem Bd.getD_get {ps : List (Int × Int)} {k : Nat} (hk : k < ps.length) : ps.getD k (0, 0) = ps[k] := by
  rw [List.getD_eq_getElem?_getD, List.getElem?_eq_getElem hk]; rfl
theorem Bd.mem_at {ps : List (Int × Int)} {k : Nat} (hk : k < ps.length) : ps.getD k (0, 0) ∈ ps := by
  rw [Bd.getD_get hk]; exact List.getElem_mem _
theorem Bd.best_is {ps : List (Int × Int)} {n : Int} (h0 : ∀ p ∈ ps, 0 ≤ p.1) : ∀ i, i ≤ ps.length → ((Bd.best ps n i = -1 ∧ ∀ j, j < i → Bd.below ps (ps.getD j (0, 0)).1 < n) ∨ (0 ≤ Bd.best ps n i ∧ (∃ p ∈ ps, p.1 = Bd.best ps n i) ∧ n ≤ Bd.below ps (Bd.best ps n i) ∧ ∀ j, j < i → n ≤ Bd.below ps (ps.getD j (0, 0)).1 → Bd.best ps n i ≤ (ps.getD j (0, 0)).1))
  | 0, _ => Or.inl ⟨rfl, fun j hj => absurd hj (Nat.not_lt_zero _)⟩
  | i + 1, hi => by
    have ih := Bd.best_is h0 (n := n) i (by omega)
    have hm := Bd.mem_at (ps := ps) (k := i) (by omega)
    have hp0 := h0 _ hm
    unfold Bd.best
    split
    · rename_i c
      refine Or.inr ⟨hp0, ⟨_, hm, rfl⟩, c.1, fun j hj hn => ?_⟩
      rcases Nat.lt_or_ge j i with d | d
      · rcases ih with ⟨e, a⟩ | ⟨a0, a1, a2, a3⟩
        · have := a j d; omega
        · have := a3 j d hn
          omega
      · obtain rfl : j = i := by omega
        exact Int.le_refl _
    · rename_i c
      rcases ih with ⟨e, a⟩ | ⟨a0, a1, a2, a3⟩
      · refine Or.inl ⟨e, fun j hj => ?_⟩
        rcases Nat.lt_or_ge j i with d | d
        · exact a j d
        · obtain rfl : j = i := by omega
          rcases Int.lt_or_le (Bd.below ps (ps.getD j (0, 0)).1) n with z | z
          · exact z
          · exact absurd ⟨z, Or.inl (by omega)⟩ c
      · refine Or.inr ⟨a0, a1, a2, fun j hj hn => ?_⟩
        rcases Nat.lt_or_ge j i with d | d
        · exact a3 j d hn
        · obtain rfl : j = i := by omega
          rcases Int.lt_or_le (ps.getD j (0, 0)).1 (Bd.best ps n j) with z | z
          · exact absurd ⟨hn, Or.inr z⟩ c
          · exact z
theorem Bd.stop_is {ps : List (Int × Int)} (h0 : ∀ p ∈ ps, 0 ≤ p.1) (n : Int) : Bd.Is ps n (Bd.stop ps n) := by
  rcases Bd.best_is h0 (n := n) ps.length (Nat.le_refl _) with ⟨e, a⟩ | ⟨a0, a1, a2, a3⟩
  · refine Or.inl ⟨e, fun p hp => ?_⟩
    obtain ⟨j, hj, rfl⟩ := List.mem_iff_getElem.1 hp
    rw [← Bd.getD_get hj]; exact a j hj
  · refine Or.inr ⟨a0, a1, a2, fun p hp hn => ?_⟩
    obtain ⟨j, hj, rfl⟩ := List.mem_iff_getElem.1 hp
    rw [← Bd.getD_get hj] at hn ⊢; exact a3 j hj hn
theorem Bd.best_ge (ps : List (Int × Int)) (n : Int) (h0 : ∀ p ∈ ps, 0 ≤ p.1) {i : Nat} (hi : i ≤ ps.length) : -1 ≤ Bd.best ps n i := by
  rcases Bd.best_is h0 (n := n) i hi with ⟨e, a⟩ | ⟨a0, a1, a2, a3⟩ <;> omega
/-- What a sorted row gives. -/
def Bd.run : List (Int × Int) → Int → Int
  | [], _ => -1
  | q :: qs, n => if n - q.2 ≤ 0 then q.1 else Bd.run qs (n - q.2)
def Bd.sum (ps : List (Int × Int)) : Int := (ps.map fun p => p.2).sum
theorem Bd.run_is : ∀ (qs : List (Int × Int)) (n : Int), 1 ≤ n → (Bd.run qs n = -1 ∧ Bd.sum qs < n) ∨ ∃ as q bs, qs = as ++ q :: bs ∧ Bd.run qs n = q.1 ∧ Bd.sum as < n ∧ n ≤ Bd.sum as + q.2
  | [], n, h => Or.inl ⟨rfl, by simp [Bd.sum]; omega⟩
  | q :: qs, n, h => by
    unfold Bd.run
    split
    · exact Or.inr ⟨[], q, qs, rfl, rfl, by simp [Bd.sum]; omega, by simp [Bd.sum]; omega⟩
    · rename_i c
      rcases Bd.run_is qs (n - q.2) (by omega) with ⟨e, a⟩ | ⟨as, r, bs, e, e2, a, b⟩
      · refine Or.inl ⟨e, ?_⟩
        unfold Bd.sum at *
        simp only [List.map_cons, List.sum_cons]; omega
      · refine Or.inr ⟨q :: as, r, bs, by rw [e]; rfl, e2, ?_, ?_⟩ <;>
        · unfold Bd.sum at *
          simp only [List.map_cons, List.sum_cons]; omega
theorem Bd.below_app (as bs : List (Int × Int)) (y : Int) : Bd.below (as ++ bs) y = Bd.below as y + Bd.below bs y := by
  unfold Bd.below; rw [List.map_append, List.sum_append]
theorem Bd.below_all {y : Int} : ∀ as : List (Int × Int), (∀ p ∈ as, p.1 ≤ y) → Bd.below as y = Bd.sum as
  | [], _ => rfl
  | a :: as, h => by
    have ih := Bd.below_all as (fun p hp => h p (List.mem_cons_of_mem _ hp))
    have h1 := h a (List.mem_cons_self ..)
    unfold Bd.below Bd.sum at *
    simp only [List.map_cons, List.sum_cons, ih]
    unfold Bd.add; rw [if_pos h1]
theorem Bd.below_none {y : Int} : ∀ as : List (Int × Int), (∀ p ∈ as, y < p.1) → Bd.below as y = 0
  | [], _ => rfl
  | a :: as, h => by
    have ih := Bd.below_none as (fun p hp => h p (List.mem_cons_of_mem _ hp))
    have h1 := h a (List.mem_cons_self ..)
    unfold Bd.below at *
    simp only [List.map_cons, List.sum_cons, ih]
    unfold Bd.add; rw [if_neg (by omega)]; omega
theorem Bd.below_nn {y : Int} : ∀ as : List (Int × Int), (∀ p ∈ as, 0 ≤ p.2) → 0 ≤ Bd.below as y ∧ Bd.below as y ≤ Bd.sum as
  | [], _ => ⟨Int.le_refl _, Int.le_refl _⟩
  | a :: as, h => by
    have ih := Bd.below_nn (y := y) as (fun p hp => h p (List.mem_cons_of_mem _ hp))
    have h1 := h a (List.mem_cons_self ..)
    unfold Bd.below Bd.sum at *
    simp only [List.map_cons, List.sum_cons]
    unfold Bd.add at *; split <;> omega
theorem Bd.below_mono {y z : Int} (hyz : y ≤ z) : ∀ as : List (Int × Int), (∀ p ∈ as, 0 ≤ p.2) → Bd.below as y ≤ Bd.below as z
  | [], _ => Int.le_refl _
  | a :: as, h => by
    have ih := Bd.below_mono hyz as (fun p hp => h p (List.mem_cons_of_mem _ hp))
    have h1 := h a (List.mem_cons_self ..)
    unfold Bd.below at *
    simp only [List.map_cons, List.sum_cons]
    unfold Bd.add at *; split <;> split <;> omega
theorem Bd.below_perm {ps qs : List (Int × Int)} (h : qs.Perm ps) (y : Int) : Bd.below qs y = Bd.below ps y := Pr.perm_sum (h.map _)
def Bd.Asc (qs : List (Int × Int)) : Prop := qs.Pairwise fun a b => a.1 ≤ b.1
/-- The sorted row gives the yield at which the auction stops. -/
theorem Bd.run_stop {ps qs : List (Int × Int)} (hp : qs.Perm ps) (hs : Bd.Asc qs) (h0 : ∀ p ∈ ps, 0 ≤ p.1 ∧ 0 ≤ p.2) {n : Int} (hn : 1 ≤ n) : Bd.run qs n = Bd.stop ps n := by
  refine Bd.is_one (ps := ps) (n := n) ?_ (Bd.stop_is (fun p h => (h0 p h).1) n)
  have h0q : ∀ q ∈ qs, 0 ≤ q.1 ∧ 0 ≤ q.2 := fun q hq => h0 q (hp.mem_iff.1 hq)
  rcases Bd.run_is qs n hn with ⟨e, a⟩ | ⟨as, q, bs, e, e2, a, b⟩
  · refine Or.inl ⟨e, fun p _ => ?_⟩
    rw [← Bd.below_perm hp]
    have := (Bd.below_nn (y := p.1) qs (fun q hq => (h0q q hq).2)).2
    omega
  · rw [e2]
    subst e
    unfold Bd.Asc at hs
    rw [List.pairwise_append] at hs
    obtain ⟨-, hs2, hs3⟩ := hs
    rw [List.pairwise_cons] at hs2
    have hq : q ∈ ps := hp.mem_iff.1 (by simp)
    refine Or.inr ⟨(h0 q hq).1, ⟨q, hq, rfl⟩, ?_, fun p hpm hnp => ?_⟩
    · rw [← Bd.below_perm hp, Bd.below_app, Bd.below_all as (fun p h => hs3 p h q (by simp)), show q :: bs = [q] ++ bs from rfl, Bd.below_app, Bd.below_all [q] (fun p h => by simp at h; subst h; exact Int.le_refl _)]
      have := (Bd.below_nn (y := q.1) bs (fun r hr => (h0q r (by simp [hr])).2)).1
      simp only [Bd.sum, List.map_cons, List.map_nil, List.sum_cons, List.sum_nil] at *
      omega
    · rcases Int.lt_or_le p.1 q.1 with c | c
      · exfalso
        rw [← Bd.below_perm hp, Bd.below_app, Bd.below_none (q :: bs) (fun r hr => by
          rcases List.mem_cons.1 hr with rfl | hr
          · exact c
          · have := hs2.1 r hr; omega)] at hnp
        have := (Bd.below_nn (y := p.1) as (fun r hr => (h0q r (by simp [hr])).2)).2
        omega
      · exact c
def Bs.swp (xs : List (Int × Int)) (i j : Nat) : List (Int × Int) := (xs.set i (xs.getD j (0, 0))).set j (xs.getD i (0, 0))
def Bs.lt (p q : Int × Int) : Bool := decide (p.1 < q.1)
def Bs.ins : Nat → List (Int × Int) → List (Int × Int)
  | 0, xs => xs
  | j + 1, xs => if Bs.lt (xs.getD (j + 1) (0, 0)) (xs.getD j (0, 0)) = true then Bs.ins j (Bs.swp xs (j + 1) j) else xs
def Bs.srt (xs : List (Int × Int)) : Nat → List (Int × Int)
  | 0 => xs
  | k + 1 => Bs.ins (k + 1) (Bs.srt xs k)
theorem Bs.swp_len (xs : List (Int × Int)) (i j : Nat) : (Bs.swp xs i j).length = xs.length := by unfold Bs.swp; rw [List.length_set, List.length_set]
theorem Bs.ins_len : ∀ (j : Nat) (xs : List (Int × Int)), (Bs.ins j xs).length = xs.length
  | 0, xs => rfl
  | j + 1, xs => by
    unfold Bs.ins
    split
    · rw [Bs.ins_len j, Bs.swp_len]
    · rfl
theorem Bs.srt_len (xs : List (Int × Int)) : ∀ k, (Bs.srt xs k).length = xs.length
  | 0 => rfl
  | k + 1 => by unfold Bs.srt; rw [Bs.ins_len, Bs.srt_len xs k]
theorem Bs.getD_set {xs : List (Int × Int)} {i k : Nat} {x : Int × Int} (hi : i < xs.length) : (xs.set i x).getD k (0, 0) = if k = i then x else xs.getD k (0, 0) := by
  rw [List.getD_eq_getElem?_getD, List.getElem?_set]
  by_cases q : i = k
  · subst q; simp [hi]
  · rw [if_neg q, if_neg (fun e => q e.symm), List.getD_eq_getElem?_getD]
theorem Bs.swp_at {xs : List (Int × Int)} {i j : Nat} (hi : i < xs.length) (hj : j < xs.length) (k : Nat) : (Bs.swp xs i j).getD k (0, 0) = if k = j then xs.getD i (0, 0) else if k = i then xs.getD j (0, 0) else xs.getD k (0, 0) := by
  unfold Bs.swp
  rw [Bs.getD_set (by rw [List.length_set]; exact hj), Bs.getD_set hi]
theorem Bs.swp_perm {xs : List (Int × Int)} {i j : Nat} (hi : i < xs.length) (hj : j < xs.length) : (Bs.swp xs i j).Perm xs := by
  unfold Bs.swp
  rw [Bd.getD_get hi, Bd.getD_get hj]
  exact List.set_set_perm hi hj
theorem Bs.ins_perm : ∀ (j : Nat) (xs : List (Int × Int)), j < xs.length → (Bs.ins j xs).Perm xs
  | 0, xs, _ => List.Perm.refl _
  | j + 1, xs, hj => by
    unfold Bs.ins
    split
    · exact (Bs.ins_perm j _ (by rw [Bs.swp_len]; omega)).trans (Bs.swp_perm hj (by omega))
    · exact List.Perm.refl _
theorem Bs.srt_perm (xs : List (Int × Int)) : ∀ k, k < xs.length → (Bs.srt xs k).Perm xs
  | 0, _ => List.Perm.refl _
  | k + 1, hk => by
    unfold Bs.srt
    exact (Bs.ins_perm (k + 1) _ (by rw [Bs.srt_len]; exact hk)).trans (Bs.srt_perm xs k (by omega))
theorem Bs.ins_asc (m : Nat) : ∀ (j : Nat) (ys : List (Int × Int)), j ≤ m → m < ys.length → (∀ a b, a < b → b ≤ m → a ≠ j → b ≠ j → (ys.getD a (0, 0)).1 ≤ (ys.getD b (0, 0)).1) → (∀ b, j < b → b ≤ m → (ys.getD j (0, 0)).1 ≤ (ys.getD b (0, 0)).1) →
    ∀ a b, a < b → b ≤ m → ((Bs.ins j ys).getD a (0, 0)).1 ≤ ((Bs.ins j ys).getD b (0, 0)).1
  | 0, ys, _, _, h1, h2 => fun a b hab hb => by
    by_cases ha : a = 0
    · subst ha; exact h2 b hab hb
    · exact h1 a b hab hb ha (by omega)
  | j + 1, ys, hj, hm, h1, h2 => by
    unfold Bs.ins
    have hat := fun k => Bs.swp_at (xs := ys) (i := j + 1) (j := j) (by omega) (by omega) k
    split
    · rename_i hlt
      have hlt' : (ys.getD (j + 1) (0, 0)).1 < (ys.getD j (0, 0)).1 := by unfold Bs.lt at hlt; exact of_decide_eq_true hlt
      refine Bs.ins_asc m j _ (by omega) (by rw [Bs.swp_len]; exact hm) ?_ ?_
      · intro a b hab hb ha hbj
        rw [hat a, hat b, if_neg ha, if_neg hbj]
        by_cases c : a = j + 1
        · rw [if_pos c, if_neg (by omega)]
          exact h1 j b (by omega) hb (by omega) (by omega)
        · rw [if_neg c]
          by_cases d : b = j + 1
          · rw [if_pos d]; exact h1 a j (by omega) (by omega) c (by omega)
          · rw [if_neg d]; exact h1 a b hab hb c d
      · intro b hb hbm
        rw [hat j, hat b, if_pos rfl, if_neg (by omega)]
        by_cases d : b = j + 1
        · rw [if_pos d]; omega
        · rw [if_neg d]; exact h2 b (by omega) hbm
    · rename_i hlt
      have hlt' : ¬ (ys.getD (j + 1) (0, 0)).1 < (ys.getD j (0, 0)).1 := by
        intro c; apply hlt; unfold Bs.lt; exact decide_eq_true c
      intro a b hab hb
      by_cases c : a = j + 1
      · subst c; exact h2 b hab hb
      · by_cases d : b = j + 1
        · subst d
          by_cases e : a = j
          · subst e; omega
          · have := h1 a j (by omega) (by omega) c (by omega)
            omega
        · exact h1 a b hab hb c d
theorem Bs.ins_far : ∀ (j : Nat) (xs : List (Int × Int)) (k : Nat), j < xs.length → j < k → (Bs.ins j xs).getD k (0, 0) = xs.getD k (0, 0)
  | 0, xs, k, _, _ => rfl
  | j + 1, xs, k, hj, hk => by
    unfold Bs.ins
    split
    · rw [Bs.ins_far j _ k (by rw [Bs.swp_len]; omega) (by omega), Bs.swp_at hj (by omega), if_neg (by omega), if_neg (by omega)]
    · rfl
theorem Bs.srt_asc (xs : List (Int × Int)) : ∀ k, k < xs.length → ∀ a b, a < b → b ≤ k → ((Bs.srt xs k).getD a (0, 0)).1 ≤ ((Bs.srt xs k).getD b (0, 0)).1
  | 0, _ => fun a b h1 h2 => by omega
  | k + 1, hk => by
    have ih := Bs.srt_asc xs k (by omega)
    unfold Bs.srt
    exact Bs.ins_asc (k + 1) (k + 1) _ (Nat.le_refl _) (by rw [Bs.srt_len]; exact hk) (fun a b hab hb ha hb' => ih a b hab (by omega)) (fun b h1 h2 => by omega)
/-- Bids from the smallest yield on. -/
def Bs.all (xs : List (Int × Int)) : List (Int × Int) := Bs.srt xs (xs.length - 1)
theorem Bs.all_len (xs : List (Int × Int)) : (Bs.all xs).length = xs.length := Bs.srt_len _ _
theorem Bs.all_perm (xs : List (Int × Int)) : (Bs.all xs).Perm xs := by
  unfold Bs.all
  cases xs with
  | nil => exact List.Perm.refl _
  | cons x xs => exact Bs.srt_perm _ _ (by simp)
theorem Bs.all_asc (xs : List (Int × Int)) : Bd.Asc (Bs.all xs) := by
  unfold Bd.Asc
  rw [List.pairwise_iff_getElem]
  intro i j hi hj hij
  rw [← Bd.getD_get hi, ← Bd.getD_get hj]
  rw [Bs.all_len] at hj
  exact Bs.srt_asc xs (xs.length - 1) (by omega) i j hij (by omega)
end Go.Proofs.Ytgiejiiiokdbpaa
