import Derived.IntWalk
import Derived.Test.YtbihadelhknlnaaDoorI1
/- An insertion sort of places by their numbers, and what shares get of what is left: plain mathematics. -/
namespace Go.Proofs.YtbihadelhknlnaaDoor
def Sr.swp (xs : List Int) (i j : Nat) : List Int := (xs.set i (xs.getD j 0)).set j (xs.getD i 0)
/-- One element is moved forward as long as it is less than the one ahead of it. -/
def Sr.ins (lt : Int → Int → Bool) : Nat → List Int → List Int
  | 0, xs => xs
  | j + 1, xs => if lt (xs.getD (j + 1) 0) (xs.getD j 0) = true then Sr.ins lt j (Sr.swp xs (j + 1) j) else xs
/-- The first k + 1 elements sorted. -/
def Sr.srt (lt : Int → Int → Bool) (xs : List Int) : Nat → List Int
  | 0 => xs
  | k + 1 => Sr.ins lt (k + 1) (Sr.srt lt xs k)
theorem Sr.swp_len (xs : List Int) (i j : Nat) : (Sr.swp xs i j).length = xs.length := by unfold Sr.swp; rw [List.length_set, List.length_set]
theorem Sr.ins_len (lt : Int → Int → Bool) : ∀ (j : Nat) (xs : List Int), (Sr.ins lt j xs).length = xs.length
  | 0, xs => rfl
  | j + 1, xs => by
    unfold Sr.ins
    split
    · rw [Sr.ins_len lt j, Sr.swp_len]
    · rfl
theorem Sr.srt_len (lt : Int → Int → Bool) (xs : List Int) : ∀ k, (Sr.srt lt xs k).length = xs.length
  | 0 => rfl
  | k + 1 => by unfold Sr.srt; rw [Sr.ins_len, Sr.srt_len lt xs k]
theorem Sr.swp_mem {P : Int → Prop} {xs : List Int} {i j : Nat} (hi : i < xs.length) (hj : j < xs.length) (h : ∀ x ∈ xs, P x) : ∀ x ∈ Sr.swp xs i j, P x := by
  have m : ∀ k, k < xs.length → xs.getD k 0 ∈ xs := fun k hk => by
    rw [List.getD_eq_getElem?_getD, List.getElem?_eq_getElem hk]; simp
  intro x hx
  unfold Sr.swp at hx
  rcases List.mem_or_eq_of_mem_set hx with hx | hx
  · rcases List.mem_or_eq_of_mem_set hx with hx | hx
    · exact h x hx
    · subst hx; exact h _ (m j hj)
  · subst hx; exact h _ (m i hi)
theorem Sr.ins_mem {P : Int → Prop} (lt : Int → Int → Bool) : ∀ (j : Nat) (xs : List Int), j < xs.length → (∀ x ∈ xs, P x) → ∀ x ∈ Sr.ins lt j xs, P x
  | 0, xs, _, h => h
  | j + 1, xs, hj, h => by
    unfold Sr.ins
    split
    · exact Sr.ins_mem lt j _ (by rw [Sr.swp_len]; omega) (Sr.swp_mem hj (by omega) h)
    · exact h
theorem Sr.srt_mem {P : Int → Prop} (lt : Int → Int → Bool) {xs : List Int} (h : ∀ x ∈ xs, P x) : ∀ k, k < xs.length → ∀ x ∈ Sr.srt lt xs k, P x
  | 0, _ => h
  | k + 1, hk => by
    unfold Sr.srt
    exact Sr.ins_mem lt (k + 1) _ (by rw [Sr.srt_len]; exact hk) (Sr.srt_mem lt h k (by omega))
theorem Sr.getD_get {xs : List Int} {k : Nat} (hk : k < xs.length) : xs.getD k 0 = xs[k] := by
  rw [List.getD_eq_getElem?_getD, List.getElem?_eq_getElem hk]; rfl
theorem Sr.getD_set {xs : List Int} {i k : Nat} {x : Int} (hi : i < xs.length) : (xs.set i x).getD k 0 = if k = i then x else xs.getD k 0 := by
  rw [List.getD_eq_getElem?_getD, List.getElem?_set]
  by_cases q : i = k
  · subst q; simp [hi]
  · rw [if_neg q, if_neg (fun e => q e.symm), List.getD_eq_getElem?_getD]
theorem Sr.swp_at {xs : List Int} {i j : Nat} (hi : i < xs.length) (hj : j < xs.length) (k : Nat) : (Sr.swp xs i j).getD k 0 = if k = j then xs.getD i 0 else if k = i then xs.getD j 0 else xs.getD k 0 := by
  unfold Sr.swp
  rw [Sr.getD_set (by rw [List.length_set]; exact hj), Sr.getD_set hi]
theorem Sr.swp_perm {xs : List Int} {i j : Nat} (hi : i < xs.length) (hj : j < xs.length) : (Sr.swp xs i j).Perm xs := by
  unfold Sr.swp
  rw [Sr.getD_get hi, Sr.getD_get hj]
  exact List.set_set_perm hi hj
theorem Sr.ins_perm (lt : Int → Int → Bool) : ∀ (j : Nat) (xs : List Int), j < xs.length → (Sr.ins lt j xs).Perm xs
  | 0, xs, _ => List.Perm.refl _
  | j + 1, xs, hj => by
    unfold Sr.ins
    split
    · exact (Sr.ins_perm lt j _ (by rw [Sr.swp_len]; omega)).trans (Sr.swp_perm hj (by omega))
    · exact List.Perm.refl _
theorem Sr.srt_perm (lt : Int → Int → Bool) (xs : List Int) : ∀ k, k < xs.length → (Sr.srt lt xs k).Perm xs
  | 0, _ => List.Perm.refl _
  | k + 1, hk => by
    unfold Sr.srt
    exact (Sr.ins_perm lt (k + 1) _ (by rw [Sr.srt_len]; exact hk)).trans (Sr.srt_perm lt xs k (by omega))
theorem Sr.ins_far (lt : Int → Int → Bool) : ∀ (j : Nat) (xs : List Int) (k : Nat), j < xs.length → j < k → (Sr.ins lt j xs).getD k 0 = xs.getD k 0
  | 0, xs, k, _, _ => rfl
  | j + 1, xs, k, hj, hk => by
    unfold Sr.ins
    split
    · rw [Sr.ins_far lt j _ k (by rw [Sr.swp_len]; omega) (by omega), Sr.swp_at hj (by omega), if_neg (by omega), if_neg (by omega)]
    · rfl
theorem Sr.srt_far (lt : Int → Int → Bool) (xs : List Int) : ∀ k j, k < xs.length → k < j → (Sr.srt lt xs k).getD j 0 = xs.getD j 0
  | 0, _, _, _ => rfl
  | k + 1, j, hk, hj => by
    unfold Sr.srt
    rw [Sr.ins_far lt (k + 1) _ j (by rw [Sr.srt_len]; exact hk) hj, Sr.srt_far lt xs k j (by omega) (by omega)]
def cmpI (a b : Int) : Int := if a < b then -1 else if b < a then 1 else 0
/-- What is compared: the numbers at two places, from the greatest on. -/
def Sr.cmp (rs : List Int) (i k : Int) : Int := cmpI (rs.getD k.toNat 0) (rs.getD i.toNat 0)
def Sr.lt (rs : List Int) (i k : Int) : Bool := decide (rs.getD k.toNat 0 < rs.getD i.toNat 0)
theorem Sr.lt_of {rs : List Int} {i k : Nat} : (Sr.cmp rs i k < 0) = (Sr.lt rs i k = true) := by
  unfold Sr.cmp Sr.lt cmpI
  simp only [Int.toNat_natCast, decide_eq_true_eq, eq_iff_iff]
  constructor
  · intro h
    by_cases c : rs.getD k 0 < rs.getD i 0
    · exact c
    · rw [if_neg c] at h
      split at h <;> omega
  · intro h
    rw [if_pos h]; omega
def Sr.upto (n : Nat) : List Int := (List.range n).map fun i : Nat => (i : Int)
theorem Sr.upto_len (n : Nat) : (Sr.upto n).length = n := by unfold Sr.upto; simp
theorem Sr.upto_at {n i : Nat} (h : i < n) : (Sr.upto n).getD i 0 = i := by
  unfold Sr.upto
  rw [List.getD_eq_getElem?_getD, List.getElem?_map]; simp [h]
theorem Sr.upto_mem {n : Nat} {x : Int} (hx : x ∈ Sr.upto n) : 0 ≤ x ∧ x < n := by
  unfold Sr.upto at hx
  rw [List.mem_map] at hx
  obtain ⟨i, hi, rfl⟩ := hx
  have := List.mem_range.1 hi
  omega
/-- The places, the greatest number's first. -/
def Sr.ord (rs : List Int) : List Int := Sr.srt (Sr.lt rs) (Sr.upto rs.length) (rs.length - 1)
/-- One place comes ahead of another one. -/
def Sr.bef (rs : List Int) (i k : Int) : Prop := rs.getD k.toNat 0 < rs.getD i.toNat 0 ∨ (rs.getD k.toNat 0 = rs.getD i.toNat 0 ∧ i < k)
theorem Sr.bef_trans {rs : List Int} {i j k : Int} (h : Sr.bef rs i j) (h2 : Sr.bef rs j k) : Sr.bef rs i k := by
  unfold Sr.bef at *; omega
theorem Sr.bef_ne {rs : List Int} {i : Int} (h : Sr.bef rs i i) : False := by unfold Sr.bef at h; omega
theorem Sr.ins_ord (rs : List Int) (m : Nat) : ∀ (j : Nat) (ys : List Int), j ≤ m → m < ys.length → (∀ a b, a < b → b ≤ m → a ≠ j → b ≠ j → Sr.bef rs (ys.getD a 0) (ys.getD b 0)) → (∀ b, j < b → b ≤ m → Sr.bef rs (ys.getD j 0) (ys.getD b 0)) → (∀ a, a < j → ys.getD a 0 < ys.getD j 0) →
    ∀ a b, a < b → b ≤ m → Sr.bef rs ((Sr.ins (Sr.lt rs) j ys).getD a 0) ((Sr.ins (Sr.lt rs) j ys).getD b 0)
  | 0, ys, _, _, h1, h2, _ => fun a b hab hb => by
    by_cases ha : a = 0
    · subst ha; exact h2 b hab hb
    · exact h1 a b hab hb ha (by omega)
  | j + 1, ys, hj, hm, h1, h2, h3 => by
    unfold Sr.ins
    have hat := fun k => Sr.swp_at (xs := ys) (i := j + 1) (j := j) (by omega) (by omega) k
    split
    · rename_i hlt
      have hlt' : ys.getD (j + 1) 0 |> fun x => rs.getD (ys.getD j 0).toNat 0 < rs.getD x.toNat 0 := by
        unfold Sr.lt at hlt; exact of_decide_eq_true hlt
      refine Sr.ins_ord rs m j _ (by omega) (by rw [Sr.swp_len]; exact hm) ?_ ?_ ?_
      · intro a b hab hb ha hbj
        rw [hat a, hat b, if_neg ha, if_neg hbj]
        by_cases c : a = j + 1
        · rw [if_pos c, if_neg (by omega)]
          exact h1 j b (by omega) hb (by omega) (by omega)
        · rw [if_neg c]
          by_cases d : b = j + 1
          · rw [if_pos d]; exact h1 a j (by omega) (by omega) c (by omega)
          · rw [if_neg d]; exact h1 a b hab hb c d
      · intro b hb hbm
        rw [hat j, hat b, if_pos rfl, if_neg (by omega)]
        by_cases d : b = j + 1
        · rw [if_pos d]; exact Or.inl hlt'
        · rw [if_neg d]; exact h2 b (by omega) hbm
      · intro a ha
        rw [hat a, hat j, if_neg (by omega), if_neg (by omega), if_pos rfl]
        exact h3 a (by omega)
    · rename_i hlt
      have hlt' : ¬ (rs.getD (ys.getD j 0).toNat 0 < rs.getD (ys.getD (j + 1) 0).toNat 0) := by
        intro c; apply hlt; unfold Sr.lt; exact decide_eq_true c
      have hb1 : Sr.bef rs (ys.getD j 0) (ys.getD (j + 1) 0) := by
        have := h3 j (by omega)
        unfold Sr.bef; omega
      intro a b hab hb
      by_cases c : a = j + 1
      · subst c; exact h2 b hab hb
      · by_cases d : b = j + 1
        · subst d
          by_cases e : a = j
          · subst e; exact hb1
          · exact Sr.bef_trans (h1 a j (by omega) (by omega) c (by omega)) hb1
        · exact h1 a b hab hb c d
theorem Sr.srt_ord (rs : List Int) (n : Nat) : ∀ k, k < n → (∀ a b, a < b → b ≤ k → Sr.bef rs ((Sr.srt (Sr.lt rs) (Sr.upto n) k).getD a 0) ((Sr.srt (Sr.lt rs) (Sr.upto n) k).getD b 0)) ∧ ∀ a, a ≤ k → (Sr.srt (Sr.lt rs) (Sr.upto n) k).getD a 0 ≤ k
  | 0, hn => ⟨fun a b h1 h2 => by omega, fun a ha => by
    obtain rfl : a = 0 := by omega
    show (Sr.upto n).getD 0 0 ≤ _
    rw [Sr.upto_at hn]; simp⟩
  | k + 1, hk => by
    obtain ⟨ih, ih2⟩ := Sr.srt_ord rs n k (by omega)
    have hfar := fun j hj => Sr.srt_far (Sr.lt rs) (Sr.upto n) k j (by rw [Sr.upto_len]; omega) hj
    have hlen := Sr.srt_len (Sr.lt rs) (Sr.upto n) k
    rw [Sr.upto_len] at hlen
    have hk1 : (Sr.srt (Sr.lt rs) (Sr.upto n) k).getD (k + 1) 0 = ((k + 1 : Nat) : Int) := by rw [hfar _ (by omega), Sr.upto_at hk]
    refine ⟨?_, ?_⟩
    · unfold Sr.srt
      refine Sr.ins_ord rs (k + 1) (k + 1) _ (Nat.le_refl _) (by omega) (fun a b hab hb ha hb' => ih a b hab (by omega)) (fun b h1 h2 => by omega) (fun a ha => ?_)
      have := ih2 a (by omega)
      rw [hk1]; omega
    · intro a ha
      -- the first k + 2 places of the sorted row are those of the first k + 2
      have key : ∀ (j : Nat) (ys : List Int), j < ys.length → ∀ B : Int, (∀ b, b ≤ j → ys.getD b 0 ≤ B) → ∀ b, b ≤ j → (Sr.ins (Sr.lt rs) j ys).getD b 0 ≤ B := by
        intro j
        induction j with
        | zero => intro ys _ B h b hb; exact h b hb
        | succ j ihj =>
          intro ys hj B h b hb
          unfold Sr.ins
          split
          · have hat := fun k => Sr.swp_at (xs := ys) (i := j + 1) (j := j) hj (by omega) k
            by_cases c : b = j + 1
            · subst c
              rw [Sr.ins_far _ j _ (j + 1) (by rw [Sr.swp_len]; omega) (by omega), hat, if_neg (by omega), if_pos rfl]
              exact h j (by omega)
            · refine ihj _ (by rw [Sr.swp_len]; omega) B (fun b' hb' => ?_) b (by omega)
              rw [hat b']
              split
              · exact h _ (Nat.le_refl _)
              · split
                · exact h j (by omega)
                · exact h b' (by omega)
          · exact h b hb
      unfold Sr.srt
      refine key (k + 1) _ (by omega) _ (fun b hb => ?_) a ha
      by_cases c : b = k + 1
      · subst c; rw [hk1]; exact Int.le_refl _
      · have := ih2 b (by omega); omega
theorem Sr.ord_len (rs : List Int) : (Sr.ord rs).length = rs.length := by unfold Sr.ord; rw [Sr.srt_len, Sr.upto_len]
theorem Sr.ord_bef {rs : List Int} {a b : Nat} (hab : a < b) (hb : b < rs.length) : Sr.bef rs ((Sr.ord rs).getD a 0) ((Sr.ord rs).getD b 0) :=
  (Sr.srt_ord rs rs.length (rs.length - 1) (by omega)).1 a b hab (by omega)
theorem Sr.ord_perm {rs : List Int} (h : 0 < rs.length) : (Sr.ord rs).Perm (Sr.upto rs.length) := Sr.srt_perm _ _ _ (by rw [Sr.upto_len]; omega)
theorem Sr.ord_in {rs : List Int} {k : Nat} (hk : k < rs.length) : 0 ≤ (Sr.ord rs).getD k 0 ∧ (Sr.ord rs).getD k 0 < rs.length := by
  have hm : (Sr.ord rs).getD k 0 ∈ Sr.ord rs := by rw [Sr.getD_get (by rw [Sr.ord_len]; exact hk)]; exact List.getElem_mem _
  exact Sr.upto_mem ((Sr.ord_perm (by omega)).mem_iff.1 hm)
/-- Every place is somewhere in the order. -/
theorem Sr.ord_all {rs : List Int} {i : Nat} (hi : i < rs.length) : ∃ k, k < rs.length ∧ (Sr.ord rs).getD k 0 = (i : Int) := by
  have hm : (i : Int) ∈ Sr.upto rs.length := by
    unfold Sr.upto; rw [List.mem_map]; exact ⟨i, List.mem_range.2 hi, rfl⟩
  have := (Sr.ord_perm (rs := rs) (by omega)).mem_iff.2 hm
  obtain ⟨k, hk, e⟩ := List.mem_iff_getElem.1 this
  exact ⟨k, by rw [Sr.ord_len] at hk; exact hk, by rw [Sr.getD_get hk, e]⟩
theorem Sr.ord_inj {rs : List Int} {a b : Nat} (ha : a < rs.length) (hb : b < rs.length) (h : (Sr.ord rs).getD a 0 = (Sr.ord rs).getD b 0) : a = b := by
  rcases Nat.lt_trichotomy a b with c | c | c
  · have := Sr.ord_bef c hb; rw [h] at this; exact (Sr.bef_ne this).elim
  · exact c
  · have := Sr.ord_bef c ha; rw [h] at this; exact (Sr.bef_ne this).elim
/-- The place of the first greatest of the first m + 1 numbers. -/
def Sr.amax (rs : List Int) : Nat → Nat
  | 0 => 0
  | m + 1 => if rs.getD (Sr.amax rs m) 0 < rs.getD (m + 1) 0 then m + 1 else Sr.amax rs m
theorem Sr.amax_is (rs : List Int) : ∀ m, Sr.amax rs m ≤ m ∧ ∀ j, j ≤ m → rs.getD j 0 ≤ rs.getD (Sr.amax rs m) 0 ∧ (j < Sr.amax rs m → rs.getD j 0 < rs.getD (Sr.amax rs m) 0)
  | 0 => ⟨Nat.le_refl _, fun j hj => by obtain rfl : j = 0 := by omega
                                        exact ⟨Int.le_refl _, fun h => absurd h (Nat.not_lt_zero _)⟩⟩
  | m + 1 => by
    obtain ⟨h0, h1⟩ := Sr.amax_is rs m
    unfold Sr.amax
    split
    · rename_i c
      refine ⟨Nat.le_refl _, fun j hj => ?_⟩
      by_cases d : j = m + 1
      · subst d; exact ⟨Int.le_refl _, fun h => absurd h (Nat.lt_irrefl _)⟩
      · have := (h1 j (by omega)).1
        exact ⟨by omega, fun _ => by omega⟩
    · rename_i c
      refine ⟨by omega, fun j hj => ?_⟩
      by_cases d : j = m + 1
      · subst d; exact ⟨by omega, fun h => by omega⟩
      · exact h1 j (by omega)
theorem Sr.amax_one {rs : List Int} {m i : Nat} (hi : i ≤ m) (h : ∀ j, j ≤ m → rs.getD j 0 ≤ rs.getD i 0 ∧ (j < i → rs.getD j 0 < rs.getD i 0)) : Sr.amax rs m = i := by
  obtain ⟨h0, h1⟩ := Sr.amax_is rs m
  rcases Nat.lt_trichotomy (Sr.amax rs m) i with c | c | c
  · have a := (h _ h0).2 c
    have b := (h1 i hi).1
    omega
  · exact c
  · have a := (h1 i hi).2 c
    have b := (h _ h0).1
    omega
/-- The rests with those that have been served taken out. -/
def Sr.rst (rs os : List Int) : Nat → List Int
  | 0 => rs
  | k + 1 => (Sr.rst rs os k).set (os.getD k 0).toNat (-1)
theorem Sr.rst_len (rs os : List Int) : ∀ k, (Sr.rst rs os k).length = rs.length
  | 0 => rfl
  | k + 1 => by unfold Sr.rst; rw [List.length_set, Sr.rst_len rs os k]
theorem Sr.rst_no {rs : List Int} {i : Nat} : ∀ k, k ≤ rs.length → (∀ j, j < k → (Sr.ord rs).getD j 0 ≠ (i : Int)) → (Sr.rst rs (Sr.ord rs) k).getD i 0 = rs.getD i 0
  | 0, _, _ => rfl
  | k + 1, hk, h => by
    have hin := Sr.ord_in (rs := rs) (k := k) (by omega)
    have hne := h k (by omega)
    unfold Sr.rst
    rw [Sr.getD_set (by rw [Sr.rst_len]; omega), if_neg (by omega)]
    exact Sr.rst_no k (by omega) (fun j hj => h j (by omega))
theorem Sr.rst_yes {rs : List Int} {i : Nat} : ∀ k, k ≤ rs.length → (∃ j, j < k ∧ (Sr.ord rs).getD j 0 = (i : Int)) → (Sr.rst rs (Sr.ord rs) k).getD i 0 = -1
  | 0, _, ⟨j, hj, _⟩ => absurd hj (Nat.not_lt_zero _)
  | k + 1, hk, ⟨j, hj, e⟩ => by
    have hin := Sr.ord_in (rs := rs) (k := k) (by omega)
    unfold Sr.rst
    rw [Sr.getD_set (by rw [Sr.rst_len]; omega)]
    split
    · rfl
    · rename_i c
      refine Sr.rst_yes k (by omega) ⟨j, ?_, e⟩
      rcases Nat.lt_or_ge j k with d | d
      · exact d
      · obtain rfl : j = k := by omega
        exact absurd (by omega) c
/-- Round by round, the first greatest rest is the next place of the order. -/
theorem Sr.amax_ord {rs : List Int} (h0 : ∀ i, i < rs.length → 0 ≤ rs.getD i 0) {k : Nat} (hk : k < rs.length) : Sr.amax (Sr.rst rs (Sr.ord rs) k) (rs.length - 1) = ((Sr.ord rs).getD k 0).toNat := by
  have hin := Sr.ord_in (rs := rs) hk
  have hkn : ∀ j, j < k → (Sr.ord rs).getD j 0 ≠ (((Sr.ord rs).getD k 0).toNat : Int) := fun j hj e => by
    have := Sr.ord_inj (rs := rs) (a := j) (b := k) (by omega) hk (by omega)
    omega
  refine Sr.amax_one (by omega) (fun i hi => ?_)
  rw [Sr.rst_no k (by omega) hkn]
  obtain ⟨a, ha, e⟩ := Sr.ord_all (rs := rs) (i := i) (by omega)
  have h00 := h0 ((Sr.ord rs).getD k 0).toNat (by omega)
  rcases Nat.lt_trichotomy a k with c | c | c
  · rw [Sr.rst_yes k (by omega) ⟨a, c, e⟩]
    omega
  · subst c
    rw [show ((Sr.ord rs).getD a 0).toNat = i by omega, Sr.rst_no a (by omega) (fun j hj e2 => by have := Sr.ord_inj (rs := rs) (a := j) (b := a) (by omega) ha (by omega); omega)]
    omega
  · rw [Sr.rst_no k (by omega) (fun j hj e2 => by have := Sr.ord_inj (rs := rs) (a := j) (b := a) (by omega) ha (by omega); omega)]
    have hb := Sr.ord_bef c ha
    rw [e] at hb
    unfold Sr.bef at hb
    rw [Int.toNat_natCast] at hb
    omega
end Go.Proofs.YtbihadelhknlnaaDoor

/- Shares of an amount in proportion to weights: plain mathematics. -/
namespace Go.Proofs.YtbihadelhknlnaaDoor
theorem Pr.perm_sum {xs ys : List Int} (h : xs.Perm ys) : xs.sum = ys.sum := by
  induction h with
  | nil => rfl
  | cons x _ ih => simp only [List.sum_cons, ih]
  | swap x y l => simp only [List.sum_cons]; omega
  | trans _ _ ih1 ih2 => exact ih1.trans ih2
theorem Pr.sum_set : ∀ (xs : List Int) (i : Nat) (x : Int), i < xs.length → (xs.set i x).sum = xs.sum - xs.getD i 0 + x
  | [], i, x, h => by simp at h
  | y :: ys, 0, x, _ => by simp; omega
  | y :: ys, i + 1, x, h => by
    have ih := Pr.sum_set ys i x (by simpa using h)
    simp only [List.set_cons_succ, List.sum_cons, ih, List.getD_cons_succ]
    omega
theorem Pr.sum_le {M : Int} : ∀ (xs : List Int), (∀ x ∈ xs, x ≤ M) → xs.sum ≤ xs.length * M
  | [], _ => by simp
  | y :: ys, h => by
    have ih := Pr.sum_le ys (fun x hx => h x (List.mem_cons_of_mem _ hx))
    have := h y (List.mem_cons_self ..)
    simp only [List.sum_cons, List.length_cons, Int.natCast_add, Int.natCast_one, Int.add_mul, Int.one_mul]
    omega
theorem Pr.sum_nn : ∀ (xs : List Int), (∀ x ∈ xs, 0 ≤ x) → 0 ≤ xs.sum
  | [], _ => by simp
  | y :: ys, h => by
    have ih := Pr.sum_nn ys (fun x hx => h x (List.mem_cons_of_mem _ hx))
    have := h y (List.mem_cons_self ..)
    simp only [List.sum_cons]
    omega
theorem Pr.mem_le : ∀ (xs : List Int), (∀ x ∈ xs, 0 ≤ x) → ∀ x ∈ xs, x ≤ xs.sum
  | [], _, x, hx => by cases hx
  | y :: ys, h, x, hx => by
    have h2 : ∀ x ∈ ys, 0 ≤ x := fun x hx => h x (List.mem_cons_of_mem _ hx)
    have hn := Pr.sum_nn ys h2
    have hy := h y (List.mem_cons_self ..)
    simp only [List.sum_cons]
    rcases List.mem_cons.1 hx with rfl | hx
    · omega
    · have := Pr.mem_le ys h2 x hx; omega
theorem Pr.sum_cut {M : Int} (hM : 0 ≤ M) : ∀ (xs : List Int) (a : Nat), (∀ x ∈ xs, x ≤ M) → (∀ k, a ≤ k → k < xs.length → xs.getD k 0 ≤ 0) → xs.sum ≤ a * M
  | [], a, _, _ => by simpa using Int.mul_nonneg (by omega) hM
  | y :: ys, a, h, h2 => by
    have hs : ∀ x ∈ ys, x ≤ M := fun x hx => h x (List.mem_cons_of_mem _ hx)
    have hy := h y (List.mem_cons_self ..)
    cases a with
    | zero =>
      have ih := Pr.sum_cut hM ys 0 hs (fun k hk hl => by have := h2 (k + 1) (by omega) (by simpa using hl); simpa using this)
      have := h2 0 (Nat.le_refl _) (by simp)
      simp only [List.getD_cons_zero] at this
      simp only [List.sum_cons]
      omega
    | succ a =>
      have ih := Pr.sum_cut hM ys a hs (fun k hk hl => by have := h2 (k + 1) (by omega) (by simpa using hl); simpa using this)
      simp only [List.sum_cons, Int.natCast_add, Int.natCast_one, Int.add_mul, Int.one_mul]
      omega
/-- One more for each of the first places of an order. -/
def Pr.shs (sh os : List Int) : Nat → List Int
  | 0 => sh
  | k + 1 => (Pr.shs sh os k).set (os.getD k 0).toNat ((Pr.shs sh os k).getD (os.getD k 0).toNat 0 + 1)
theorem Pr.shs_len (sh os : List Int) : ∀ k, (Pr.shs sh os k).length = sh.length
  | 0 => rfl
  | k + 1 => by unfold Pr.shs; rw [List.length_set, Pr.shs_len sh os k]
def Pr.fl (A : Int) (ws : List Int) : List Int := ws.map fun w => A * w / ws.sum
def Pr.rs (A : Int) (ws : List Int) : List Int := ws.map fun w => A * w % ws.sum
def Pr.left (A : Int) (ws : List Int) : Int := A - (Pr.fl A ws).sum
def Pr.sh (A : Int) (ws : List Int) (k : Nat) : List Int := Pr.shs (Pr.fl A ws) (Sr.ord (Pr.rs A ws)) k
def Pr.out (A : Int) (ws : List Int) : List Int := Pr.sh A ws (Pr.left A ws).toNat
theorem Pr.fl_len (A : Int) (ws : List Int) : (Pr.fl A ws).length = ws.length := by unfold Pr.fl; simp
theorem Pr.rs_len (A : Int) (ws : List Int) : (Pr.rs A ws).length = ws.length := by unfold Pr.rs; simp
theorem Pr.out_len (A : Int) (ws : List Int) : (Pr.out A ws).length = ws.length := by unfold Pr.out Pr.sh; rw [Pr.shs_len, Pr.fl_len]
theorem Pr.map_at {f : Int → Int} {ws : List Int} {i : Nat} (hi : i < ws.length) : (ws.map f).getD i 0 = f (ws.getD i 0) := by
  rw [Sr.getD_get (by simpa using hi), Sr.getD_get hi, List.getElem_map]
theorem Pr.fl_at {A : Int} {ws : List Int} {i : Nat} (hi : i < ws.length) : (Pr.fl A ws).getD i 0 = A * ws.getD i 0 / ws.sum := Pr.map_at hi
theorem Pr.rs_at {A : Int} {ws : List Int} {i : Nat} (hi : i < ws.length) : (Pr.rs A ws).getD i 0 = A * ws.getD i 0 % ws.sum := Pr.map_at hi
/-- What is divided: an amount, weights of which one at least is more than 0. -/
structure Pr.Ok (A : Int) (ws : List Int) : Prop where
  a0 : 0 ≤ A
  w0 : ∀ w ∈ ws, 0 ≤ w
  t0 : 0 < ws.sum
theorem Pr.Ok.at {A : Int} {ws : List Int} (h : Pr.Ok A ws) {i : Nat} (hi : i < ws.length) : 0 ≤ ws.getD i 0 ∧ ws.getD i 0 ≤ ws.sum := by
  have hm : ws.getD i 0 ∈ ws := by rw [Sr.getD_get hi]; exact List.getElem_mem _
  exact ⟨h.w0 _ hm, Pr.mem_le ws h.w0 _ hm⟩
theorem Pr.rs_in {A : Int} {ws : List Int} (h : Pr.Ok A ws) {i : Nat} (hi : i < ws.length) : 0 ≤ (Pr.rs A ws).getD i 0 ∧ (Pr.rs A ws).getD i 0 < ws.sum := by
  rw [Pr.rs_at hi]
  exact ⟨Int.emod_nonneg _ (by have := h.t0; omega), Int.emod_lt_of_pos _ h.t0⟩
theorem Pr.split_at {A : Int} {ws : List Int} {i : Nat} (hi : i < ws.length) : ws.sum * (Pr.fl A ws).getD i 0 + (Pr.rs A ws).getD i 0 = A * ws.getD i 0 := by
  rw [Pr.fl_at hi, Pr.rs_at hi]
  exact Int.mul_ediv_add_emod _ _
theorem Pr.sums (A T : Int) : ∀ ws : List Int, T * (ws.map fun w => A * w / T).sum + (ws.map fun w => A * w % T).sum = A * ws.sum
  | [] => by simp
  | w :: ws => by
    have ih := Pr.sums A T ws
    have := Int.mul_ediv_add_emod (A * w) T
    simp only [List.map_cons, List.sum_cons, Int.mul_add]
    omega
theorem Pr.rests {A : Int} {ws : List Int} : (Pr.rs A ws).sum = ws.sum * Pr.left A ws := by
  have := Pr.sums A ws.sum ws
  unfold Pr.left
  rw [Int.mul_sub, Int.mul_comm ws.sum A]
  unfold Pr.rs Pr.fl at *
  omega
theorem Pr.rs_mem {A : Int} {ws : List Int} (h : Pr.Ok A ws) : ∀ r ∈ Pr.rs A ws, 0 ≤ r ∧ r ≤ ws.sum - 1 := by
  intro r hr
  obtain ⟨i, hi, rfl⟩ := List.mem_iff_getElem.1 hr
  rw [← Sr.getD_get hi]
  have := Pr.rs_in h (i := i) (by rw [Pr.rs_len] at hi; exact hi)
  omega
theorem Pr.left_nn {A : Int} {ws : List Int} (h : Pr.Ok A ws) : 0 ≤ Pr.left A ws := by
  have hn := Pr.sum_nn _ (fun r hr => (Pr.rs_mem h r hr).1)
  rw [Pr.rests] at hn
  have t := h.t0
  rcases Int.lt_or_le (Pr.left A ws) 0 with c | c
  · have := Int.mul_neg_of_pos_of_neg t c; omega
  · exact c
theorem Pr.pos_len {A : Int} {ws : List Int} (h : Pr.Ok A ws) : 0 < ws.length := by
  cases ws with
  | nil => have := h.t0; simp at this
  | cons => simp
theorem Pr.left_lt {A : Int} {ws : List Int} (h : Pr.Ok A ws) : Pr.left A ws < ws.length := by
  have hn := Pr.sum_le (M := ws.sum - 1) _ (fun r hr => (Pr.rs_mem h r hr).2)
  rw [Pr.rests, Pr.rs_len] at hn
  have t := h.t0
  have l0 := Pr.pos_len h
  rcases Int.lt_or_le (Pr.left A ws) ws.length with c | c
  · exact c
  · have h1 := Int.mul_le_mul_of_nonneg_left c (Int.le_of_lt t)
    rw [Int.mul_sub, Int.mul_one, Int.mul_comm _ ws.sum] at hn
    omega
/-- Whether a place is one of the first ones. -/
def Pr.In (os : List Int) (L i : Nat) : Prop := ∃ j, j < L ∧ os.getD j 0 = (i : Int)
theorem Pr.shs_at {rs sh : List Int} (hl : sh.length = rs.length) {i : Nat} : ∀ k, k ≤ rs.length →
    ((Pr.In (Sr.ord rs) k i → (Pr.shs sh (Sr.ord rs) k).getD i 0 = sh.getD i 0 + 1) ∧ (¬ Pr.In (Sr.ord rs) k i → (Pr.shs sh (Sr.ord rs) k).getD i 0 = sh.getD i 0))
  | 0, _ => ⟨fun ⟨j, hj, _⟩ => absurd hj (Nat.not_lt_zero _), fun _ => rfl⟩
  | k + 1, hk => by
    obtain ⟨ih1, ih2⟩ := Pr.shs_at (i := i) hl k (by omega)
    have hin := Sr.ord_in (rs := rs) (k := k) (by omega)
    have hat : (Pr.shs sh (Sr.ord rs) (k + 1)).getD i 0 = if i = ((Sr.ord rs).getD k 0).toNat then (Pr.shs sh (Sr.ord rs) k).getD ((Sr.ord rs).getD k 0).toNat 0 + 1 else (Pr.shs sh (Sr.ord rs) k).getD i 0 := by
      show ((Pr.shs sh (Sr.ord rs) k).set _ _).getD i 0 = _
      rw [Sr.getD_set (by rw [Pr.shs_len]; omega)]
    rw [hat]
    by_cases c : i = ((Sr.ord rs).getD k 0).toNat
    · rw [if_pos c, ← c]
      have hno : ¬ Pr.In (Sr.ord rs) k i := fun ⟨j, hj, e⟩ => by
        have := Sr.ord_inj (rs := rs) (a := j) (b := k) (by omega) (by omega) (by omega)
        omega
      rw [ih2 hno]
      exact ⟨fun _ => rfl, fun h => absurd ⟨k, by omega, by omega⟩ h⟩
    · rw [if_neg c]
      refine ⟨fun ⟨j, hj, e⟩ => ih1 ⟨j, ?_, e⟩, fun h => ih2 (fun ⟨j, hj, e⟩ => h ⟨j, by omega, e⟩)⟩
      rcases Nat.lt_or_ge j k with d | d
      · exact d
      · obtain rfl : j = k := by omega
        exact absurd (by omega) c
theorem Pr.shs_sum {rs sh : List Int} (hl : sh.length = rs.length) : ∀ k, k ≤ rs.length → (Pr.shs sh (Sr.ord rs) k).sum = sh.sum + k
  | 0, _ => by simp [Pr.shs]
  | k + 1, hk => by
    have ih := Pr.shs_sum hl k (by omega)
    have hin := Sr.ord_in (rs := rs) (k := k) (by omega)
    unfold Pr.shs
    rw [Pr.sum_set _ _ _ (by rw [Pr.shs_len]; omega), ih]
    omega
/-- The places that get one more. -/
def Pr.Ch (A : Int) (ws : List Int) (i : Nat) : Prop := Pr.In (Sr.ord (Pr.rs A ws)) (Pr.left A ws).toNat i
theorem Pr.out_yes {A : Int} {ws : List Int} (h : Pr.Ok A ws) {i : Nat} (hc : Pr.Ch A ws i) : (Pr.out A ws).getD i 0 = (Pr.fl A ws).getD i 0 + 1 :=
  (Pr.shs_at (rs := Pr.rs A ws) (sh := Pr.fl A ws) (by rw [Pr.fl_len, Pr.rs_len]) _ (by rw [Pr.rs_len]; have := Pr.left_lt h; have := Pr.left_nn h; omega)).1 hc
theorem Pr.out_no {A : Int} {ws : List Int} (h : Pr.Ok A ws) {i : Nat} (hc : ¬ Pr.Ch A ws i) : (Pr.out A ws).getD i 0 = (Pr.fl A ws).getD i 0 :=
  (Pr.shs_at (rs := Pr.rs A ws) (sh := Pr.fl A ws) (by rw [Pr.fl_len, Pr.rs_len]) _ (by rw [Pr.rs_len]; have := Pr.left_lt h; have := Pr.left_nn h; omega)).2 hc
/-- All of the amount is divided. -/
theorem Pr.out_sum {A : Int} {ws : List Int} (h : Pr.Ok A ws) : (Pr.out A ws).sum = A := by
  have l := Pr.left_lt h
  have l0 := Pr.left_nn h
  have := Pr.shs_sum (rs := Pr.rs A ws) (sh := Pr.fl A ws) (by rw [Pr.fl_len, Pr.rs_len]) (Pr.left A ws).toNat (by rw [Pr.rs_len]; omega)
  unfold Pr.out Pr.sh
  rw [this, Int.toNat_of_nonneg l0]
  unfold Pr.left
  omega
/-- Only those with a rest get one more. -/
theorem Pr.ch_rest {A : Int} {ws : List Int} (h : Pr.Ok A ws) {i : Nat} (hc : Pr.Ch A ws i) : 0 < (Pr.rs A ws).getD i 0 := by
  obtain ⟨a, ha, e⟩ := hc
  have l := Pr.left_lt h
  have l0 := Pr.left_nn h
  have hrl := Pr.rs_len A ws
  have t := h.t0
  rcases Int.lt_or_le 0 ((Pr.rs A ws).getD i 0) with c | c
  · exact c
  · exfalso
    have hps : ((Sr.ord (Pr.rs A ws)).map fun x => (Pr.rs A ws).getD x.toNat 0).sum = (Pr.rs A ws).sum := by
      rw [Pr.perm_sum ((Sr.ord_perm (rs := Pr.rs A ws) (by omega)).map _)]
      congr 1
      refine List.ext_getElem (by rw [List.length_map, Sr.upto_len]) fun k h1 h2 => ?_
      rw [List.getElem_map, ← Sr.getD_get (k := k) (by rw [Sr.upto_len]; exact h2), Sr.upto_at h2, Int.toNat_natCast, Sr.getD_get h2]
    have hcut := Pr.sum_cut (M := ws.sum - 1) (by omega) ((Sr.ord (Pr.rs A ws)).map fun x => (Pr.rs A ws).getD x.toNat 0) a (fun x hx => by
      obtain ⟨y, hy, rfl⟩ := List.mem_map.1 hx
      have hy2 := Sr.upto_mem ((Sr.ord_perm (rs := Pr.rs A ws) (by omega)).mem_iff.1 hy)
      have := Pr.rs_in h (i := y.toNat) (by omega)
      omega) (fun k hk hl => by
      rw [List.length_map, Sr.ord_len] at hl
      rw [Pr.map_at (f := fun x => (Pr.rs A ws).getD x.toNat 0) (by rw [Sr.ord_len]; exact hl)]
      rcases Nat.lt_or_ge a k with d | d
      · have hb := Sr.ord_bef (rs := Pr.rs A ws) d hl
        unfold Sr.bef at hb
        rw [e, Int.toNat_natCast] at hb
        omega
      · obtain rfl : k = a := by omega
        show (Pr.rs A ws).getD ((Sr.ord (Pr.rs A ws)).getD k 0).toNat 0 ≤ 0
        rw [e, Int.toNat_natCast]; exact c)
    rw [hps, Pr.rests] at hcut
    have h1 : ((a : Int) + 1) * ws.sum ≤ Pr.left A ws * ws.sum := Int.mul_le_mul_of_nonneg_right (by omega) (by omega)
    rw [Int.add_mul, Int.one_mul, Int.mul_comm (Pr.left A ws)] at h1
    rw [Int.mul_sub, Int.mul_one] at hcut
    omega
/-- Who comes ahead of one that gets one more gets one more. -/
theorem Pr.ch_up {A : Int} {ws : List Int} (h : Pr.Ok A ws) {i j : Nat} (hi : i < ws.length) (hb : Sr.bef (Pr.rs A ws) i j) (hc : Pr.Ch A ws j) : Pr.Ch A ws i := by
  obtain ⟨a, ha, e⟩ := hc
  have l := Pr.left_lt h
  have l0 := Pr.left_nn h
  have hrl := Pr.rs_len A ws
  obtain ⟨b, hbl, e2⟩ := Sr.ord_all (rs := Pr.rs A ws) (i := i) (by omega)
  rcases Nat.lt_trichotomy a b with c | c | c
  · have := Sr.ord_bef c hbl
    rw [e, e2] at this
    exact (Sr.bef_ne (Sr.bef_trans hb this)).elim
  · subst c
    rw [e] at e2
    rw [e2] at hb
    exact (Sr.bef_ne hb).elim
  · exact ⟨b, by omega, e2⟩
/-- Each share differs from the exact one by less than 1. -/
theorem Pr.near {A : Int} {ws : List Int} (h : Pr.Ok A ws) {i : Nat} (hi : i < ws.length) : -ws.sum < (Pr.out A ws).getD i 0 * ws.sum - A * ws.getD i 0 ∧ (Pr.out A ws).getD i 0 * ws.sum - A * ws.getD i 0 < ws.sum := by
  have hs := Pr.split_at (A := A) hi
  obtain ⟨r0, r1⟩ := Pr.rs_in h hi
  rcases Classical.em (Pr.Ch A ws i) with c | c
  · have hr := Pr.ch_rest h c
    rw [Pr.out_yes h c, Int.add_mul, Int.one_mul, Int.mul_comm _ ws.sum]
    omega
  · rw [Pr.out_no h c, Int.mul_comm _ ws.sum]
    omega
theorem Pr.fl_nn {A : Int} {ws : List Int} (h : Pr.Ok A ws) {i : Nat} (hi : i < ws.length) : 0 ≤ (Pr.fl A ws).getD i 0 := by
  rw [Pr.fl_at hi]
  exact Int.ediv_nonneg (Int.mul_nonneg h.a0 (h.at hi).1) (Int.le_of_lt h.t0)
theorem Pr.out_nn {A : Int} {ws : List Int} (h : Pr.Ok A ws) {i : Nat} (hi : i < ws.length) : 0 ≤ (Pr.out A ws).getD i 0 := by
  have := Pr.fl_nn h hi
  rcases Classical.em (Pr.Ch A ws i) with c | c
  · rw [Pr.out_yes h c]; omega
  · rw [Pr.out_no h c]; exact this
theorem Pr.out_le {A : Int} {ws : List Int} (h : Pr.Ok A ws) {i : Nat} (hi : i < ws.length) : (Pr.out A ws).getD i 0 ≤ A := by
  have hm : (Pr.out A ws).getD i 0 ∈ Pr.out A ws := by rw [Sr.getD_get (by rw [Pr.out_len]; exact hi)]; exact List.getElem_mem _
  have := Pr.mem_le (Pr.out A ws) (fun x hx => by
    obtain ⟨k, hk, rfl⟩ := List.mem_iff_getElem.1 hx
    rw [← Sr.getD_get hk]
    exact Pr.out_nn h (by rw [Pr.out_len] at hk; exact hk)) _ hm
  rw [Pr.out_sum h] at this
  exact this
/-- No share is greater than the weight if the amount is not greater than all weights. -/
theorem Pr.out_w {A : Int} {ws : List Int} (h : Pr.Ok A ws) (hA : A ≤ ws.sum) {i : Nat} (hi : i < ws.length) : (Pr.out A ws).getD i 0 ≤ ws.getD i 0 := by
  have hn := (Pr.near h hi).2
  have hw := (h.at hi).1
  have t := h.t0
  have h1 : A * ws.getD i 0 ≤ ws.sum * ws.getD i 0 := Int.mul_le_mul_of_nonneg_right hA hw
  rcases Int.lt_or_le (ws.getD i 0) ((Pr.out A ws).getD i 0) with c | c
  · exfalso
    have h2 : (ws.getD i 0 + 1) * ws.sum ≤ (Pr.out A ws).getD i 0 * ws.sum := Int.mul_le_mul_of_nonneg_right (by omega) (by omega)
    rw [Int.add_mul, Int.one_mul, Int.mul_comm (ws.getD i 0)] at h2
    omega
  · exact c
theorem Pr.fl_le {A : Int} {ws : List Int} (h : Pr.Ok A ws) {i : Nat} (hi : i < ws.length) : (Pr.fl A ws).getD i 0 ≤ A := by
  have := Pr.out_le h hi
  rcases Classical.em (Pr.Ch A ws i) with c | c
  · rw [Pr.out_yes h c] at this; omega
  · rw [Pr.out_no h c] at this; exact this
/-- Greater weights get no less. -/
theorem Pr.order {A : Int} {ws : List Int} (h : Pr.Ok A ws) {i j : Nat} (hi : i < ws.length) (hj : j < ws.length) (hw : ws.getD j 0 < ws.getD i 0) : (Pr.out A ws).getD j 0 ≤ (Pr.out A ws).getD i 0 := by
  have hf : (Pr.fl A ws).getD j 0 ≤ (Pr.fl A ws).getD i 0 := by
    rw [Pr.fl_at hi, Pr.fl_at hj]
    exact Int.ediv_le_ediv h.t0 (Int.mul_le_mul_of_nonneg_left (by omega) h.a0)
  have si := Pr.split_at (A := A) hi
  have sj := Pr.split_at (A := A) hj
  rcases Classical.em (Pr.Ch A ws j) with c | c
  · rcases Classical.em (Pr.Ch A ws i) with d | d
    · rw [Pr.out_yes h c, Pr.out_yes h d]; omega
    · rw [Pr.out_yes h c, Pr.out_no h d]
      rcases Int.lt_or_le ((Pr.fl A ws).getD j 0) ((Pr.fl A ws).getD i 0) with q | q
      · omega
      · exfalso
        have e : (Pr.fl A ws).getD j 0 = (Pr.fl A ws).getD i 0 := by omega
        rw [e] at sj
        have hA : 0 < A := by
          rcases Int.lt_or_le 0 A with z | z
          · exact z
          · have hr := Pr.ch_rest h c
            obtain rfl : A = 0 := by have := h.a0; omega
            rw [Pr.rs_at hj] at hr
            simp at hr
        have h2 : A * (ws.getD j 0 + 1) ≤ A * ws.getD i 0 := Int.mul_le_mul_of_nonneg_left (by omega) h.a0
        rw [Int.mul_add, Int.mul_one] at h2
        exact d (Pr.ch_up h hi (Or.inl (by rw [Int.toNat_natCast, Int.toNat_natCast]; omega)) c)
  · rw [Pr.out_no h c]
    rcases Classical.em (Pr.Ch A ws i) with d | d
    · rw [Pr.out_yes h d]; omega
    · rw [Pr.out_no h d]; exact hf
/-- Equal weights: the first ones get one more at most. -/
theorem Pr.equal {A : Int} {ws : List Int} (h : Pr.Ok A ws) {i j : Nat} (hij : i < j) (hj : j < ws.length) (hw : ws.getD j 0 = ws.getD i 0) : (Pr.out A ws).getD j 0 ≤ (Pr.out A ws).getD i 0 ∧ (Pr.out A ws).getD i 0 ≤ (Pr.out A ws).getD j 0 + 1 := by
  have hi : i < ws.length := by omega
  have hf : (Pr.fl A ws).getD j 0 = (Pr.fl A ws).getD i 0 := by rw [Pr.fl_at hi, Pr.fl_at hj, hw]
  have hr : (Pr.rs A ws).getD j 0 = (Pr.rs A ws).getD i 0 := by rw [Pr.rs_at hi, Pr.rs_at hj, hw]
  rcases Classical.em (Pr.Ch A ws j) with c | c
  · have d : Pr.Ch A ws i := Pr.ch_up h hi (Or.inr ⟨by rw [Int.toNat_natCast, Int.toNat_natCast]; exact hr, by omega⟩) c
    rw [Pr.out_yes h c, Pr.out_yes h d]; omega
  · rw [Pr.out_no h c]
    rcases Classical.em (Pr.Ch A ws i) with d | d
    · rw [Pr.out_yes h d]; omega
    · rw [Pr.out_no h d]; omega
end Go.Proofs.YtbihadelhknlnaaDoor

/- Holdings: which are valid, and their sum, on both sides. -/
namespace Go.Proofs.YtbihadelhknlnaaDoor
open Go.RowKit
def holdB (n : Int) : Bool := btw n 0 9999
def Ho.ok (xs : List Int) : Bool := btw xs.length 1 8 && xs.all holdB
theorem Ho.parts {xs : List Int} (h : Ho.ok xs = true) : 1 ≤ xs.length ∧ xs.length ≤ 8 ∧ xs.all holdB = true := by
  unfold Ho.ok at h
  rw [Bool.and_eq_true, btw_iff] at h
  exact ⟨by omega, by omega, h.2⟩
theorem Ho.at {xs : List Int} (h : xs.all holdB = true) {i : Nat} (hi : i < xs.length) : 0 ≤ xs.getD i 0 ∧ xs.getD i 0 ≤ 9999 := btw_iff.1 (allB_at 0 h hi)
theorem Ho.mem {xs : List Int} (h : xs.all holdB = true) : ∀ x ∈ xs, 0 ≤ x ∧ x ≤ 9999 := fun x hx => btw_iff.1 (List.all_eq_true.1 h x hx)
theorem Ho.take_bd {xs : List Int} (h : xs.all holdB = true) : ∀ i : Nat, i ≤ xs.length → 0 ≤ (xs.take i).sum ∧ (xs.take i).sum ≤ 9999 * (i : Int)
  | 0, _ => by simp
  | i + 1, hi => by
    have ih := Ho.take_bd h i (by omega)
    have o := Ho.at h (show i < xs.length by omega)
    rw [take_snoc1 (by omega), List.sum_append]
    simp only [List.sum_cons, List.sum_nil]
    omega
theorem Ho.sum_bd {xs : List Int} (h : xs.all holdB = true) (hl : xs.length ≤ 8) : 0 ≤ xs.sum ∧ xs.sum ≤ 79992 := by
  have := Ho.take_bd h xs.length (Nat.le_refl _)
  rw [List.take_length] at this
  omega
set_option maxHeartbeats 400000 in
theorem hold1_any (p : Int) (w : World) : Calls Tryd.prog 34 #[.int .i64 p] w fun e w' => e = .returned (.bool (holdB p)) ∧ Below w.heap.size w w' := by
  have E := Lib.hid (show holdB p = btw p 0 9999 from rfl)
  go_enter Tryd.func34, Tryd.ntmps34
  go_wp2_with fail
  refine (between_any _ _ _ _).mono ?_
  rintro e w' ⟨rfl, rfl⟩
  go_wp2_with fail
  go_ret
  exact ⟨ret_bool E.out.symm, Below.refl _ _⟩
/-- Numbers that can be summed up. -/
def Small (xs : List Int) : Prop := ∀ i, i < xs.length → -1000000000000 ≤ xs.getD i 0 ∧ xs.getD i 0 ≤ 1000000000000
theorem Small.take {xs : List Int} (h : Small xs) : ∀ i : Nat, i ≤ xs.length → -1000000000000 * (i : Int) ≤ (xs.take i).sum ∧ (xs.take i).sum ≤ 1000000000000 * (i : Int)
  | 0, _ => by simp
  | i + 1, hi => by
    have ih := Small.take h i (by omega)
    have o := h i (by omega)
    rw [take_snoc1 (by omega), List.sum_append]
    simp only [List.sum_cons, List.sum_nil]
    omega
end Go.Proofs.YtbihadelhknlnaaDoor
