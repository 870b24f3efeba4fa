/- An insertion sort of places by their numbers, and what shares get of what is left: plain mathematics. -/
import Derived.IntWalk
namespace Go.Proofs.Ytgkldgljebhcgaa
def Sr.swp (xs : List Int) (i j : Nat) : List Int := (xs.set i (xs.getD j 0)).set j (xs.getD i 0)
/-- One element is moved forward as long as it is less than the one ahead of it. -/
def Sr.ins (lt : Int → Int → Bool) : Nat → List Int → List Int
  | 0, xs => xs
  | j + 1, xs => if lt (xs.getD (j + 1) 0) (xs.getD j 0) = true then Sr.ins lt j (Sr.swp xs (j + 1) j) else xs
/-- The first k + 1 elements sorted. -/
def Sr.srt (lt : Int → Int → Bool) (xs : List Int) : Nat → List Int
  | 0 => xs
  | k + 1 => Sr.ins lt (k + 1) (Sr.srt lt xs k)
theorem Sr.swp_len (xs : List Int) (i j : Nat) : (Sr.swp xs i j).length = xs.length := by unfold Sr.swp; rw [List.length_set, List.length_set]
theorem Sr.ins_len (lt : Int → Int → Bool) : ∀ (j : Nat) (xs : List Int), (Sr.ins lt j xs).length = xs.length
  | 0, xs => rfl
  | j + 1, xs => by
    unfold Sr.ins
    split
    · rw [Sr.ins_len lt j, Sr.swp_len]
    · rfl
theorem Sr.srt_len (lt : Int → Int → Bool) (xs : List Int) : ∀ k, (Sr.srt lt xs k).length = xs.length
  | 0 => rfl
  | k + 1 => by unfold Sr.srt; rw [Sr.ins_len, Sr.srt_len lt xs k]
theorem Sr.swp_mem {P : Int → Prop} {xs : List Int} {i j : Nat} (hi : i < xs.length) (hj : j < xs.length) (h : ∀ x ∈ xs, P x) : ∀ x ∈ Sr.swp xs i j, P x := by
  have m : ∀ k, k < xs.length → xs.getD k 0 ∈ xs := fun k hk => by
    rw [List.getD_eq_getElem?_getD, List.getElem?_eq_getElem hk]; simp
  intro x hx
  unfold Sr.swp at hx
  rcases List.mem_or_eq_of_mem_set hx with hx | hx
  · rcases List.mem_or_eq_of_mem_set hx with hx | hx
    · exact h x hx
    · subst hx; exact h _ (m j hj)
  · subst hx; exact h _ (m i hi)
theorem Sr.ins_mem {P : Int → Prop} (lt : Int → Int → Bool) : ∀ (j : Nat) (xs : List Int), j < xs.length → (∀ x ∈ xs, P x) → ∀ x ∈ Sr.ins lt j xs, P x
  | 0, xs, _, h => h
  | j + 1, xs, hj, h => by
    unfold Sr.ins
    split
    · exact Sr.ins_mem lt j _ (by rw [Sr.swp_len]; omega) (Sr.swp_mem hj (by omega) h)
    · exact h
theorem Sr.srt_mem {P : Int → Prop} (lt : Int → Int → Bool) {xs : List Int} (h : ∀ x ∈ xs, P x) : ∀ k, k < xs.length → ∀ x ∈ Sr.srt lt xs k, P x
  | 0, _ => h
  | k + 1, hk => by
    unfold Sr.srt
    exact Sr.ins_mem lt (k + 1) _ (by rw [Sr.srt_len]; exact hk) (Sr.srt_mem lt h k (by omega))
theorem Sr.getD_get {xs : List Int} {k : Nat} (hk : k < xs.length) : xs.getD k 0 = xs[k] := by
  rw [List.getD_eq_getElem?_getD, List.getElem?_eq_getElem hk]; rfl
theorem Sr.getD_set {xs : List Int} {i k : Nat} {x : Int} (hi : i < xs.length) : (xs.set i x).getD k 0 = if k = i then x else xs.getD k 0 := by
  rw [List.getD_eq_getElem?_getD, List.getElem?_set]
  by_cases q : i = k
  · subst q; simp [hi]
  · rw [if_neg q, if_neg (fun e => q e.symm), List.getD_eq_getElem?_getD]
theorem Sr.swp_at {xs : List Int} {i j : Nat} (hi : i < xs.length) (hj : j < xs.length) (k : Nat) : (Sr.swp xs i j).getD k 0 = if k = j then xs.getD i 0 else if k = i then xs.getD j 0 else xs.getD k 0 := by
  unfold Sr.swp
  rw [Sr.getD_set (by rw [List.length_set]; exact hj), Sr.getD_set hi]
theorem Sr.swp_perm {xs : List Int} {i j : Nat} (hi : i < xs.length) (hj : j < xs.length) : (Sr.swp xs i j).Perm xs := by
  unfold Sr.swp
  rw [Sr.getD_get hi, Sr.getD_get hj]
  exact List.set_set_perm hi hj
theorem Sr.ins_perm (lt : Int → Int → Bool) : ∀ (j : Nat) (xs : List Int), j < xs.length → (Sr.ins lt j xs).Perm xs
  | 0, xs, _ => List.Perm.refl _
  | j + 1, xs, hj => by
    unfold Sr.ins
    split
    · exact (Sr.ins_perm lt j _ (by rw [Sr.swp_len]; omega)).trans (Sr.swp_perm hj (by omega))
    · exact List.Perm.refl _
theorem Sr.srt_perm (lt : Int → Int → Bool) (xs : List Int) : ∀ k, k < xs.length → (Sr.srt lt xs k).Perm xs
  | 0, _ => List.Perm.refl _
  | k + 1, hk => by
    unfold Sr.srt
    exact (Sr.ins_perm lt (k + 1) _ (by rw [Sr.srt_len]; exact hk)).trans (Sr.srt_perm lt xs k (by omega))
theorem Sr.ins_far (lt : Int → Int → Bool) : ∀ (j : Nat) (xs : List Int) (k : Nat), j < xs.length → j < k → (Sr.ins lt j xs).getD k 0 = xs.getD k 0
  | 0, xs, k, _, _ => rfl
  | j + 1, xs, k, hj, hk => by
    unfold Sr.ins
    split
    · rw [Sr.ins_far lt j _ k (by rw [Sr.swp_len]; omega) (by omega), Sr.swp_at hj (by omega), if_neg (by omega), if_neg (by omega)]
    · rfl
theorem Sr.srt_far (lt : Int → Int → Bool) (xs : List Int) : ∀ k j, k < xs.length → k < j → (Sr.srt lt xs k).getD j 0 = xs.getD j 0
  | 0, _, _, _ => rfl
  | k + 1, j, hk, hj => by
    unfold Sr.srt
    rw [Sr.ins_far lt (k + 1) _ j (by rw [Sr.srt_len]; exact hk) hj, Sr.srt_far lt xs k j (by omega) (by omega)]
def cmpI (a b : Int) : Int := if a < b then -1 else if b < a then 1 else 0
/-- What is compared: the numbers at two places, from the greatest on. -/
def Sr.cmp (rs : List Int) (i k : Int) : Int := cmpI (rs.getD k.toNat 0) (rs.getD i.toNat 0)
def Sr.lt (rs : List Int) (i k : Int) : Bool := decide (rs.getD k.toNat 0 < rs.getD i.toNat 0)
theorem Sr.lt_of {rs : List Int} {i k : Nat} : (Sr.cmp rs i k < 0) = (Sr.lt rs i k = true) := by
  unfold Sr.cmp Sr.lt cmpI
  simp only [Int.toNat_natCast, decide_eq_true_eq, eq_iff_iff]
  constructor
  · intro h
    by_cases c : rs.getD k 0 < rs.getD i 0
    · exact c
    · rw [if_neg c] at h
      split at h <;> omega
  · intro h
    rw [if_pos h]; omega
def Sr.upto (n : Nat) : List Int := (List.range n).map fun i : Nat => (i : Int)
theorem Sr.upto_len (n : Nat) : (Sr.upto n).length = n := by unfold Sr.upto; simp
theorem Sr.upto_at {n i : Nat} (h : i < n) : (Sr.upto n).getD i 0 = i := by
  unfold Sr.upto
  rw [List.getD_eq_getElem?_getD, List.getElem?_map]; simp [h]
theorem Sr.upto_mem {n : Nat} {x : Int} (hx : x ∈ Sr.upto n) : 0 ≤ x ∧ x < n := by
  unfold Sr.upto at hx
  rw [List.mem_map] at hx
  obtain ⟨i, hi, rfl⟩ := hx
  have := List.mem_range.1 hi
  omega
/-- The places, the greatest number's first. -/
def Sr.ord (rs : List Int) : List Int := Sr.srt (Sr.lt rs) (Sr.upto rs.length) (rs.length - 1)
/-- One place comes ahead of another one. -/
def Sr.bef (rs : List Int) (i k : Int) : Prop := rs.getD k.toNat 0 < rs.getD i.toNat 0 ∨ (rs.getD k.toNat 0 = rs.getD i.toNat 0 ∧ i < k)
theorem Sr.bef_trans {rs : List Int} {i j k : Int} (h : Sr.bef rs i j) (h2 : Sr.bef rs j k) : Sr.bef rs i k := by
  unfold Sr.bef at *; omega
theorem Sr.bef_ne {rs : List Int} {i : Int} (h : Sr.bef rs i i) : False := by unfold Sr.bef at h; omega
theorem Sr.ins_ord (rs : List Int) (m : Nat) : ∀ (j : Nat) (ys : List Int), j ≤ m → m < ys.length → (∀ a b, a < b → b ≤ m → a ≠ j → b ≠ j → Sr.bef rs (ys.getD a 0) (ys.getD b 0)) → (∀ b, j < b → b ≤ m → Sr.bef rs (ys.getD j 0) (ys.getD b 0)) → (∀ a, a < j → ys.getD a 0 < ys.getD j 0) →
    ∀ a b, a < b → b ≤ m → Sr.bef rs ((Sr.ins (Sr.lt rs) j ys).getD a 0) ((Sr.ins (Sr.lt rs) j ys).getD b 0)
  | 0, ys, _, _, h1, h2, _ => fun a b hab hb => by
    by_cases ha : a = 0
    · subst ha; exact h2 b hab hb
    · exact h1 a b hab hb ha (by omega)
  | j + 1, ys, hj, hm, h1, h2, h3 => by
    unfold Sr.ins
    have hat := fun k => Sr.swp_at (xs := ys) (i := j + 1) (j := j) (by omega) (by omega) k
    split
    · rename_i hlt
      have hlt' : ys.getD (j + 1) 0 |> fun x => rs.getD (ys.getD j 0).toNat 0 < rs.getD x.toNat 0 := by
        unfold Sr.lt at hlt; exact of_decide_eq_true hlt
      refine Sr.ins_ord rs m j _ (by omega) (by rw [Sr.swp_len]; exact hm) ?_ ?_ ?_
      · intro a b hab hb ha hbj
        rw [hat a, hat b, if_neg ha, if_neg hbj]
        by_cases c : a = j + 1
        · rw [if_pos c, if_neg (by omega)]
          exact h1 j b (by omega) hb (by omega) (by omega)
        · rw [if_neg c]
          by_cases d : b = j + 1
          · rw [if_pos d]; exact h1 a j (by omega) (by omega) c (by omega)
          · rw [if_neg d]; exact h1 a b hab hb c d
      · intro b hb hbm
        rw [hat j, hat b, if_pos rfl, if_neg (by omega)]
        by_cases d : b = j + 1
        · rw [if_pos d]; exact Or.inl hlt'
        · rw [if_neg d]; exact h2 b (by omega) hbm
      · intro a ha
        rw [hat a, hat j, if_neg (by omega), if_neg (by omega), if_pos rfl]
        exact h3 a (by omega)
    · rename_i hlt
      have hlt' : ¬ (rs.getD (ys.getD j 0).toNat 0 < rs.getD (ys.getD (j + 1) 0).toNat 0) := by
        intro c; apply hlt; unfold Sr.lt; exact decide_eq_true c
      have hb1 : Sr.bef rs (ys.getD j 0) (ys.getD (j + 1) 0) := by
        have := h3 j (by omega)
        unfold Sr.bef; omega
      intro a b hab hb
      by_cases c : a = j + 1
      · subst c; exact h2 b hab hb
      · by_cases d : b = j + 1
        · subst d
          by_cases e : a = j
          · subst e; exact hb1
          · exact Sr.bef_trans (h1 a j (by omega) (by omega) c (by omega)) hb1
        · exact h1 a b hab hb c d
theorem Sr.srt_ord (rs : List Int) (n : Nat) : ∀ k, k < n → (∀ a b, a < b → b ≤ k → Sr.bef rs ((Sr.srt (Sr.lt rs) (Sr.upto n) k).getD a 0) ((Sr.srt (Sr.lt rs) (Sr.upto n) k).getD b 0)) ∧ ∀ a, a ≤ k → (Sr.srt (Sr.lt rs) (Sr.upto n) k).getD a 0 ≤ k
  | 0, hn => ⟨fun a b h1 h2 => by omega, fun a ha => by
    obtain rfl : a = 0 := by omega
    show (Sr.upto n).getD 0 0 ≤ _
    rw [Sr.upto_at hn]; simp⟩
  | k + 1, hk => by
    obtain ⟨ih, ih2⟩ := Sr.srt_ord rs n k (by omega)
    have hfar := fun j hj => Sr.srt_far (Sr.lt rs) (Sr.upto n) k j (by rw [Sr.upto_len]; omega) hj
    have hlen := Sr.srt_len (Sr.lt rs) (Sr.upto n) k
    rw [Sr.upto_len] at hlen
    have hk1 : (Sr.srt (Sr.lt rs) (Sr.upto n) k).getD (k + 1) 0 = ((k + 1 : Nat) : Int) := by rw [hfar _ (by omega), Sr.upto_at hk]
    refine ⟨?_, ?_⟩
    · unfold Sr.srt
      refine Sr.ins_ord rs (k + 1) (k + 1) _ (Nat.le_refl _) (by omega) (fun a b hab hb ha hb' => ih a b hab (by omega)) (fun b h1 h2 => by omega) (fun a ha => ?_)
      have := ih2 a (by omega)
      rw [hk1]; omega
    · intro a ha
      -- the first k + 2 places of the sorted row are those of the first k + 2
      have key : ∀ (j : Nat) (ys : List Int), j < ys.length → ∀ B : Int, (∀ b, b ≤ j → ys.getD b 0 ≤ B) → ∀ b, b ≤ j → (Sr.ins (Sr.lt rs) j ys).getD b 0 ≤ B := by
        intro j
        induction j with
        | zero => intro ys _ B h b hb; exact h b hb
        | succ j ihj =>
          intro ys hj B h b hb
          unfold Sr.ins
          split
          · have hat := fun k => Sr.swp_at (xs := ys) (i := j + 1) (j := j) hj (by omega) k
            by_cases c : b = j + 1
            · subst c
              rw [Sr.ins_far _ j _ (j + 1) (by rw [Sr.swp_len]; omega) (by omega), hat, if_neg (by omega), if_pos rfl]
              exact h j (by omega)
            · refine ihj _ (by rw [Sr.swp_len]; omega) B (fun b' hb' => ?_) b (by omega)
              rw [hat b']
              split
              · exact h _ (Nat.le_refl _)
              · split
                · exact h j (by omega)
                · exact h b' (by omega)
          · exact h b hb
      unfold Sr.srt
      refine key (k + 1) _ (by omega) _ (fun b hb => ?_) a ha
      by_cases c : b = k + 1
      · subst c; rw [hk1]; exact Int.le_refl _
      · have := ih2 b (by omega); omega
theorem Sr.ord_len (rs : List Int) : (Sr.ord rs).length = rs.length := by unfold Sr.ord; rw [Sr.srt_len, Sr.upto_len]
theorem Sr.ord_bef {rs : List Int} {a b : Nat} (hab : a < b) (hb : b < rs.length) : Sr.bef rs ((Sr.ord rs).getD a 0) ((Sr.ord rs).getD b 0) :=
  (Sr.srt_ord rs rs.length (rs.length - 1) (by omega)).1 a b hab (by omega)
theorem Sr.ord_perm {rs : List Int} (h : 0 < rs.length) : (Sr.ord rs).Perm (Sr.upto rs.length) := Sr.srt_perm _ _ _ (by rw [Sr.upto_len]; omega)
theorem Sr.ord_in {rs : List Int} {k : Nat} (hk : k < rs.length) : 0 ≤ (Sr.ord rs).getD k 0 ∧ (Sr.ord rs).getD k 0 < rs.length := by
  have hm : (Sr.ord rs).getD k 0 ∈ Sr.ord rs := by rw [Sr.getD_get (by rw [Sr.ord_len]; exact hk)]; exact List.getElem_mem _
  exact Sr.upto_mem ((Sr.ord_perm (by omega)).mem_iff.1 hm)
/-- Every place is somewhere in the order. -/
theorem Sr.ord_all {rs : List Int} {i : Nat} (hi : i < rs.length) : ∃ k, k < rs.length ∧ (Sr.ord rs).getD k 0 = (i : Int) := by
  have hm : (i : Int) ∈ Sr.upto rs.length := by
    unfold Sr.upto; rw [List.mem_map]; exact ⟨i, List.mem_range.2 hi, rfl⟩
  have := (Sr.ord_perm (rs := rs) (by omega)).mem_iff.2 hm
  obtain ⟨k, hk, e⟩ := List.mem_iff_getElem.1 this
  exact ⟨k, by rw [Sr.ord_len] at hk; exact hk, by rw [Sr.getD_get hk, e]⟩
theorem Sr.ord_inj {rs : List Int} {a b : Nat} (ha : a < rs.length) (hb : b < rs.length) (h : (Sr.ord rs).getD a 0 = (Sr.ord rs).getD b 0) : a = b := by
  rcases Nat.lt_trichotomy a b with c | c | c
  · have := Sr.ord_bef c hb; rw [h] at this; exact (Sr.bef_ne this).elim
  · exact c
  · have := Sr.ord_bef c ha; rw [h] at this; exact (Sr.bef_ne this).elim
/-- The place of the first greatest of the first m + 1 numbers. -/
def Sr.amax (rs : List Int) : Nat → Nat
  | 0 => 0
  | m + 1 => if rs.getD (Sr.amax rs m) 0 < rs.getD (m + 1) 0 then m + 1 else Sr.amax rs m
theorem Sr.amax_is (rs : List Int) : ∀ m, Sr.amax rs m ≤ m ∧ ∀ j, j ≤ m → rs.getD j 0 ≤ rs.getD (Sr.amax rs m) 0 ∧ (j < Sr.amax rs m → rs.getD j 0 < rs.getD (Sr.amax rs m) 0)
  | 0 => ⟨Nat.le_refl _, fun j hj => by obtain rfl : j = 0 := by omega
                                        exact ⟨Int.le_refl _, fun h => absurd h (Nat.not_lt_zero _)⟩⟩
  | m + 1 => by
    obtain ⟨h0, h1⟩ := Sr.amax_is rs m
    unfold Sr.amax
    split
    · rename_i c
      refine ⟨Nat.le_refl _, fun j hj => ?_⟩
      by_cases d : j = m + 1
      · subst d; exact ⟨Int.le_refl _, fun h => absurd h (Nat.lt_irrefl _)⟩
      · have := (h1 j (by omega)).1
        exact ⟨by omega, fun _ => by omega⟩
    · rename_i c
      refine ⟨by omega, fun j hj => ?_⟩
      by_cases d : j = m + 1
      · subst d; exact ⟨by omega, fun h => by omega⟩
      · exact h1 j (by omega)
theorem Sr.amax_one {rs : List Int} {m i : Nat} (hi : i ≤ m) (h : ∀ j, j ≤ m → rs.getD j 0 ≤ rs.getD i 0 ∧ (j < i → rs.getD j 0 < rs.getD i 0)) : Sr.amax rs m = i := by
  obtain ⟨h0, h1⟩ := Sr.amax_is rs m
  rcases Nat.lt_trichotomy (Sr.amax rs m) i with c | c | c
  · have a := (h _ h0).2 c
    have b := (h1 i hi).1
    omega
  · exact c
  · have a := (h1 i hi).2 c
    have b := (h _ h0).1
    omega
/-- The rests with those that have been served taken out. -/
def Sr.rst (rs os : List Int) : Nat → List Int
  | 0 => rs
  | k + 1 => (Sr.rst rs os k).set (os.getD k 0).toNat (-1)
theorem Sr.rst_len (rs os : List Int) : ∀ k, (Sr.rst rs os k).length = rs.length
  | 0 => rfl
  | k + 1 => by unfold Sr.rst; rw [List.length_set, Sr.rst_len rs os k]
theorem Sr.rst_no {rs : List Int} {i : Nat} : ∀ k, k ≤ rs.length → (∀ j, j < k → (Sr.ord rs).getD j 0 ≠ (i : Int)) → (Sr.rst rs (Sr.ord rs) k).getD i 0 = rs.getD i 0
  | 0, _, _ => rfl
  | k + 1, hk, h => by
    have hin := Sr.ord_in (rs := rs) (k := k) (by omega)
    have hne := h k (by omega)
    unfold Sr.rst
    rw [Sr.getD_set (by rw [Sr.rst_len]; omega), if_neg (by omega)]
    exact Sr.rst_no k (by omega) (fun j hj => h j (by omega))
theorem Sr.rst_yes {rs : List Int} {i : Nat} : ∀ k, k ≤ rs.length → (∃ j, j < k ∧ (Sr.ord rs).getD j 0 = (i : Int)) → (Sr.rst rs (Sr.ord rs) k).getD i 0 = -1
  | 0, _, ⟨j, hj, _⟩ => absurd hj (Nat.not_lt_zero _)
  | k + 1, hk, ⟨j, hj, e⟩ => by
    have hin := Sr.ord_in (rs := rs) (k := k) (by omega)
    unfold Sr.rst
    rw [Sr.getD_set (by rw [Sr.rst_len]; omega)]
    split
    · rfl
    · rename_i c
      refine Sr.rst_yes k (by omega) ⟨j, ?_, e⟩
      rcases Nat.lt_or_ge j k with d | d
      · exact d
      · obtain rfl : j = k := by omega
        exact absurd (by omega) c
/-- Round by round, the first greatest rest is the next place of the order. -/
theorem Sr.amax_ord {rs : List Int} (h0 : ∀ i, i < rs.length → 0 ≤ rs.getD i 0) {k : Nat} (hk : k < rs.length) : Sr.amax (Sr.rst rs (Sr.ord rs) k) (rs.length - 1) = ((Sr.ord rs).getD k 0).toNat := by
  have hin := Sr.ord_in (rs := rs) hk
  have hkn : ∀ j, j < k → (Sr.ord rs).getD j 0 ≠ (((Sr.ord rs).getD k 0).toNat : Int) := fun j hj e => by
    have := Sr.ord_inj (rs := rs) (a := j) (b := k) (by omega) hk (by omega)
    omega
  refine Sr.amax_one (by omega) (fun i hi => ?_)
  rw [Sr.rst_no k (by omega) hkn]
  obtain ⟨a, ha, e⟩ := Sr.ord_all (rs := rs) (i := i) (by omega)
  have h00 := h0 ((Sr.ord rs).getD k 0).toNat (by omega)
  rcases Nat.lt_trichotomy a k with c | c | c
  · rw [Sr.rst_yes k (by omega) ⟨a, c, e⟩]
    omega
  · subst c
    rw [show ((Sr.ord rs).getD a 0).toNat = i by omega, Sr.rst_no a (by omega) (fun j hj e2 => by have := Sr.ord_inj (rs := rs) (a := j) (b := a) (by omega) ha (by omega); omega)]
    omega
  · rw [Sr.rst_no k (by omega) (fun j hj e2 => by have := Sr.ord_inj (rs := rs) (a := j) (b := a) (by omega) ha (by omega); omega)]
    have hb := Sr.ord_bef c ha
    rw [e] at hb
    unfold Sr.bef at hb
    rw [Int.toNat_natCast] at hb
    omega
end Go.Proofs.Ytgkldgljebhcgaa
