/- Shares of an amount in proportion to weights: plain mathematics. -/
import Derived.Test.YtgkldgljebhcgaaSrP
namespace Go.Proofs.Ytgkldgljebhcgaa
theorem Pr.perm_sum {xs ys : List Int} (h : xs.Perm ys) : xs.sum = ys.sum := by
  induction h with
  | nil => rfl
  | cons x _ ih => simp only [List.sum_cons, ih]
  | swap x y l => simp only [List.sum_cons]; omega
  | trans _ _ ih1 ih2 => exact ih1.trans ih2
theorem Pr.sum_set : ∀ (xs : List Int) (i : Nat) (x : Int), i < xs.length → (xs.set i x).sum = xs.sum - xs.getD i 0 + x
  | [], i, x, h => by simp at h
  | y :: ys, 0, x, _ => by simp; omega
  | y :: ys, i + 1, x, h => by
    have ih := Pr.sum_set ys i x (by simpa using h)
    simp only [List.set_cons_succ, List.sum_cons, ih, List.getD_cons_succ]
    omega
theorem Pr.sum_le {M : Int} : ∀ (xs : List Int), (∀ x ∈ xs, x ≤ M) → xs.sum ≤ xs.length * M
  | [], _ => by simp
  | y :: ys, h => by
    have ih := Pr.sum_le ys (fun x hx => h x (List.mem_cons_of_mem _ hx))
    have := h y (List.mem_cons_self ..)
    simp only [List.sum_cons, List.length_cons, Int.natCast_add, Int.natCast_one, Int.add_mul, Int.one_mul]
    omega
theorem Pr.sum_nn : ∀ (xs : List Int), (∀ x ∈ xs, 0 ≤ x) → 0 ≤ xs.sum
  | [], _ => by simp
  | y :: ys, h => by
    have ih := Pr.sum_nn ys (fun x hx => h x (List.mem_cons_of_mem _ hx))
    have := h y (List.mem_cons_self ..)
    simp only [List.sum_cons]
    omega
theorem Pr.mem_le : ∀ (xs : List Int), (∀ x ∈ xs, 0 ≤ x) → ∀ x ∈ xs, x ≤ xs.sum
  | [], _, x, hx => by cases hx
  | y :: ys, h, x, hx => by
    have h2 : ∀ x ∈ ys, 0 ≤ x := fun x hx => h x (List.mem_cons_of_mem _ hx)
    have hn := Pr.sum_nn ys h2
    have hy := h y (List.mem_cons_self ..)
    simp only [List.sum_cons]
    rcases List.mem_cons.1 hx with rfl | hx
    · omega
    · have := Pr.mem_le ys h2 x hx; omega
theorem Pr.sum_cut {M : Int} (hM : 0 ≤ M) : ∀ (xs : List Int) (a : Nat), (∀ x ∈ xs, x ≤ M) → (∀ k, a ≤ k → k < xs.length → xs.getD k 0 ≤ 0) → xs.sum ≤ a * M
  | [], a, _, _ => by simpa using Int.mul_nonneg (by omega) hM
  | y :: ys, a, h, h2 => by
    have hs : ∀ x ∈ ys, x ≤ M := fun x hx => h x (List.mem_cons_of_mem _ hx)
    have hy := h y (List.mem_cons_self ..)
    cases a with
    | zero =>
      have ih := Pr.sum_cut hM ys 0 hs (fun k hk hl => by have := h2 (k + 1) (by omega) (by simpa using hl); simpa using this)
      have := h2 0 (Nat.le_refl _) (by simp)
      simp only [List.getD_cons_zero] at this
      simp only [List.sum_cons]
      omega
    | succ a =>
      have ih := Pr.sum_cut hM ys a hs (fun k hk hl => by have := h2 (k + 1) (by omega) (by simpa using hl); simpa using this)
      simp only [List.sum_cons, Int.natCast_add, Int.natCast_one, Int.add_mul, Int.one_mul]
      omega
/-- One more for each of the first places of an order. -/
def Pr.shs (sh os : List Int) : Nat → List Int
  | 0 => sh
  | k + 1 => (Pr.shs sh os k).set (os.getD k 0).toNat ((Pr.shs sh os k).getD (os.getD k 0).toNat 0 + 1)
theorem Pr.shs_len (sh os : List Int) : ∀ k, (Pr.shs sh os k).length = sh.length
  | 0 => rfl
  | k + 1 => by unfold Pr.shs; rw [List.length_set, Pr.shs_len sh os k]
def Pr.fl (A : Int) (ws : List Int) : List Int := ws.map fun w => A * w / ws.sum
def Pr.rs (A : Int) (ws : List Int) : List Int := ws.map fun w => A * w % ws.sum
def Pr.left (A : Int) (ws : List Int) : Int := A - (Pr.fl A ws).sum
def Pr.sh (A : Int) (ws : List Int) (k : Nat) : List Int := Pr.shs (Pr.fl A ws) (Sr.ord (Pr.rs A ws)) k
def Pr.out (A : Int) (ws : List Int) : List Int := Pr.sh A ws (Pr.left A ws).toNat
theorem Pr.fl_len (A : Int) (ws : List Int) : (Pr.fl A ws).length = ws.length := by unfold Pr.fl; simp
theorem Pr.rs_len (A : Int) (ws : List Int) : (Pr.rs A ws).length = ws.length := by unfold Pr.rs; simp
theorem Pr.out_len (A : Int) (ws : List Int) : (Pr.out A ws).length = ws.length := by unfold Pr.out Pr.sh; rw [Pr.shs_len, Pr.fl_len]
theorem Pr.map_at {f : Int → Int} {ws : List Int} {i : Nat} (hi : i < ws.length) : (ws.map f).getD i 0 = f (ws.getD i 0) := by
  rw [Sr.getD_get (by simpa using hi), Sr.getD_get hi, List.getElem_map]
theorem Pr.fl_at {A : Int} {ws : List Int} {i : Nat} (hi : i < ws.length) : (Pr.fl A ws).getD i 0 = A * ws.getD i 0 / ws.sum := Pr.map_at hi
theorem Pr.rs_at {A : Int} {ws : List Int} {i : Nat} (hi : i < ws.length) : (Pr.rs A ws).getD i 0 = A * ws.getD i 0 % ws.sum := Pr.map_at hi
/-- What is divided: an amount, weights of which one at least is more than 0. -/
structure Pr.Ok (A : Int) (ws : List Int) : Prop where
  a0 : 0 ≤ A
  w0 : ∀ w ∈ ws, 0 ≤ w
  t0 : 0 < ws.sum
theorem Pr.Ok.at {A : Int} {ws : List Int} (h : Pr.Ok A ws) {i : Nat} (hi : i < ws.length) : 0 ≤ ws.getD i 0 ∧ ws.getD i 0 ≤ ws.sum := by
  have hm : ws.getD i 0 ∈ ws := by rw [Sr.getD_get hi]; exact List.getElem_mem _
  exact ⟨h.w0 _ hm, Pr.mem_le ws h.w0 _ hm⟩
theorem Pr.rs_in {A : Int} {ws : List Int} (h : Pr.Ok A ws) {i : Nat} (hi : i < ws.length) : 0 ≤ (Pr.rs A ws).getD i 0 ∧ (Pr.rs A ws).getD i 0 < ws.sum := by
  rw [Pr.rs_at hi]
  exact ⟨Int.emod_nonneg _ (by have := h.t0; omega), Int.emod_lt_of_pos _ h.t0⟩
theorem Pr.split_at {A : Int} {ws : List Int} {i : Nat} (hi : i < ws.length) : ws.sum * (Pr.fl A ws).getD i 0 + (Pr.rs A ws).getD i 0 = A * ws.getD i 0 := by
  rw [Pr.fl_at hi, Pr.rs_at hi]
  exact Int.mul_ediv_add_emod _ _
theorem Pr.sums (A T : Int) : ∀ ws : List Int, T * (ws.map fun w => A * w / T).sum + (ws.map fun w => A * w % T).sum = A * ws.sum
  | [] => by simp
  | w :: ws => by
    have ih := Pr.sums A T ws
    have := Int.mul_ediv_add_emod (A * w) T
    simp only [List.map_cons, List.sum_cons, Int.mul_add]
    omega
theorem Pr.rests {A : Int} {ws : List Int} : (Pr.rs A ws).sum = ws.sum * Pr.left A ws := by
  have := Pr.sums A ws.sum ws
  unfold Pr.left
  rw [Int.mul_sub, Int.mul_comm ws.sum A]
  unfold Pr.rs Pr.fl at *
  omega
theorem Pr.rs_mem {A : Int} {ws : List Int} (h : Pr.Ok A ws) : ∀ r ∈ Pr.rs A ws, 0 ≤ r ∧ r ≤ ws.sum - 1 := by
  intro r hr
  obtain ⟨i, hi, rfl⟩ := List.mem_iff_getElem.1 hr
  rw [← Sr.getD_get hi]
  have := Pr.rs_in h (i := i) (by rw [Pr.rs_len] at hi; exact hi)
  omega
theorem Pr.left_nn {A : Int} {ws : List Int} (h : Pr.Ok A ws) : 0 ≤ Pr.left A ws := by
  have hn := Pr.sum_nn _ (fun r hr => (Pr.rs_mem h r hr).1)
  rw [Pr.rests] at hn
  have t := h.t0
  rcases Int.lt_or_le (Pr.left A ws) 0 with c | c
  · have := Int.mul_neg_of_pos_of_neg t c; omega
  · exact c
theorem Pr.pos_len {A : Int} {ws : List Int} (h : Pr.Ok A ws) : 0 < ws.length := by
  cases ws with
  | nil => have := h.t0; simp at this
  | cons => simp
theorem Pr.left_lt {A : Int} {ws : List Int} (h : Pr.Ok A ws) : Pr.left A ws < ws.length := by
  have hn := Pr.sum_le (M := ws.sum - 1) _ (fun r hr => (Pr.rs_mem h r hr).2)
  rw [Pr.rests, Pr.rs_len] at hn
  have t := h.t0
  have l0 := Pr.pos_len h
  rcases Int.lt_or_le (Pr.left A ws) ws.length with c | c
  · exact c
  · have h1 := Int.mul_le_mul_of_nonneg_left c (Int.le_of_lt t)
    rw [Int.mul_sub, Int.mul_one, Int.mul_comm _ ws.sum] at hn
    omega
/-- Whether a place is one of the first ones. -/
def Pr.In (os : List Int) (L i : Nat) : Prop := ∃ j, j < L ∧ os.getD j 0 = (i : Int)
theorem Pr.shs_at {rs sh : List Int} (hl : sh.length = rs.length) {i : Nat} : ∀ k, k ≤ rs.length →
    ((Pr.In (Sr.ord rs) k i → (Pr.shs sh (Sr.ord rs) k).getD i 0 = sh.getD i 0 + 1) ∧ (¬ Pr.In (Sr.ord rs) k i → (Pr.shs sh (Sr.ord rs) k).getD i 0 = sh.getD i 0))
  | 0, _ => ⟨fun ⟨j, hj, _⟩ => absurd hj (Nat.not_lt_zero _), fun _ => rfl⟩
  | k + 1, hk => by
    obtain ⟨ih1, ih2⟩ := Pr.shs_at (i := i) hl k (by omega)
    have hin := Sr.ord_in (rs := rs) (k := k) (by omega)
    have hat : (Pr.shs sh (Sr.ord rs) (k + 1)).getD i 0 = if i = ((Sr.ord rs).getD k 0).toNat then (Pr.shs sh (Sr.ord rs) k).getD ((Sr.ord rs).getD k 0).toNat 0 + 1 else (Pr.shs sh (Sr.ord rs) k).getD i 0 := by
      show ((Pr.shs sh (Sr.ord rs) k).set _ _).getD i 0 = _
      rw [Sr.getD_set (by rw [Pr.shs_len]; omega)]
    rw [hat]
    by_cases c : i = ((Sr.ord rs).getD k 0).toNat
    · rw [if_pos c, ← c]
      have hno : ¬ Pr.In (Sr.ord rs) k i := fun ⟨j, hj, e⟩ => by
        have := Sr.ord_inj (rs := rs) (a := j) (b := k) (by omega) (by omega) (by omega)
        omega
      rw [ih2 hno]
      exact ⟨fun _ => rfl, fun h => absurd ⟨k, by omega, by omega⟩ h⟩
    · rw [if_neg c]
      refine ⟨fun ⟨j, hj, e⟩ => ih1 ⟨j, ?_, e⟩, fun h => ih2 (fun ⟨j, hj, e⟩ => h ⟨j, by omega, e⟩)⟩
      rcases Nat.lt_or_ge j k with d | d
      · exact d
      · obtain rfl : j = k := by omega
        exact absurd (by omega) c
theorem Pr.shs_sum {rs sh : List Int} (hl : sh.length = rs.length) : ∀ k, k ≤ rs.length → (Pr.shs sh (Sr.ord rs) k).sum = sh.sum + k
  | 0, _ => by simp [Pr.shs]
  | k + 1, hk => by
    have ih := Pr.shs_sum hl k (by omega)
    have hin := Sr.ord_in (rs := rs) (k := k) (by omega)
    unfold Pr.shs
    rw [Pr.sum_set _ _ _ (by rw [Pr.shs_len]; omega), ih]
    omega
/-- The places that get one more. -/
def Pr.Ch (A : Int) (ws : List Int) (i : Nat) : Prop := Pr.In (Sr.ord (Pr.rs A ws)) (Pr.left A ws).toNat i
theorem Pr.out_yes {A : Int} {ws : List Int} (h : Pr.Ok A ws) {i : Nat} (hc : Pr.Ch A ws i) : (Pr.out A ws).getD i 0 = (Pr.fl A ws).getD i 0 + 1 :=
  (Pr.shs_at (rs := Pr.rs A ws) (sh := Pr.fl A ws) (by rw [Pr.fl_len, Pr.rs_len]) _ (by rw [Pr.rs_len]; have := Pr.left_lt h; have := Pr.left_nn h; omega)).1 hc
theorem Pr.out_no {A : Int} {ws : List Int} (h : Pr.Ok A ws) {i : Nat} (hc : ¬ Pr.Ch A ws i) : (Pr.out A ws).getD i 0 = (Pr.fl A ws).getD i 0 :=
  (Pr.shs_at (rs := Pr.rs A ws) (sh := Pr.fl A ws) (by rw [Pr.fl_len, Pr.rs_len]) _ (by rw [Pr.rs_len]; have := Pr.left_lt h; have := Pr.left_nn h; omega)).2 hc
/-- All of the amount is divided. -/
theorem Pr.out_sum {A : Int} {ws : List Int} (h : Pr.Ok A ws) : (Pr.out A ws).sum = A := by
  have l := Pr.left_lt h
  have l0 := Pr.left_nn h
  have := Pr.shs_sum (rs := Pr.rs A ws) (sh := Pr.fl A ws) (by rw [Pr.fl_len, Pr.rs_len]) (Pr.left A ws).toNat (by rw [Pr.rs_len]; omega)
  unfold Pr.out Pr.sh
  rw [this, Int.toNat_of_nonneg l0]
  unfold Pr.left
  omega
/-- Only those with a rest get one more. -/
theorem Pr.ch_rest {A : Int} {ws : List Int} (h : Pr.Ok A ws) {i : Nat} (hc : Pr.Ch A ws i) : 0 < (Pr.rs A ws).getD i 0 := by
  obtain ⟨a, ha, e⟩ := hc
  have l := Pr.left_lt h
  have l0 := Pr.left_nn h
  have hrl := Pr.rs_len A ws
  have t := h.t0
  rcases Int.lt_or_le 0 ((Pr.rs A ws).getD i 0) with c | c
  · exact c
  · exfalso
    have hps : ((Sr.ord (Pr.rs A ws)).map fun x => (Pr.rs A ws).getD x.toNat 0).sum = (Pr.rs A ws).sum := by
      rw [Pr.perm_sum ((Sr.ord_perm (rs := Pr.rs A ws) (by omega)).map _)]
      congr 1
      refine List.ext_getElem (by rw [List.length_map, Sr.upto_len]) fun k h1 h2 => ?_
      rw [List.getElem_map, ← Sr.getD_get (k := k) (by rw [Sr.upto_len]; exact h2), Sr.upto_at h2, Int.toNat_natCast, Sr.getD_get h2]
    have hcut := Pr.sum_cut (M := ws.sum - 1) (by omega) ((Sr.ord (Pr.rs A ws)).map fun x => (Pr.rs A ws).getD x.toNat 0) a (fun x hx => by
      obtain ⟨y, hy, rfl⟩ := List.mem_map.1 hx
      have hy2 := Sr.upto_mem ((Sr.ord_perm (rs := Pr.rs A ws) (by omega)).mem_iff.1 hy)
      have := Pr.rs_in h (i := y.toNat) (by omega)
      omega) (fun k hk hl => by
      rw [List.length_map, Sr.ord_len] at hl
      rw [Pr.map_at (f := fun x => (Pr.rs A ws).getD x.toNat 0) (by rw [Sr.ord_len]; exact hl)]
      rcases Nat.lt_or_ge a k with d | d
      · have hb := Sr.ord_bef (rs := Pr.rs A ws) d hl
        unfold Sr.bef at hb
        rw [e, Int.toNat_natCast] at hb
        omega
      · obtain rfl : k = a := by omega
        show (Pr.rs A ws).getD ((Sr.ord (Pr.rs A ws)).getD k 0).toNat 0 ≤ 0
        rw [e, Int.toNat_natCast]; exact c)
    rw [hps, Pr.rests] at hcut
    have h1 : ((a : Int) + 1) * ws.sum ≤ Pr.left A ws * ws.sum := Int.mul_le_mul_of_nonneg_right (by omega) (by omega)
    rw [Int.add_mul, Int.one_mul, Int.mul_comm (Pr.left A ws)] at h1
    rw [Int.mul_sub, Int.mul_one] at hcut
    omega
/-- Who comes ahead of one that gets one more gets one more. -/
theorem Pr.ch_up {A : Int} {ws : List Int} (h : Pr.Ok A ws) {i j : Nat} (hi : i < ws.length) (hb : Sr.bef (Pr.rs A ws) i j) (hc : Pr.Ch A ws j) : Pr.Ch A ws i := by
  obtain ⟨a, ha, e⟩ := hc
  have l := Pr.left_lt h
  have l0 := Pr.left_nn h
  have hrl := Pr.rs_len A ws
  obtain ⟨b, hbl, e2⟩ := Sr.ord_all (rs := Pr.rs A ws) (i := i) (by omega)
  rcases Nat.lt_trichotomy a b with c | c | c
  · have := Sr.ord_bef c hbl
    rw [e, e2] at this
    exact (Sr.bef_ne (Sr.bef_trans hb this)).elim
  · subst c
    rw [e] at e2
    rw [e2] at hb
    exact (Sr.bef_ne hb).elim
  · exact ⟨b, by omega, e2⟩
/-- Each share differs from the exact one by less than 1. -/
theorem Pr.near {A : Int} {ws : List Int} (h : Pr.Ok A ws) {i : Nat} (hi : i < ws.length) : -ws.sum < (Pr.out A ws).getD i 0 * ws.sum - A * ws.getD i 0 ∧ (Pr.out A ws).getD i 0 * ws.sum - A * ws.getD i 0 < ws.sum := by
  have hs := Pr.split_at (A := A) hi
  obtain ⟨r0, r1⟩ := Pr.rs_in h hi
  rcases Classical.em (Pr.Ch A ws i) with c | c
  · have hr := Pr.ch_rest h c
    rw [Pr.out_yes h c, Int.add_mul, Int.one_mul, Int.mul_comm _ ws.sum]
    omega
  · rw [Pr.out_no h c, Int.mul_comm _ ws.sum]
    omega
theorem Pr.fl_nn {A : Int} {ws : List Int} (h : Pr.Ok A ws) {i : Nat} (hi : i < ws.length) : 0 ≤ (Pr.fl A ws).getD i 0 := by
  rw [Pr.fl_at hi]
  exact Int.ediv_nonneg (Int.mul_nonneg h.a0 (h.at hi).1) (Int.le_of_lt h.t0)
theorem Pr.out_nn {A : Int} {ws : List Int} (h : Pr.Ok A ws) {i : Nat} (hi : i < ws.length) : 0 ≤ (Pr.out A ws).getD i 0 := by
  have := Pr.fl_nn h hi
  rcases Classical.em (Pr.Ch A ws i) with c | c
  · rw [Pr.out_yes h c]; omega
  · rw [Pr.out_no h c]; exact this
theorem Pr.out_le {A : Int} {ws : List Int} (h : Pr.Ok A ws) {i : Nat} (hi : i < ws.length) : (Pr.out A ws).getD i 0 ≤ A := by
  have hm : (Pr.out A ws).getD i 0 ∈ Pr.out A ws := by rw [Sr.getD_get (by rw [Pr.out_len]; exact hi)]; exact List.getElem_mem _
  have := Pr.mem_le (Pr.out A ws) (fun x hx => by
    obtain ⟨k, hk, rfl⟩ := List.mem_iff_getElem.1 hx
    rw [← Sr.getD_get hk]
    exact Pr.out_nn h (by rw [Pr.out_len] at hk; exact hk)) _ hm
  rw [Pr.out_sum h] at this
  exact this
/-- No share is greater than the weight if the amount is not greater than all weights. -/
theorem Pr.out_w {A : Int} {ws : List Int} (h : Pr.Ok A ws) (hA : A ≤ ws.sum) {i : Nat} (hi : i < ws.length) : (Pr.out A ws).getD i 0 ≤ ws.getD i 0 := by
  have hn := (Pr.near h hi).2
  have hw := (h.at hi).1
  have t := h.t0
  have h1 : A * ws.getD i 0 ≤ ws.sum * ws.getD i 0 := Int.mul_le_mul_of_nonneg_right hA hw
  rcases Int.lt_or_le (ws.getD i 0) ((Pr.out A ws).getD i 0) with c | c
  · exfalso
    have h2 : (ws.getD i 0 + 1) * ws.sum ≤ (Pr.out A ws).getD i 0 * ws.sum := Int.mul_le_mul_of_nonneg_right (by omega) (by omega)
    rw [Int.add_mul, Int.one_mul, Int.mul_comm (ws.getD i 0)] at h2
    omega
  · exact c
theorem Pr.fl_le {A : Int} {ws : List Int} (h : Pr.Ok A ws) {i : Nat} (hi : i < ws.length) : (Pr.fl A ws).getD i 0 ≤ A := by
  have := Pr.out_le h hi
  rcases Classical.em (Pr.Ch A ws i) with c | c
  · rw [Pr.out_yes h c] at this; omega
  · rw [Pr.out_no h c] at this; exact this
/-- Greater weights get no less. -/
theorem Pr.order {A : Int} {ws : List Int} (h : Pr.Ok A ws) {i j : Nat} (hi : i < ws.length) (hj : j < ws.length) (hw : ws.getD j 0 < ws.getD i 0) : (Pr.out A ws).getD j 0 ≤ (Pr.out A ws).getD i 0 := by
  have hf : (Pr.fl A ws).getD j 0 ≤ (Pr.fl A ws).getD i 0 := by
    rw [Pr.fl_at hi, Pr.fl_at hj]
    exact Int.ediv_le_ediv h.t0 (Int.mul_le_mul_of_nonneg_left (by omega) h.a0)
  have si := Pr.split_at (A := A) hi
  have sj := Pr.split_at (A := A) hj
  rcases Classical.em (Pr.Ch A ws j) with c | c
  · rcases Classical.em (Pr.Ch A ws i) with d | d
    · rw [Pr.out_yes h c, Pr.out_yes h d]; omega
    · rw [Pr.out_yes h c, Pr.out_no h d]
      rcases Int.lt_or_le ((Pr.fl A ws).getD j 0) ((Pr.fl A ws).getD i 0) with q | q
      · omega
      · exfalso
        have e : (Pr.fl A ws).getD j 0 = (Pr.fl A ws).getD i 0 := by omega
        rw [e] at sj
        have hA : 0 < A := by
          rcases Int.lt_or_le 0 A with z | z
          · exact z
          · have hr := Pr.ch_rest h c
            obtain rfl : A = 0 := by have := h.a0; omega
            rw [Pr.rs_at hj] at hr
            simp at hr
        have h2 : A * (ws.getD j 0 + 1) ≤ A * ws.getD i 0 := Int.mul_le_mul_of_nonneg_left (by omega) h.a0
        rw [Int.mul_add, Int.mul_one] at h2
        exact d (Pr.ch_up h hi (Or.inl (by rw [Int.toNat_natCast, Int.toNat_natCast]; omega)) c)
  · rw [Pr.out_no h c]
    rcases Classical.em (Pr.Ch A ws i) with d | d
    · rw [Pr.out_yes h d]; omega
    · rw [Pr.out_no h d]; exact hf
/-- Equal weights: the first ones get one more at most. -/
theorem Pr.equal {A : Int} {ws : List Int} (h : Pr.Ok A ws) {i j : Nat} (hij : i < j) (hj : j < ws.length) (hw : ws.getD j 0 = ws.getD i 0) : (Pr.out A ws).getD j 0 ≤ (Pr.out A ws).getD i 0 ∧ (Pr.out A ws).getD i 0 ≤ (Pr.out A ws).getD j 0 + 1 := by
  have hi : i < ws.length := by omega
  have hf : (Pr.fl A ws).getD j 0 = (Pr.fl A ws).getD i 0 := by rw [Pr.fl_at hi, Pr.fl_at hj, hw]
  have hr : (Pr.rs A ws).getD j 0 = (Pr.rs A ws).getD i 0 := by rw [Pr.rs_at hi, Pr.rs_at hj, hw]
  rcases Classical.em (Pr.Ch A ws j) with c | c
  · have d : Pr.Ch A ws i := Pr.ch_up h hi (Or.inr ⟨by rw [Int.toNat_natCast, Int.toNat_natCast]; exact hr, by omega⟩) c
    rw [Pr.out_yes h c, Pr.out_yes h d]; omega
  · rw [Pr.out_no h c]
    rcases Classical.em (Pr.Ch A ws i) with d | d
    · rw [Pr.out_yes h d]; omega
    · rw [Pr.out_no h d]; omega
end Go.Proofs.Ytgkldgljebhcgaa
