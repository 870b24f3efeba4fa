/- Plain mathematics: business days. -/
namespace Go.Proofs.Ytdmamojidefdaaa
namespace Biz
/-- Valid holidays. -/
def Hol (xs : List Int) : Prop := xs.length ≤ 12 ∧ (∀ i, i + 1 < xs.length → xs.getD i 0 < xs.getD (i + 1) 0) ∧ (∀ i, i < xs.length → 0 ≤ xs.getD i 0 ∧ xs.getD i 0 ≤ 36524)
open Classical in
noncomputable def holB (xs : List Int) : Bool := decide (Hol xs)
theorem holB_iff {xs : List Int} : holB xs = true ↔ Hol xs := by unfold holB; simp
theorem holB_iff_f {xs : List Int} : holB xs = false ↔ ¬ Hol xs := by unfold holB; simp
/-- A business day. -/
def biz (xs : List Int) (n : Int) : Bool := decide (n % 7 < 5) && !decide (n ∈ xs)
theorem biz_t {xs : List Int} {n : Int} (a : n % 7 < 5) (b : decide (n ∈ xs) = false) : biz xs n = true := by unfold biz; rw [b]; simp [a]
theorem biz_f1 {xs : List Int} {n : Int} (a : ¬ n % 7 < 5) : biz xs n = false := by unfold biz; simp [a]
theorem biz_f2 {xs : List Int} {n : Int} (b : decide (n ∈ xs) = true) : biz xs n = false := by unfold biz; rw [b]; simp
/-- r is the first business day from n on, or -1. -/
def Up (xs : List Int) (n r : Int) : Prop := (r = -1 ∧ ∀ m, n ≤ m → m ≤ 36524 → biz xs m = false) ∨ (n ≤ r ∧ r ≤ 36524 ∧ biz xs r = true ∧ ∀ m, n ≤ m → m < r → biz xs m = false)
/-- r is the last business day up to n, or -1. -/
def Dn (xs : List Int) (n r : Int) : Prop := (r = -1 ∧ ∀ m, 0 ≤ m → m ≤ n → biz xs m = false) ∨ (0 ≤ r ∧ r ≤ n ∧ biz xs r = true ∧ ∀ m, r < m → m ≤ n → biz xs m = false)
theorem Up.uniq {xs : List Int} {n r s : Int} (_ : 0 ≤ n) (h : Up xs n r) (k : Up xs n s) : r = s := by
  rcases h with ⟨h1, h2⟩ | ⟨h1, h2, h3, h4⟩ <;> rcases k with ⟨k1, k2⟩ | ⟨k1, k2, k3, k4⟩
  · omega
  · rw [h2 s k1 k2] at k3; cases k3
  · rw [k2 r h1 h2] at h3; cases h3
  · rcases Int.lt_trichotomy r s with q | q | q
    · rw [k4 r h1 q] at h3; cases h3
    · exact q
    · rw [h4 s k1 q] at k3; cases k3
theorem Dn.uniq {xs : List Int} {n r s : Int} (h : Dn xs n r) (k : Dn xs n s) : r = s := by
  rcases h with ⟨h1, h2⟩ | ⟨h1, h2, h3, h4⟩ <;> rcases k with ⟨k1, k2⟩ | ⟨k1, k2, k3, k4⟩
  · omega
  · rw [h2 s k1 k2] at k3; cases k3
  · rw [k2 r h1 h2] at h3; cases h3
  · rcases Int.lt_trichotomy r s with q | q | q
    · rw [h4 s q k2] at k3; cases k3
    · exact q
    · rw [k4 r q h2] at h3; cases h3
theorem up_ex (xs : List Int) : ∀ (k : Nat) (n : Int), 36525 - n ≤ k → ∃ r, Up xs n r
  | 0, n, h => ⟨-1, .inl ⟨rfl, fun m a b => by omega⟩⟩
  | k + 1, n, h => by
    by_cases hn : 36524 < n
    · exact ⟨-1, .inl ⟨rfl, fun m a b => by omega⟩⟩
    · cases hb : biz xs n with
      | true => exact ⟨n, .inr ⟨by omega, by omega, hb, fun m a b => by omega⟩⟩
      | false =>
        obtain ⟨r, hr⟩ := up_ex xs k (n + 1) (by omega)
        rcases hr with ⟨h1, h2⟩ | ⟨h1, h2, h3, h4⟩
        · exact ⟨r, .inl ⟨h1, fun m a b => by
            by_cases e : m = n
            · rw [e]; exact hb
            · exact h2 m (by omega) b⟩⟩
        · exact ⟨r, .inr ⟨by omega, h2, h3, fun m a b => by
            by_cases e : m = n
            · rw [e]; exact hb
            · exact h4 m (by omega) b⟩⟩
theorem dn_ex (xs : List Int) : ∀ (k : Nat) (n : Int), n + 1 ≤ k → ∃ r, Dn xs n r
  | 0, n, h => ⟨-1, .inl ⟨rfl, fun m a b => by omega⟩⟩
  | k + 1, n, h => by
    by_cases hn : n < 0
    · exact ⟨-1, .inl ⟨rfl, fun m a b => by omega⟩⟩
    · cases hb : biz xs n with
      | true => exact ⟨n, .inr ⟨by omega, by omega, hb, fun m a b => by omega⟩⟩
      | false =>
        obtain ⟨r, hr⟩ := dn_ex xs k (n - 1) (by omega)
        rcases hr with ⟨h1, h2⟩ | ⟨h1, h2, h3, h4⟩
        · exact ⟨r, .inl ⟨h1, fun m a b => by
            by_cases e : m = n
            · rw [e]; exact hb
            · exact h2 m a (by omega)⟩⟩
        · exact ⟨r, .inr ⟨h1, by omega, h3, fun m a b => by
            by_cases e : m = n
            · rw [e]; exact hb
            · exact h4 m a (by omega)⟩⟩
open Classical in
noncomputable def up (xs : List Int) (n : Int) : Int := if h : ∃ r, Up xs n r then choose h else -1
open Classical in
noncomputable def dn (xs : List Int) (n : Int) : Int := if h : ∃ r, Dn xs n r then choose h else -1
theorem up_spec (xs : List Int) (n : Int) : Up xs n (up xs n) := by
  have hx := up_ex xs (36525 - n).toNat n (by omega)
  unfold up; rw [dif_pos hx]; exact Classical.choose_spec hx
theorem dn_spec (xs : List Int) (n : Int) : Dn xs n (dn xs n) := by
  have hx := dn_ex xs (n + 1).toNat n (by omega)
  unfold dn; rw [dif_pos hx]; exact Classical.choose_spec hx
theorem up_eq {xs : List Int} {n r : Int} (h0 : 0 ≤ n) (h : Up xs n r) : up xs n = r := (up_spec xs n).uniq h0 h
theorem dn_eq {xs : List Int} {n r : Int} (h : Dn xs n r) : dn xs n = r := (dn_spec xs n).uniq h
theorem up_out {xs : List Int} {n : Int} (h : 36524 < n) : up xs n = -1 := up_eq (by omega) (.inl ⟨rfl, fun m a b => by omega⟩)
theorem dn_out {xs : List Int} {n : Int} (h : n < 0) : dn xs n = -1 := dn_eq (.inl ⟨rfl, fun m a b => by omega⟩)
theorem up_hit {xs : List Int} {n : Int} (h0 : 0 ≤ n) (h1 : n ≤ 36524) (hb : biz xs n = true) : up xs n = n := up_eq h0 (.inr ⟨by omega, h1, hb, fun m a b => by omega⟩)
theorem dn_hit {xs : List Int} {n : Int} (h0 : 0 ≤ n) (hb : biz xs n = true) : dn xs n = n := dn_eq (.inr ⟨h0, by omega, hb, fun m a b => by omega⟩)
theorem up_miss {xs : List Int} {n : Int} (h0 : 0 ≤ n) (hb : biz xs n = false) : up xs (n + 1) = up xs n := by
  refine (up_eq h0 ?_).symm
  rcases up_spec xs (n + 1) with ⟨h1, h2⟩ | ⟨h1, h2, h3, h4⟩
  · exact .inl ⟨h1, fun m a b => by
      by_cases e : m = n
      · rw [e]; exact hb
      · exact h2 m (by omega) b⟩
  · exact .inr ⟨by omega, h2, h3, fun m a b => by
      by_cases e : m = n
      · rw [e]; exact hb
      · exact h4 m (by omega) b⟩
theorem dn_miss {xs : List Int} {n : Int} (hb : biz xs n = false) : dn xs (n - 1) = dn xs n := by
  refine (dn_eq ?_).symm
  rcases dn_spec xs (n - 1) with ⟨h1, h2⟩ | ⟨h1, h2, h3, h4⟩
  · exact .inl ⟨h1, fun m a b => by
      by_cases e : m = n
      · rw [e]; exact hb
      · exact h2 m a (by omega)⟩
  · exact .inr ⟨h1, by omega, h3, fun m a b => by
      by_cases e : m = n
      · rw [e]; exact hb
      · exact h4 m a (by omega)⟩
theorem up_bd (xs : List Int) {n : Int} (_ : 0 ≤ n) : up xs n = -1 ∨ (n ≤ up xs n ∧ up xs n ≤ 36524 ∧ biz xs (up xs n) = true) := by
  rcases up_spec xs n with ⟨h1, h2⟩ | ⟨h1, h2, h3, h4⟩
  · exact .inl h1
  · exact .inr ⟨h1, h2, h3⟩
theorem dn_bd (xs : List Int) (n : Int) : dn xs n = -1 ∨ (0 ≤ dn xs n ∧ dn xs n ≤ n ∧ biz xs (dn xs n) = true) := by
  rcases dn_spec xs n with ⟨h1, h2⟩ | ⟨h1, h2, h3, h4⟩
  · exact .inl h1
  · exact .inr ⟨h1, h2, h3⟩
/-- The business days of k days from a on. -/
def cnt (xs : List Int) (a : Int) : Nat → Int
  | 0 => 0
  | k + 1 => cnt xs a k + if biz xs (a + k) = true then 1 else 0
theorem cnt_bd (xs : List Int) (a : Int) (k : Nat) : 0 ≤ cnt xs a k ∧ cnt xs a k ≤ k := by
  induction k with
  | zero => simp [cnt]
  | succ k ih => unfold cnt; split <;> omega
theorem cnt_add (xs : List Int) (a : Int) (j k : Nat) : cnt xs a (j + k) = cnt xs a j + cnt xs (a + j) k := by
  induction k with
  | zero => simp [cnt]
  | succ k ih =>
    have e : a + ((j + k : Nat) : Int) = a + (j : Int) + (k : Int) := by omega
    show cnt xs a (j + k) + (if biz xs (a + ((j + k : Nat) : Int)) = true then 1 else 0) = cnt xs a j + (cnt xs (a + j) k + (if biz xs (a + (j : Int) + (k : Int)) = true then 1 else 0))
    rw [ih, e]
    omega
theorem cnt_zero {xs : List Int} {a : Int} {k : Nat} (h : ∀ m, a ≤ m → m < a + k → biz xs m = false) : cnt xs a k = 0 := by
  induction k with
  | zero => rfl
  | succ k ih =>
    unfold cnt
    rw [ih (fun m p q => h m p (by omega)), h (a + k) (by omega) (by omega)]
    rfl
theorem cnt_mono {xs ys : List Int} {a : Int} (h : ∀ m, biz xs m = true → biz ys m = true) (k : Nat) : cnt xs a k ≤ cnt ys a k := by
  induction k with
  | zero => simp [cnt]
  | succ k ih =>
    unfold cnt
    by_cases e : biz xs (a + k) = true
    · rw [if_pos e, if_pos (h _ e)]; omega
    · rw [if_neg e]; split <;> omega
theorem biz_nil {xs : List Int} {n : Int} (h : biz xs n = true) : biz [] n = true := by
  unfold biz at h ⊢; simp at h ⊢; exact h.1
theorem biz_nil_iff (n : Int) : biz [] n = decide (n % 7 < 5) := by simp [biz]
theorem cnt_week (a : Int) : cnt [] a 7 = 5 := by
  have e : ∀ i : Nat, biz [] (a + (i : Int)) = decide ((a % 7 + i) % 7 < 5) := fun i => by rw [biz_nil_iff]; exact decide_eq_decide.2 (by omega)
  simp only [cnt, e]
  have h0 : 0 ≤ a % 7 := by omega
  have h1 : a % 7 < 7 := by omega
  clear e
  generalize a % 7 = r at h0 h1
  have : r = 0 ∨ r = 1 ∨ r = 2 ∨ r = 3 ∨ r = 4 ∨ r = 5 ∨ r = 6 := by omega
  clear h0 h1
  rcases this with rfl | rfl | rfl | rfl | rfl | rfl | rfl <;> decide
/-- The business day many business days behind the first one from n on. -/
noncomputable def add (xs : List Int) (n : Int) : Nat → Int
  | 0 => up xs n
  | k + 1 => if add xs n k < 0 then -1 else up xs (add xs n k + 1)
theorem add_bd (xs : List Int) {n : Int} (h0 : 0 ≤ n) (k : Nat) : add xs n k = -1 ∨ (n ≤ add xs n k ∧ add xs n k ≤ 36524 ∧ biz xs (add xs n k) = true) := by
  induction k with
  | zero => exact up_bd xs h0
  | succ k ih =>
    unfold add
    split
    · exact .inl rfl
    · rename_i hlt
      rcases ih with h | ⟨a, b, c⟩
      · omega
      · rcases up_bd xs (n := add xs n k + 1) (by omega) with h | ⟨p, q, r⟩
        · exact .inl h
        · exact .inr ⟨by omega, q, r⟩
theorem add_neg {xs : List Int} {n : Int} {k : Nat} (h : add xs n k < 0) (j : Nat) : add xs n (k + j) = -1 ∨ j = 0 := by
  induction j with
  | zero => exact .inr rfl
  | succ j ih =>
    left
    show (if add xs n (k + j) < 0 then _ else _) = _
    rw [if_pos]
    rcases ih with h1 | h1
    · omega
    · subst h1; exact h
theorem cnt_up {xs : List Int} {n : Int} (h : n ≤ up xs n) : cnt xs n (up xs n - n).toNat = 0 := by
  refine cnt_zero fun m a b => ?_
  rcases up_spec xs n with ⟨h1, h2⟩ | ⟨h1, h2, h3, h4⟩
  · rw [h1] at h b; exact h2 m a (by omega)
  · exact h4 m a (by omega)
theorem cnt_addV {xs : List Int} {n : Int} (h0 : 0 ≤ n) : ∀ k : Nat, 0 ≤ add xs n k → cnt xs n (add xs n k - n).toNat = k
  | 0, h => by
    rcases up_bd xs h0 with e | ⟨a, b, c⟩
    · have : add xs n 0 = -1 := e
      omega
    · exact cnt_up a
  | k + 1, h => by
    have hk : ¬ add xs n k < 0 := by
      intro hc
      rcases add_neg hc 1 with e | e
      · have e2 : add xs n (k + 1) = -1 := e
        omega
      · omega
    have e1 : add xs n (k + 1) = up xs (add xs n k + 1) := by
      show (if add xs n k < 0 then _ else _) = _
      rw [if_neg hk]
    rw [e1] at h ⊢
    have ih := cnt_addV (xs := xs) h0 k (by omega)
    rcases add_bd xs h0 k with e | ⟨a, b, c⟩
    · omega
    rcases up_bd xs (n := add xs n k + 1) (by omega) with e | ⟨p, q, r⟩
    · omega
    obtain ⟨j, hj⟩ : ∃ j : Nat, add xs n k = n + j := ⟨(add xs n k - n).toNat, by omega⟩
    obtain ⟨i, hi⟩ : ∃ i : Nat, up xs (add xs n k + 1) = n + j + 1 + i := ⟨(up xs (add xs n k + 1) - n - j - 1).toNat, by omega⟩
    have z := cnt_up p
    rw [hi] at z ⊢
    rw [hj] at ih z c
    rw [show (n + (j : Int) + 1 + (i : Int) - n).toNat = (j + 1) + i by omega, cnt_add]
    rw [show (n + (j : Int) - n).toNat = j by omega] at ih
    rw [show (n + (j : Int) + 1 + (i : Int) - (n + (j : Int) + 1)).toNat = i by omega] at z
    have u : cnt xs n (j + 1) = cnt xs n j + 1 := by
      show cnt xs n j + (if biz xs (n + j) = true then 1 else 0) = _
      rw [if_pos c]
    rw [u, ih, show n + ((j + 1 : Nat) : Int) = n + (j : Int) + 1 by omega, z]
    omega
/-- How many of k days from a on are in a list. -/
def hits (xs : List Int) (a : Int) : Nat → Int
  | 0 => 0
  | k + 1 => hits xs a k + if a + k ∈ xs then 1 else 0
theorem hits_one (y a : Int) (k : Nat) : hits [y] a k ≤ if a ≤ y ∧ y < a + k then 1 else 0 := by
  induction k with
  | zero => simp only [hits]; split <;> omega
  | succ k ih =>
    unfold hits
    by_cases h : a + (k : Int) = y
    · rw [if_pos (by simp [h]), if_pos (by omega)]
      rw [if_neg (by omega)] at ih
      omega
    · rw [if_neg (by simpa using h)]
      split at ih <;> split <;> omega
theorem hits_cons (y : Int) (ys : List Int) (a : Int) (k : Nat) : hits (y :: ys) a k ≤ hits [y] a k + hits ys a k := by
  induction k with
  | zero => simp [hits]
  | succ k ih =>
    unfold hits
    by_cases h1 : a + (k : Int) = y
    · rw [if_pos (by simp [h1]), if_pos (by simp [h1])]
      split <;> omega
    · by_cases h2 : a + (k : Int) ∈ ys
      · rw [if_pos (by simp [h2]), if_neg (by simpa using h1), if_pos h2]; omega
      · rw [if_neg (by simp [h1, h2]), if_neg (by simpa using h1), if_neg h2]; omega
theorem hits_nil (a : Int) (k : Nat) : hits [] a k = 0 := by
  induction k with
  | zero => rfl
  | succ k ih => unfold hits; rw [ih]; simp
theorem hits_le (xs : List Int) (a : Int) (k : Nat) : hits xs a k ≤ xs.length := by
  induction xs with
  | nil => rw [hits_nil]; simp
  | cons y ys ih =>
    have := hits_cons y ys a k
    have := hits_one y a k
    simp only [List.length_cons]
    split at this <;> omega
theorem cnt_hits {xs : List Int} {a : Int} {k : Nat} (h : ∀ m, a ≤ m → m < a + k → biz xs m = false) : cnt [] a k ≤ hits xs a k := by
  induction k with
  | zero => simp [cnt, hits]
  | succ k ih =>
    have := ih (fun m p q => h m p (by omega))
    unfold cnt hits
    have e := h (a + k) (by omega) (by omega)
    unfold biz at e
    rw [biz_nil_iff]
    by_cases q : (a + (k : Int)) % 7 < 5
    · simp [q] at e
      rw [if_pos (by simp [q]), if_pos e]; omega
    · rw [if_neg (by simp [q])]; split <;> omega
theorem cnt_28 (a : Int) : cnt [] a 28 = 20 := by
  rw [show (28 : Nat) = 7 + (7 + (7 + 7)) from rfl, cnt_add, cnt_add, cnt_add, cnt_week, cnt_week, cnt_week, cnt_week]; rfl
theorem up_near {xs : List Int} {n : Int} (hx : xs.length ≤ 12) (_ : n ≤ up xs n) : up xs n < n + 28 := by
  rcases Int.lt_or_le (up xs n) (n + 28) with q | q
  · exact q
  · exfalso
    have h0 : ∀ m, n ≤ m → m < n + (28 : Nat) → biz xs m = false := fun m a b => by
      rcases up_spec xs n with ⟨h1, h2⟩ | ⟨h1, h2, h3, h4⟩
      · exact h2 m a (by omega)
      · exact h4 m a (by omega)
    have := cnt_hits h0
    have := hits_le xs n 28
    rw [cnt_28] at *
    omega
theorem add_near {xs : List Int} {n : Int} (h0 : 0 ≤ n) (hx : xs.length ≤ 12) : ∀ k : Nat, 0 ≤ add xs n k → add xs n k ≤ n + 28 + 29 * k
  | 0, h => by
    rcases up_bd xs h0 with e | ⟨a, b, c⟩
    · have : add xs n 0 = -1 := e
      omega
    · have : add xs n 0 = up xs n := rfl
      have := up_near hx a
      omega
  | k + 1, h => by
    have hk : ¬ add xs n k < 0 := by
      intro hc
      rcases add_neg hc 1 with e | e
      · have e2 : add xs n (k + 1) = -1 := e
        omega
      · omega
    have e1 : add xs n (k + 1) = up xs (add xs n k + 1) := by
      show (if add xs n k < 0 then _ else _) = _
      rw [if_neg hk]
    rw [e1] at h ⊢
    have ih := add_near (xs := xs) h0 hx k (by omega)
    rcases up_bd xs (n := add xs n k + 1) (by omega) with e | ⟨p, q, r⟩
    · omega
    · have := up_near hx p
      omega
theorem hol_tail {y : Int} {ys : List Int} (h : Hol (y :: ys)) : Hol ys := by
  obtain ⟨a, b, c⟩ := h
  refine ⟨by simp at a; omega, fun i hi => ?_, fun i hi => ?_⟩
  · have := b (i + 1) (by simp; omega); simpa using this
  · have := c (i + 1) (by simp; omega); simpa using this
theorem hol_nil : holB [] = true := holB_iff.2 ⟨by simp, fun i hi => by simp at hi, fun i hi => by simp at hi⟩
theorem hol_one {n : Int} (h0 : 0 ≤ n) (h1 : n ≤ 36524) : holB [n] = true := holB_iff.2 ⟨by simp, fun i hi => by simp at hi, fun i hi => by
  simp at hi; subst hi; simp; omega⟩
theorem biz_tail {y n : Int} {ys : List Int} (h : biz (y :: ys) n = true) : biz ys n = true := by
  unfold biz at h ⊢; simp at h ⊢; exact ⟨h.1, h.2.2⟩
theorem biz_self (n : Int) : biz [n] n = false := by unfold biz; simp
theorem biz_parts {xs : List Int} {n : Int} (h : biz xs n = true) : n % 7 < 5 ∧ decide (n ∈ xs) = false := by
  unfold biz at h; simp at h ⊢; exact h
end Biz
end Go.Proofs.Ytdmamojidefdaaa
