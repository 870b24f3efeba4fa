/- Texts of numbers, and how they are read. -/
import Derived.Lib.ItoaNum
import Derived.Lib.Strings
import Derived.IntWalk
namespace Go.Proofs.YtapalkohfhohhaaDoor
open Go.Lib
/-- A digit's byte. -/
def dgt (c : UInt8) : Bool := decide (48 ≤ c.toNat ∧ c.toNat ≤ 57)
def dgv (c : UInt8) : Int := (c.toNat : Int) - 48
theorem dgt_iff {c : UInt8} : dgt c = true ↔ 48 ≤ c.toNat ∧ c.toNat ≤ 57 := by unfold dgt; simp
theorem dgt_iff_f {c : UInt8} : dgt c = false ↔ c.toNat < 48 ∨ 57 < c.toNat := by unfold dgt; rw [decide_eq_false_iff_not]; omega
def ch (n : Nat) : UInt8 := UInt8.ofNat (48 + n)
theorem ch_nat {n : Nat} (h : n < 10) : (ch n).toNat = 48 + n := by unfold ch; rw [UInt8.toNat_ofNat']; omega
theorem ch_dgt {n : Nat} (h : n < 10) : dgt (ch n) = true := by rw [dgt_iff, ch_nat h]; omega
theorem ch_val {n : Nat} (h : n < 10) : dgv (ch n) = n := by unfold dgv; rw [ch_nat h]; omega
/-- What a number's next digit makes of it, as the program computes it. -/
def stp (a : Int) (c : UInt8) : Int := IntKind.i64.wrap (IntKind.i64.wrap (10 * a) + dgv c)
theorem stp_small {a : Int} {d : Nat} (h0 : 0 ≤ a) (h1 : a ≤ 100000000000000000) (hd : d < 10) : stp a (ch d) = 10 * a + d := by
  unfold stp
  rw [ch_val hd, IntWalk.i64_in (10 * a) (by omega), IntWalk.i64_in _ (by omega)]
/-- All digits that follow. -/
def rdN : List UInt8 → Int → Int × List UInt8
  | [], a => (a, [])
  | c :: r, a => if dgt c then rdN r (stp a c) else (a, c :: r)
theorem rdN_nil (a : Int) : rdN [] a = (a, []) := rfl
theorem rdN_stop {c : UInt8} {r : List UInt8} {a : Int} (h : dgt c = false) : rdN (c :: r) a = (a, c :: r) := by simp [rdN, h]
theorem rdN_go {c : UInt8} {r : List UInt8} {a : Int} (h : dgt c = true) : rdN (c :: r) a = rdN r (stp a c) := by simp [rdN, h]
theorem rdN_app {l r : List UInt8} {a : Int} (h : ∀ c ∈ l, dgt c = true) : rdN (l ++ r) a = rdN r (l.foldl stp a) := by
  induction l generalizing a with
  | nil => rfl
  | cons c t ih =>
    rw [List.cons_append, rdN_go (h c (by simp)), ih (fun x hx => h x (by simp [hx]))]
    rfl
theorem rdN_len (l : List UInt8) (a : Int) : (rdN l a).2.length ≤ l.length := by
  induction l generalizing a with
  | nil => simp [rdN]
  | cons c t ih =>
    cases h : dgt c with
    | true => rw [rdN_go h]; have := ih (stp a c); simp; omega
    | false => rw [rdN_stop h]; simp
theorem dec_digits (n : Nat) : ∀ c ∈ decDigits n, dgt c = true := by
  induction n using Nat.strongRecOn with
  | _ n ih =>
    by_cases h : n < 10
    · rw [decDigits_one h]
      intro c hc
      simp only [List.mem_singleton] at hc
      subst hc
      exact ch_dgt h
    · rw [decDigits, dif_neg h]
      intro c hc
      rcases List.mem_append.1 hc with q | q
      · exact ih (n / 10) (by omega) c q
      · simp only [List.mem_singleton] at q
        subst q
        exact ch_dgt (by omega)
theorem dec_ne (n : Nat) : decDigits n ≠ [] := by
  by_cases h : n < 10
  · rw [decDigits_one h]; simp
  · rw [decDigits, dif_neg h]; simp
theorem dec_val (n : Nat) (hn : n ≤ 100000000000000000) : (decDigits n).foldl stp 0 = n := by
  induction n using Nat.strongRecOn with
  | _ n ih =>
    by_cases h : n < 10
    · rw [decDigits_one h]
      show stp 0 (ch n) = n
      rw [stp_small (by omega) (by omega) h]
      omega
    · rw [decDigits, dif_neg h, List.foldl_append, ih (n / 10) (by omega) (by omega)]
      show stp _ (ch (n % 10)) = n
      rw [stp_small (by omega) (by omega) (by omega)]
      omega
theorem rdN_dec {n : Nat} (hn : n ≤ 100000000000000000) (r : List UInt8) (hr : ∀ c t, r = c :: t → dgt c = false) : rdN (decDigits n ++ r) 0 = ((n : Int), r) := by
  rw [rdN_app (dec_digits n), dec_val n hn]
  cases r with
  | nil => rfl
  | cons c t => exact rdN_stop (hr c t rfl)
/-- Two digits. -/
def two (n : Nat) : List UInt8 := [ch (n / 10), ch (n % 10)]
theorem dec_hundred {k : Nat} (h : k < 100) : decDigits (100 + k) = 49 :: two k := by
  rw [decDigits, dif_neg (by omega), decDigits_two (by omega) (by omega), show (100 + k) / 10 / 10 = 1 by omega, show (100 + k) / 10 % 10 = k / 10 by omega, show (100 + k) % 10 = k % 10 by omega]
  rfl
theorem two_dec {k : Nat} (h1 : ¬ k < 10) (h : k < 100) : decDigits k = two k := decDigits_two h1 h
theorem two_small {k : Nat} (h1 : k < 10) : (48 : UInt8) :: decDigits k = two k := by
  rw [decDigits_one h1]
  unfold two
  rw [show k / 10 = 0 by omega, show k % 10 = k by omega]
  rfl
theorem two_digits {k : Nat} (h : k < 100) : ∀ c ∈ two k, dgt c = true := by
  intro c hc
  simp only [two, List.mem_cons, List.not_mem_nil, or_false] at hc
  rcases hc with rfl | rfl
  · exact ch_dgt (by omega)
  · exact ch_dgt (by omega)
theorem two_val {k : Nat} (h : k < 100) : (two k).foldl stp 0 = k := by
  show stp (stp 0 (ch (k / 10))) (ch (k % 10)) = k
  rw [stp_small (a := 0) (by omega) (by omega) (by omega), stp_small (by omega) (by omega) (by omega)]
  omega
theorem rdN_two {k : Nat} (h : k < 100) (r : List UInt8) (hr : ∀ c t, r = c :: t → dgt c = false) : rdN (two k ++ r) 0 = ((k : Int), r) := by
  rw [rdN_app (two_digits h), two_val h]
  cases r with
  | nil => rfl
  | cons c t => exact rdN_stop (hr c t rfl)
/-- A sign that is passed over, if it follows. -/
def skp (x : UInt8) : List UInt8 → List UInt8
  | [] => []
  | c :: r => if c = x then r else c :: r
theorem skp_yes (x : UInt8) (r : List UInt8) : skp x (x :: r) = r := by simp [skp]
theorem skp_trim (x : UInt8) (l : List UInt8) : trimPrefix l [x] = skp x l := by
  cases l with
  | nil => simp [trimPrefix, hasPrefix, skp]
  | cons c r =>
    unfold trimPrefix hasPrefix skp
    by_cases h : c = x
    · subst h; simp [List.isPrefixOf]
    · have h' : (x == c) = false := by simp; exact fun e => h e.symm
      simp [List.isPrefixOf, h, h']
end Go.Proofs.YtapalkohfhohhaaDoor
