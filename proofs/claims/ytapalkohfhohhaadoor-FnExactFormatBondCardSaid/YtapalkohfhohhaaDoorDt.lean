/- The texts of dates, and how they are read, by the program and by the model. -/
import Derived.Test.YtapalkohfhohhaaDoorQt
namespace Go.Proofs.YtapalkohfhohhaaDoor
open Go.Lib
/-- The text of a date. -/
def Dt.txt (y m d : Nat) : List UInt8 := decDigits y ++ (45 :: (two m ++ (45 :: two d)))
/-- The date that the program's cursor reads, and the rest. -/
def Dt.read (l : List UInt8) : (Int × Int × Int) × List UInt8 :=
  let a := rdN l 0
  let b := rdN (skp 45 a.2) 0
  let c := rdN (skp 45 b.2) 0
  ((a.1, b.1, c.1), c.2)
theorem Dt.read_txt {y m d : Nat} (hy : y ≤ 9999) (hm : m < 100) (hd : d < 100) (r : List UInt8) (hr : ∀ c t, r = c :: t → dgt c = false) : Dt.read (Dt.txt y m d ++ r) = (((y : Int), (m : Int), (d : Int)), r) := by
  have e0 : Dt.txt y m d ++ r = decDigits y ++ (45 :: (two m ++ (45 :: (two d ++ r)))) := by unfold Dt.txt; simp
  have h1 : rdN (Dt.txt y m d ++ r) 0 = ((y : Int), 45 :: (two m ++ (45 :: (two d ++ r)))) := by
    rw [e0]
    exact rdN_dec (by omega) _ (fun c t e => by injection e with e _; rw [← e]; exact dgt45)
  have h2 : rdN (two m ++ (45 :: (two d ++ r))) 0 = ((m : Int), 45 :: (two d ++ r)) := rdN_two hm _ (fun c t e => by injection e with e _; rw [← e]; exact dgt45)
  have h3 : rdN (two d ++ r) 0 = ((d : Int), r) := rdN_two hd _ hr
  unfold Dt.read
  rw [h1]
  simp only [skp_yes]
  rw [h2]
  simp only [skp_yes]
  rw [h3]
/-- The number of so many digits from a place on, -1 if there are others. -/
def nbr (l : List UInt8) (i : Nat) : Nat → Int → Int
  | 0, a => a
  | f + 1, a => if dat l i < 0 then -1 else nbr l (i + 1) f (10 * a + dat l i)
theorem nbr_zero {l : List UInt8} {i : Nat} {a : Int} : nbr l i 0 a = a := rfl
theorem nbr_go {l : List UInt8} {i f : Nat} {a : Int} (h : ¬ dat l i < 0) : nbr l i (f + 1) a = nbr l (i + 1) f (10 * a + dat l i) := by simp [nbr, h]
theorem nbr_no {l : List UInt8} {i f : Nat} {a : Int} (h : dat l i < 0) : nbr l i (f + 1) a = -1 := by simp [nbr, h]
/-- What the model reads. -/
def Dt.sread (l : List UInt8) : Int × Int × Int := (nbr l 0 4 0, nbr l 5 2 0, nbr l 8 2 0)
theorem dec_four {n : Nat} (h0 : 1000 ≤ n) (h : n < 10000) : decDigits n = [ch (n / 1000), ch (n / 100 % 10), ch (n / 10 % 10), ch (n % 10)] := by
  rw [decDigits, dif_neg (by omega), dec_three (n := n / 10) (by omega), if_neg (by omega), if_neg (by omega), show n / 10 / 100 = n / 1000 by omega, show n / 10 / 10 % 10 = n / 100 % 10 by omega]
  rfl
theorem Dt.txt_len {y m d : Nat} (h0 : 1000 ≤ y) (h1 : y < 10000) : (Dt.txt y m d).length = 10 := by
  unfold Dt.txt
  rw [dec_four h0 h1]
  rfl
theorem Dt.sread_txt {y m d : Nat} (h0 : 1000 ≤ y) (h1 : y < 10000) (hm : m < 100) (hd : d < 100) : Dt.sread (Dt.txt y m d) = ((y : Int), (m : Int), (d : Int)) := by
  generalize hl : Dt.txt y m d = l
  unfold Dt.txt at hl
  rw [dec_four h0 h1] at hl
  have d0 : dat l 0 = (y / 1000 : Nat) := ch_at (by rw [← hl]; rfl) (by omega)
  have d1 : dat l 1 = (y / 100 % 10 : Nat) := ch_at (by rw [← hl]; rfl) (by omega)
  have d2 : dat l 2 = (y / 10 % 10 : Nat) := ch_at (by rw [← hl]; rfl) (by omega)
  have d3 : dat l 3 = (y % 10 : Nat) := ch_at (by rw [← hl]; rfl) (by omega)
  have d5 : dat l 5 = (m / 10 : Nat) := ch_at (by rw [← hl]; rfl) (by omega)
  have d6 : dat l 6 = (m % 10 : Nat) := ch_at (by rw [← hl]; rfl) (by omega)
  have d8 : dat l 8 = (d / 10 : Nat) := ch_at (by rw [← hl]; rfl) (by omega)
  have d9 : dat l 9 = (d % 10 : Nat) := ch_at (by rw [← hl]; rfl) (by omega)
  have n1 : nbr l 0 4 0 = (y : Int) := by
    rw [nbr_go (by omega), nbr_go (i := 1) (by omega), nbr_go (i := 2) (by omega), nbr_go (i := 3) (by omega), nbr_zero, d0, d1, d2, d3]
    omega
  have n2 : nbr l 5 2 0 = (m : Int) := by
    rw [nbr_go (by omega), nbr_go (i := 6) (by omega), nbr_zero, d5, d6]
    omega
  have n3 : nbr l 8 2 0 = (d : Int) := by
    rw [nbr_go (by omega), nbr_go (i := 9) (by omega), nbr_zero, d8, d9]
    omega
  unfold Dt.sread
  rw [n1, n2, n3]
theorem nbr_bd (l : List UInt8) : ∀ (f i : Nat) (a : Int), 0 ≤ a → a ≤ 99999 → f ≤ 4 → -1 ≤ nbr l i f a ∧ nbr l i f a ≤ 99999999999 := by
  intro f
  rcases f with _ | _ | _ | _ | _ | f
  · intro i a h0 h1 _; rw [nbr_zero]; omega
  all_goals intro i a h0 h1 h4
  · by_cases q : dat l i < 0
    · rw [nbr_no q]; omega
    · have := dat_bd l i
      rw [nbr_go q, nbr_zero]; omega
  · by_cases q : dat l i < 0
    · rw [nbr_no q]; omega
    · have := dat_bd l i
      rw [nbr_go q]
      by_cases q2 : dat l (i + 1) < 0
      · rw [nbr_no q2]; omega
      · have := dat_bd l (i + 1)
        rw [nbr_go q2, nbr_zero]; omega
  · by_cases q : dat l i < 0
    · rw [nbr_no q]; omega
    · have := dat_bd l i
      rw [nbr_go q]
      by_cases q2 : dat l (i + 1) < 0
      · rw [nbr_no q2]; omega
      · have := dat_bd l (i + 1)
        rw [nbr_go q2]
        by_cases q3 : dat l (i + 1 + 1) < 0
        · rw [nbr_no q3]; omega
        · have := dat_bd l (i + 1 + 1)
          rw [nbr_go q3, nbr_zero]; omega
  · by_cases q : dat l i < 0
    · rw [nbr_no q]; omega
    · have := dat_bd l i
      rw [nbr_go q]
      by_cases q2 : dat l (i + 1) < 0
      · rw [nbr_no q2]; omega
      · have := dat_bd l (i + 1)
        rw [nbr_go q2]
        by_cases q3 : dat l (i + 1 + 1) < 0
        · rw [nbr_no q3]; omega
        · have := dat_bd l (i + 1 + 1)
          rw [nbr_go q3]
          by_cases q4 : dat l (i + 1 + 1 + 1) < 0
          · rw [nbr_no q4]; omega
          · have := dat_bd l (i + 1 + 1 + 1)
            rw [nbr_go q4, nbr_zero]; omega
  · omega
end Go.Proofs.YtapalkohfhohhaaDoor
