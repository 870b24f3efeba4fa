/- The texts of dates and of bonds, and how they are read, by the program and by the model; a text cut at every space. -/
import Derived.Test.YtapalkohfhohhaaDoorQt
namespace Go.Proofs.YtapalkohfhohhaaDoor
open Go.Lib
/-- The text of a date. -/
def Dt.txt (y m d : Nat) : List UInt8 := decDigits y ++ (45 :: (two m ++ (45 :: two d)))
/-- The date that the program's cursor reads, and the rest. -/
def Dt.read (l : List UInt8) : (Int × Int × Int) × List UInt8 :=
  let a := rdN l 0
  let b := rdN (skp 45 a.2) 0
  let c := rdN (skp 45 b.2) 0
  ((a.1, b.1, c.1), c.2)
theorem Dt.read_txt {y m d : Nat} (hy : y ≤ 9999) (hm : m < 100) (hd : d < 100) (r : List UInt8) (hr : ∀ c t, r = c :: t → dgt c = false) : Dt.read (Dt.txt y m d ++ r) = (((y : Int), (m : Int), (d : Int)), r) := by
  have e0 : Dt.txt y m d ++ r = decDigits y ++ (45 :: (two m ++ (45 :: (two d ++ r)))) := by unfold Dt.txt; simp
  have h1 : rdN (Dt.txt y m d ++ r) 0 = ((y : Int), 45 :: (two m ++ (45 :: (two d ++ r)))) := by
    rw [e0]
    exact rdN_dec (by omega) _ (fun c t e => by injection e with e _; rw [← e]; exact dgt45)
  have h2 : rdN (two m ++ (45 :: (two d ++ r))) 0 = ((m : Int), 45 :: (two d ++ r)) := rdN_two hm _ (fun c t e => by injection e with e _; rw [← e]; exact dgt45)
  have h3 : rdN (two d ++ r) 0 = ((d : Int), r) := rdN_two hd _ hr
  unfold Dt.read
  rw [h1]
  simp only [skp_yes]
  rw [h2]
  simp only [skp_yes]
  rw [h3]
/-- The number of so many digits from a place on, -1 if there are others. -/
def nbr (l : List UInt8) (i : Nat) : Nat → Int → Int
  | 0, a => a
  | f + 1, a => if dat l i < 0 then -1 else nbr l (i + 1) f (10 * a + dat l i)
theorem nbr_zero {l : List UInt8} {i : Nat} {a : Int} : nbr l i 0 a = a := rfl
theorem nbr_go {l : List UInt8} {i f : Nat} {a : Int} (h : ¬ dat l i < 0) : nbr l i (f + 1) a = nbr l (i + 1) f (10 * a + dat l i) := by simp [nbr, h]
theorem nbr_no {l : List UInt8} {i f : Nat} {a : Int} (h : dat l i < 0) : nbr l i (f + 1) a = -1 := by simp [nbr, h]
/-- What the model reads. -/
def Dt.sread (l : List UInt8) : Int × Int × Int := (nbr l 0 4 0, nbr l 5 2 0, nbr l 8 2 0)
theorem dec_four {n : Nat} (h0 : 1000 ≤ n) (h : n < 10000) : decDigits n = [ch (n / 1000), ch (n / 100 % 10), ch (n / 10 % 10), ch (n % 10)] := by
  rw [decDigits, dif_neg (by omega), dec_three (n := n / 10) (by omega), if_neg (by omega), if_neg (by omega), show n / 10 / 100 = n / 1000 by omega, show n / 10 / 10 % 10 = n / 100 % 10 by omega]
  rfl
theorem Dt.txt_len {y m d : Nat} (h0 : 1000 ≤ y) (h1 : y < 10000) : (Dt.txt y m d).length = 10 := by
  unfold Dt.txt
  rw [dec_four h0 h1]
  rfl
theorem Dt.sread_txt {y m d : Nat} (h0 : 1000 ≤ y) (h1 : y < 10000) (hm : m < 100) (hd : d < 100) : Dt.sread (Dt.txt y m d) = ((y : Int), (m : Int), (d : Int)) := by
  generalize hl : Dt.txt y m d = l
  unfold Dt.txt at hl
  rw [dec_four h0 h1] at hl
  have d0 : dat l 0 = (y / 1000 : Nat) := ch_at (by rw [← hl]; rfl) (by omega)
  have d1 : dat l 1 = (y / 100 % 10 : Nat) := ch_at (by rw [← hl]; rfl) (by omega)
  have d2 : dat l 2 = (y / 10 % 10 : Nat) := ch_at (by rw [← hl]; rfl) (by omega)
  have d3 : dat l 3 = (y % 10 : Nat) := ch_at (by rw [← hl]; rfl) (by omega)
  have d5 : dat l 5 = (m / 10 : Nat) := ch_at (by rw [← hl]; rfl) (by omega)
  have d6 : dat l 6 = (m % 10 : Nat) := ch_at (by rw [← hl]; rfl) (by omega)
  have d8 : dat l 8 = (d / 10 : Nat) := ch_at (by rw [← hl]; rfl) (by omega)
  have d9 : dat l 9 = (d % 10 : Nat) := ch_at (by rw [← hl]; rfl) (by omega)
  have n1 : nbr l 0 4 0 = (y : Int) := by
    rw [nbr_go (by omega), nbr_go (i := 1) (by omega), nbr_go (i := 2) (by omega), nbr_go (i := 3) (by omega), nbr_zero, d0, d1, d2, d3]
    omega
  have n2 : nbr l 5 2 0 = (m : Int) := by
    rw [nbr_go (by omega), nbr_go (i := 6) (by omega), nbr_zero, d5, d6]
    omega
  have n3 : nbr l 8 2 0 = (d : Int) := by
    rw [nbr_go (by omega), nbr_go (i := 9) (by omega), nbr_zero, d8, d9]
    omega
  unfold Dt.sread
  rw [n1, n2, n3]
theorem nbr_bd (l : List UInt8) : ∀ (f i : Nat) (a : Int), 0 ≤ a → a ≤ 99999 → f ≤ 4 → -1 ≤ nbr l i f a ∧ nbr l i f a ≤ 99999999999 := by
  intro f
  rcases f with _ | _ | _ | _ | _ | f
  · intro i a h0 h1 _; rw [nbr_zero]; omega
  all_goals intro i a h0 h1 h4
  · by_cases q : dat l i < 0
    · rw [nbr_no q]; omega
    · have := dat_bd l i
      rw [nbr_go q, nbr_zero]; omega
  · by_cases q : dat l i < 0
    · rw [nbr_no q]; omega
    · have := dat_bd l i
      rw [nbr_go q]
      by_cases q2 : dat l (i + 1) < 0
      · rw [nbr_no q2]; omega
      · have := dat_bd l (i + 1)
        rw [nbr_go q2, nbr_zero]; omega
  · by_cases q : dat l i < 0
    · rw [nbr_no q]; omega
    · have := dat_bd l i
      rw [nbr_go q]
      by_cases q2 : dat l (i + 1) < 0
      · rw [nbr_no q2]; omega
      · have := dat_bd l (i + 1)
        rw [nbr_go q2]
        by_cases q3 : dat l (i + 1 + 1) < 0
        · rw [nbr_no q3]; omega
        · have := dat_bd l (i + 1 + 1)
          rw [nbr_go q3, nbr_zero]; omega
  · by_cases q : dat l i < 0
    · rw [nbr_no q]; omega
    · have := dat_bd l i
      rw [nbr_go q]
      by_cases q2 : dat l (i + 1) < 0
      · rw [nbr_no q2]; omega
      · have := dat_bd l (i + 1)
        rw [nbr_go q2]
        by_cases q3 : dat l (i + 1 + 1) < 0
        · rw [nbr_no q3]; omega
        · have := dat_bd l (i + 1 + 1)
          rw [nbr_go q3]
          by_cases q4 : dat l (i + 1 + 1 + 1) < 0
          · rw [nbr_no q4]; omega
          · have := dat_bd l (i + 1 + 1 + 1)
            rw [nbr_go q4, nbr_zero]; omega
  · omega
/- Texts of bonds -/
/-- The text of a rate. -/
def Bt.rt (r : Nat) : List UInt8 := decDigits (r / 100) ++ (46 :: two (r % 100))
/-- The text of a bond, from the texts of its dates. -/
def Bt.txt (r : Nat) (s e : List UInt8) (m : Nat) : List UInt8 := Bt.rt r ++ (32 :: (s ++ (32 :: (e ++ (32 :: decDigits m)))))
/-- The rate that the program's cursor reads, and the rest. -/
def Bt.rate (l : List UInt8) : Int × List UInt8 :=
  let a := rdN l 0
  let b := rdN (skp 46 a.2) 0
  (IntKind.i64.wrap (IntKind.i64.wrap (100 * a.1) + b.1), b.2)
theorem Bt.rate_txt {r : Nat} (h : r ≤ 3000) (t : List UInt8) (ht : ∀ c u, t = c :: u → dgt c = false) : Bt.rate (Bt.rt r ++ t) = ((r : Int), t) := by
  have e0 : Bt.rt r ++ t = decDigits (r / 100) ++ (46 :: (two (r % 100) ++ t)) := by unfold Bt.rt; simp
  have h1 : rdN (Bt.rt r ++ t) 0 = (((r / 100 : Nat) : Int), 46 :: (two (r % 100) ++ t)) := by
    rw [e0]
    exact rdN_dec (by omega) _ (fun c t e => by injection e with e _; rw [← e]; exact dgt46)
  have h2 : rdN (two (r % 100) ++ t) 0 = (((r % 100 : Nat) : Int), t) := rdN_two (by omega) _ ht
  unfold Bt.rate
  rw [h1]
  simp only [skp_yes]
  rw [h2]
  simp only [Prod.mk.injEq, and_true]
  rw [IntKind.wrap_i64, IntKind.wrap_i64]
  omega
/-- What the program's cursor reads of a bond: its rate, its dates, its months. -/
def Bt.read (l : List UInt8) : Int × (Int × Int × Int) × (Int × Int × Int) × Int :=
  let a := Bt.rate l
  let b := Dt.read (skp 32 a.2)
  let c := Dt.read (skp 32 b.2)
  (a.1, b.1, c.1, (rdN (skp 32 c.2) 0).1)
theorem Bt.read_txt {r m y1 m1 d1 y2 m2 d2 : Nat} (hr : r ≤ 3000) (hm : m ≤ 100) (a1 : y1 ≤ 9999) (a2 : m1 < 100) (a3 : d1 < 100) (b1 : y2 ≤ 9999) (b2 : m2 < 100) (b3 : d2 < 100) :
    Bt.read (Bt.txt r (Dt.txt y1 m1 d1) (Dt.txt y2 m2 d2) m) = ((r : Int), ((y1 : Int), (m1 : Int), (d1 : Int)), ((y2 : Int), (m2 : Int), (d2 : Int)), (m : Int)) := by
  have sp : ∀ (u : List UInt8) (c : UInt8) (t : List UInt8), 32 :: u = c :: t → dgt c = false := fun u c t e => by injection e with e _; rw [← e]; exact dgt32
  have h4 : rdN (decDigits m) 0 = ((m : Int), []) := by
    have := rdN_dec (n := m) (by omega) [] (fun c t e => by cases e)
    rwa [List.append_nil] at this
  unfold Bt.read Bt.txt
  rw [Bt.rate_txt hr _ (sp _)]
  simp only [skp_yes]
  rw [Dt.read_txt a1 a2 a3 _ (sp _)]
  simp only [skp_yes]
  rw [Dt.read_txt b1 b2 b3 _ (sp _)]
  simp only [skp_yes]
  rw [h4]
theorem Bt.rt_len {r : Nat} (h : r ≤ 3000) : 4 ≤ (Bt.rt r).length ∧ (Bt.rt r).length ≤ 5 := by
  unfold Bt.rt
  rw [dec_three (n := r / 100) (by omega)]
  simp only [List.length_append, List.length_cons]
  have : (two (r % 100)).length = 2 := rfl
  split
  · simp; omega
  · rw [if_pos (by omega)]; simp; omega
/- A text cut at every space -/
/-- The words, behind the beginning of the first. -/
def spl : List UInt8 → List UInt8 → List (List UInt8)
  | [], cur => [cur]
  | c :: t, cur => if c = 32 then cur :: spl t [] else spl t (cur ++ [c])
theorem spl_nil (cur : List UInt8) : spl [] cur = [cur] := rfl
theorem spl_yes (t cur : List UInt8) : spl (32 :: t) cur = cur :: spl t [] := by simp [spl]
theorem spl_no {c : UInt8} (t cur : List UInt8) (h : c ≠ 32) : spl (c :: t) cur = spl t (cur ++ [c]) := by simp [spl, h]
/-- A part of a text. -/
def seg (l : List UInt8) (f i : Nat) : List UInt8 := (l.drop f).take (i - f)
theorem seg_zero (l : List UInt8) (i : Nat) : seg l i i = [] := by simp [seg]
theorem seg_succ {l : List UInt8} {f i : Nat} (h : f ≤ i) {c : UInt8} (hc : l[i]? = some c) : seg l f (i + 1) = seg l f i ++ [c] := by
  unfold seg
  rw [show i + 1 - f = (i - f) + 1 by omega, List.take_add_one, List.getElem?_drop, show f + (i - f) = i by omega, hc]
  rfl
theorem seg_end (l : List UInt8) (f : Nat) : seg l f l.length = l.drop f := by
  unfold seg
  rw [List.take_of_length_le (by simp)]
theorem drop_at {l : List UInt8} {i : Nat} {c : UInt8} (hc : l[i]? = some c) : l.drop i = c :: l.drop (i + 1) := by
  have hi : i < l.length := by
    rcases Nat.lt_or_ge i l.length with h | h
    · exact h
    · rw [List.getElem?_eq_none h] at hc; cases hc
  rw [List.drop_eq_getElem_cons hi]
  rw [List.getElem?_eq_getElem hi] at hc
  rw [Option.some.inj hc]
/-- The state of the cutting: from f on, at i, with the words so far. -/
def cutI (l : List UInt8) (f i : Nat) (ws : List (List UInt8)) : Prop := f ≤ i ∧ i ≤ l.length ∧ ws.length ≤ i ∧ ws ++ spl (l.drop i) (seg l f i) = spl l []
theorem cutI.start (l : List UInt8) : cutI l 0 0 [] := ⟨by omega, by omega, by simp, by simp [seg]⟩
theorem cutI.yes {l : List UInt8} {f i : Nat} {ws : List (List UInt8)} (h : cutI l f i ws) (hc : l[i]? = some 32) : cutI l (i + 1) (i + 1) (ws ++ [seg l f i]) := by
  obtain ⟨h1, h2, h3, h4⟩ := h
  have hi : i < l.length := by
    rcases Nat.lt_or_ge i l.length with h | h
    · exact h
    · rw [List.getElem?_eq_none h] at hc; cases hc
  refine ⟨by omega, by omega, by simp; omega, ?_⟩
  rw [← h4, drop_at hc, spl_yes, seg_zero]
  simp
theorem cutI.no {l : List UInt8} {f i : Nat} {ws : List (List UInt8)} (h : cutI l f i ws) {c : UInt8} (hc : l[i]? = some c) (hn : c ≠ 32) : cutI l f (i + 1) ws := by
  obtain ⟨h1, h2, h3, h4⟩ := h
  have hi : i < l.length := by
    rcases Nat.lt_or_ge i l.length with h | h
    · exact h
    · rw [List.getElem?_eq_none h] at hc; cases hc
  refine ⟨by omega, by omega, by omega, ?_⟩
  rw [← h4, drop_at hc, spl_no _ _ hn, seg_succ h1 hc]
theorem cutI.fin {l : List UInt8} {f i : Nat} {ws : List (List UInt8)} (h : cutI l f i ws) (hi : ¬ i < l.length) : ws ++ [seg l f l.length] = spl l [] := by
  obtain ⟨h1, h2, h3, h4⟩ := h
  obtain rfl : i = l.length := by omega
  rw [← h4, List.drop_length, spl_nil]
theorem extr (l : List UInt8) (f i : Nat) : (ByteArray.mk l.toArray).extract f i = ByteArray.mk (seg l f i).toArray := by
  apply ByteArray.ext
  rw [ByteArray.data_extract]
  simp [seg]
/-- A text without a space is one word ahead of what follows. -/
theorem spl_word (x : List UInt8) : ∀ (t cur : List UInt8), (∀ c ∈ x, c ≠ 32) → spl (x ++ (32 :: t)) cur = (cur ++ x) :: spl t [] := by
  induction x with
  | nil => intro t cur _; simp [spl]
  | cons c x ih =>
    intro t cur h
    rw [List.cons_append, spl_no _ _ (h c (by simp)), ih _ _ (fun d hd => h d (by simp [hd]))]
    simp
theorem spl_last (x : List UInt8) : ∀ (cur : List UInt8), (∀ c ∈ x, c ≠ 32) → spl x cur = [cur ++ x] := by
  induction x with
  | nil => intro cur _; simp [spl]
  | cons c x ih =>
    intro cur h
    rw [spl_no _ _ (h c (by simp)), ih _ (fun d hd => h d (by simp [hd]))]
    simp
theorem dgt_ns {c : UInt8} (h : dgt c = true) : c ≠ 32 := fun e => by rw [e] at h; exact absurd h (by decide)
theorem dec_ns (n : Nat) : ∀ c ∈ decDigits n, c ≠ 32 := fun c h => dgt_ns (dec_digits n c h)
theorem two_ns {k : Nat} (h : k < 100) : ∀ c ∈ two k, c ≠ 32 := fun c hc => dgt_ns (two_digits h c hc)
theorem Dt.txt_ns {y m d : Nat} (hm : m < 100) (hd : d < 100) : ∀ c ∈ Dt.txt y m d, c ≠ 32 := by
  intro c hc
  unfold Dt.txt at hc
  simp only [List.mem_append, List.mem_cons] at hc
  rcases hc with h | rfl | h | rfl | h
  · exact dec_ns _ _ h
  · decide
  · exact two_ns hm _ h
  · decide
  · exact two_ns hd _ h
theorem Bt.rt_ns (r : Nat) : ∀ c ∈ Bt.rt r, c ≠ 32 := by
  intro c hc
  unfold Bt.rt at hc
  simp only [List.mem_append, List.mem_cons] at hc
  rcases hc with h | rfl | h
  · exact dec_ns _ _ h
  · decide
  · exact two_ns (by omega) _ h
theorem Bt.words {r m : Nat} {s e : List UInt8} (hs : ∀ c ∈ s, c ≠ 32) (he : ∀ c ∈ e, c ≠ 32) : spl (Bt.txt r s e m) [] = [Bt.rt r, s, e, decDigits m] := by
  unfold Bt.txt
  rw [spl_word _ _ _ (Bt.rt_ns r), spl_word _ _ _ hs, spl_word _ _ _ he, spl_last _ _ (dec_ns m)]
  simp
/-- The model's number of a part. -/
theorem Bt.rt_read {r : Nat} (h : r ≤ 3000) : nbr (Bt.rt r) 0 ((Bt.rt r).length - 3) 0 = ((r / 100 : Nat) : Int) ∧ nbr (Bt.rt r) ((Bt.rt r).length - 2) 2 0 = ((r % 100 : Nat) : Int) := by
  generalize hl : Bt.rt r = l
  unfold Bt.rt at hl
  rw [dec_three (n := r / 100) (by omega)] at hl
  by_cases c : r / 100 < 10
  · rw [if_pos c] at hl
    have e : l.length = 4 := by rw [← hl]; rfl
    have d0 : dat l 0 = (r / 100 : Nat) := ch_at (by rw [← hl]; rfl) (by omega)
    have d2 : dat l 2 = (r % 100 / 10 : Nat) := ch_at (by rw [← hl]; rfl) (by omega)
    have d3 : dat l 3 = (r % 100 % 10 : Nat) := ch_at (by rw [← hl]; rfl) (by omega)
    rw [e]
    refine ⟨?_, ?_⟩
    · rw [show 4 - 3 = 0 + 1 from rfl, nbr_go (by omega), nbr_zero, d0]; omega
    · rw [show 4 - 2 = 2 from rfl, nbr_go (by omega), nbr_go (i := 3) (by omega), nbr_zero, d2, d3]; omega
  · rw [if_neg c, if_pos (by omega)] at hl
    have e : l.length = 5 := by rw [← hl]; rfl
    have d0 : dat l 0 = (r / 100 / 10 : Nat) := ch_at (by rw [← hl]; rfl) (by omega)
    have d1 : dat l 1 = (r / 100 % 10 : Nat) := ch_at (by rw [← hl]; rfl) (by omega)
    have d3 : dat l 3 = (r % 100 / 10 : Nat) := ch_at (by rw [← hl]; rfl) (by omega)
    have d4 : dat l 4 = (r % 100 % 10 : Nat) := ch_at (by rw [← hl]; rfl) (by omega)
    rw [e]
    refine ⟨?_, ?_⟩
    · rw [show 5 - 3 = 0 + 1 + 1 from rfl, nbr_go (by omega), nbr_go (i := 1) (by omega), nbr_zero, d0, d1]; omega
    · rw [show 5 - 2 = 3 from rfl, nbr_go (by omega), nbr_go (i := 4) (by omega), nbr_zero, d3, d4]; omega
theorem Bt.mo_read {m : Nat} (h : m < 100) : nbr (decDigits m) 0 (decDigits m).length 0 = (m : Int) := by
  generalize hl : decDigits m = l
  rw [dec_three (by omega)] at hl
  by_cases c : m < 10
  · rw [if_pos c] at hl
    have e : l.length = 1 := by rw [← hl]; rfl
    have d0 : dat l 0 = (m : Nat) := ch_at (by rw [← hl]; rfl) (by omega)
    rw [e, nbr_go (by omega), nbr_zero, d0]; omega
  · rw [if_neg c, if_pos h] at hl
    have e : l.length = 2 := by rw [← hl]; rfl
    have d0 : dat l 0 = (m / 10 : Nat) := ch_at (by rw [← hl]; rfl) (by omega)
    have d1 : dat l 1 = (m % 10 : Nat) := ch_at (by rw [← hl]; rfl) (by omega)
    rw [e, nbr_go (by omega), nbr_go (i := 1) (by omega), nbr_zero, d0, d1]; omega
end Go.Proofs.YtapalkohfhohhaaDoor
