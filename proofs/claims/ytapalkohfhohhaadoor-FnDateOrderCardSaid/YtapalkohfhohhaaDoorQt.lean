/- The texts of prices in 64ths, and how they are read, by the program and by the model. -/
import Derived.Test.YtapalkohfhohhaaDoorTx
namespace Go.Proofs.YtapalkohfhohhaaDoor
open Go.Lib
/-- The text of a price in 64ths. -/
def Qt.txt (n : Nat) : List UInt8 := decDigits (n / 64) ++ (45 :: (two (n % 64 / 2) ++ (if n % 2 = 1 then [43] else [])))
theorem dgt45 : dgt 45 = false := by decide
theorem dgt43 : dgt 43 = false := by decide
theorem dgt46 : dgt 46 = false := by decide
theorem dgt32 : dgt 32 = false := by decide
/-- The price that the program's cursor reads, whatever the text. -/
def Qt.read (l : List UInt8) : Int :=
  let a := rdN l 0
  let b := rdN (skp 45 a.2) 0
  let n := IntKind.i64.wrap (IntKind.i64.wrap (64 * a.1) + IntKind.i64.wrap (2 * b.1))
  if hasPrefix b.2 [43] then IntKind.i64.wrap (n + 1) else n
theorem Qt.read_txt {n : Nat} (hn : n ≤ 19200) : Qt.read (Qt.txt n) = n := by
  have h1 : rdN (Qt.txt n) 0 = (((n / 64 : Nat) : Int), 45 :: (two (n % 64 / 2) ++ (if n % 2 = 1 then [43] else []))) :=
    rdN_dec (by omega) _ (fun c t e => by injection e with e _; rw [← e]; exact dgt45)
  have h2 : rdN (two (n % 64 / 2) ++ (if n % 2 = 1 then [43] else [])) 0 = (((n % 64 / 2 : Nat) : Int), if n % 2 = 1 then [43] else []) :=
    rdN_two (by omega) _ (fun c t e => by
      split at e
      · injection e with e _; rw [← e]; exact dgt43
      · cases e)
  unfold Qt.read
  rw [h1]
  simp only [skp_yes]
  rw [h2]
  simp only
  rw [IntWalk.i64_in (64 * _) (by omega), IntWalk.i64_in (2 * _) (by omega), IntWalk.i64_in (64 * ((n / 64 : Nat) : Int) + 2 * ((n % 64 / 2 : Nat) : Int)) (by omega)]
  by_cases h : n % 2 = 1
  · rw [if_pos h, if_pos (by rfl), IntWalk.i64_in _ (by omega)]
    omega
  · rw [if_neg h, if_neg (by simp [hasPrefix])]
    omega
/-- The digit at a place, -1 if there is none. -/
def dat (l : List UInt8) (k : Nat) : Int := match l[k]? with | some c => if dgt c then dgv c else -1 | none => -1
theorem dat_at {l : List UInt8} {k : Nat} {c : UInt8} (h : l[k]? = some c) (hd : dgt c = true) : dat l k = dgv c := by unfold dat; rw [h]; simp [hd]
theorem dat_no {l : List UInt8} {k : Nat} {c : UInt8} (h : l[k]? = some c) (hd : dgt c = false) : dat l k = -1 := by unfold dat; rw [h]; simp [hd]
theorem dat_end {l : List UInt8} {k : Nat} (h : l.length ≤ k) : dat l k = -1 := by unfold dat; rw [List.getElem?_eq_none h]
theorem dat_bd (l : List UInt8) (k : Nat) : -1 ≤ dat l k ∧ dat l k ≤ 9 := by
  unfold dat
  split
  · split
    · rename_i c _ h
      have := dgt_iff.1 h
      unfold dgv
      omega
    · omega
  · omega
/-- The model's loop over the first digits: at most four. -/
def rd4 (l : List UInt8) : Nat → Int → Nat → Int × Nat
  | 0, a, k => (a, k)
  | f + 1, a, k => if k < 4 ∧ 0 ≤ dat l k then rd4 l f (10 * a + dat l k) (k + 1) else (a, k)
/-- What the model reads. -/
def Qt.sread (l : List UInt8) : Int :=
  let p := rd4 l 4 0 0
  if dat l (p.2 + 1) < 0 ∨ dat l (p.2 + 2) < 0 then -1 else 64 * p.1 + 2 * (10 * dat l (p.2 + 1) + dat l (p.2 + 2)) + (if l.length = p.2 + 4 then 1 else 0)
/-- A price, if its text is this one. -/
def Qt.val (f : List UInt8 → Int) (l : List UInt8) : Int := if 0 ≤ f l ∧ f l ≤ 19200 ∧ Qt.txt (f l).toNat = l then f l else -1
theorem Qt.val_same {f g : List UInt8 → Int} (hf : ∀ n : Nat, n ≤ 19200 → f (Qt.txt n) = n) (hg : ∀ n : Nat, n ≤ 19200 → g (Qt.txt n) = n) (l : List UInt8) : Qt.val f l = Qt.val g l := by
  unfold Qt.val
  by_cases h1 : 0 ≤ f l ∧ f l ≤ 19200 ∧ Qt.txt (f l).toNat = l
  · have e := hg (f l).toNat (by omega)
    rw [h1.2.2] at e
    have e2 : g l = f l := by omega
    rw [if_pos h1, if_pos (by rw [e2]; exact h1), e2]
  · by_cases h2 : 0 ≤ g l ∧ g l ≤ 19200 ∧ Qt.txt (g l).toNat = l
    · have e := hf (g l).toNat (by omega)
      rw [h2.2.2] at e
      have e2 : f l = g l := by omega
      exact absurd (by rw [e2]; exact h2) h1
    · rw [if_neg h1, if_neg h2]
theorem dec_three {n : Nat} (h : n < 1000) : decDigits n = (if n < 10 then [ch n] else if n < 100 then [ch (n / 10), ch (n % 10)] else [ch (n / 100), ch (n / 10 % 10), ch (n % 10)]) := by
  by_cases h1 : n < 10
  · rw [if_pos h1, decDigits_one h1]; rfl
  · by_cases h2 : n < 100
    · rw [if_neg h1, if_pos h2, decDigits_two h1 h2]; rfl
    · rw [if_neg h1, if_neg h2, decDigits, dif_neg h1, decDigits_two (by omega) (by omega), show n / 10 / 10 = n / 100 by omega]
      rfl
theorem rd4_go {l : List UInt8} {f : Nat} {a : Int} {k : Nat} (h : k < 4 ∧ 0 ≤ dat l k) : rd4 l (f + 1) a k = rd4 l f (10 * a + dat l k) (k + 1) := by simp [rd4, h]
theorem rd4_stop {l : List UInt8} {f : Nat} {a : Int} {k : Nat} (h : ¬ (k < 4 ∧ 0 ≤ dat l k)) : rd4 l (f + 1) a k = (a, k) := by simp only [rd4]; rw [if_neg h]
theorem ch_at {l : List UInt8} {k d : Nat} (h : l[k]? = some (ch d)) (hd : d < 10) : dat l k = d := by rw [dat_at h (ch_dgt hd), ch_val hd]
theorem Qt.sread_txt {n : Nat} (hn : n ≤ 19200) : Qt.sread (Qt.txt n) = n := by
  have hq : n / 64 < 1000 := by omega
  have two0 : two (n % 64 / 2) = [ch (n % 64 / 2 / 10), ch (n % 64 / 2 % 10)] := rfl
  unfold Qt.sread
  generalize hl : Qt.txt n = l
  unfold Qt.txt at hl
  rw [dec_three hq, two0] at hl
  by_cases h1 : n / 64 < 10
  · rw [if_pos h1] at hl
    simp only [List.cons_append, List.nil_append] at hl
    have d0 : dat l 0 = (n / 64 : Nat) := ch_at (by rw [← hl]; rfl) h1
    have d1 : dat l 1 = -1 := dat_no (c := 45) (by rw [← hl]; rfl) dgt45
    have d2 : dat l 2 = (n % 64 / 2 / 10 : Nat) := ch_at (by rw [← hl]; rfl) (by omega)
    have d3 : dat l 3 = (n % 64 / 2 % 10 : Nat) := ch_at (by rw [← hl]; rfl) (by omega)
    have hlen : l.length = 4 + (if n % 2 = 1 then 1 else 0) := by rw [← hl]; simp; split <;> simp
    have e : rd4 l 4 0 0 = (((n / 64 : Nat) : Int), 1) := by
      rw [rd4_go ⟨by omega, by omega⟩, rd4_stop (by show ¬ (1 < 4 ∧ 0 ≤ dat l 1); omega), d0]
      simp
    rw [e]
    simp only [Nat.reduceAdd, d2, d3]
    rw [if_neg (by omega), hlen]
    split <;> split <;> omega
  · rw [if_neg h1] at hl
    by_cases h2 : n / 64 < 100
    · rw [if_pos h2] at hl
      simp only [List.cons_append, List.nil_append] at hl
      have d0 : dat l 0 = (n / 64 / 10 : Nat) := ch_at (by rw [← hl]; rfl) (by omega)
      have d1 : dat l 1 = (n / 64 % 10 : Nat) := ch_at (by rw [← hl]; rfl) (by omega)
      have d2 : dat l 2 = -1 := dat_no (c := 45) (by rw [← hl]; rfl) dgt45
      have d3 : dat l 3 = (n % 64 / 2 / 10 : Nat) := ch_at (by rw [← hl]; rfl) (by omega)
      have d4 : dat l 4 = (n % 64 / 2 % 10 : Nat) := ch_at (by rw [← hl]; rfl) (by omega)
      have hlen : l.length = 5 + (if n % 2 = 1 then 1 else 0) := by rw [← hl]; simp; split <;> simp
      have e : rd4 l 4 0 0 = (((n / 64 : Nat) : Int), 2) := by
        rw [rd4_go ⟨by omega, by omega⟩, rd4_go ⟨by omega, by show 0 ≤ dat l 1; omega⟩, rd4_stop (by show ¬ (2 < 4 ∧ 0 ≤ dat l 2); omega)]
        show ((10 * (10 * 0 + dat l 0) + dat l 1 : Int), 2) = _
        rw [d0, d1]
        simp only [Prod.mk.injEq, and_true]
        omega
      rw [e]
      simp only [Nat.reduceAdd, d3, d4]
      rw [if_neg (by omega), hlen]
      split <;> split <;> omega
    · rw [if_neg h2] at hl
      simp only [List.cons_append, List.nil_append] at hl
      have d0 : dat l 0 = (n / 64 / 100 : Nat) := ch_at (by rw [← hl]; rfl) (by omega)
      have d1 : dat l 1 = (n / 64 / 10 % 10 : Nat) := ch_at (by rw [← hl]; rfl) (by omega)
      have d2 : dat l 2 = (n / 64 % 10 : Nat) := ch_at (by rw [← hl]; rfl) (by omega)
      have d3 : dat l 3 = -1 := dat_no (c := 45) (by rw [← hl]; rfl) dgt45
      have d4 : dat l 4 = (n % 64 / 2 / 10 : Nat) := ch_at (by rw [← hl]; rfl) (by omega)
      have d5 : dat l 5 = (n % 64 / 2 % 10 : Nat) := ch_at (by rw [← hl]; rfl) (by omega)
      have hlen : l.length = 6 + (if n % 2 = 1 then 1 else 0) := by rw [← hl]; simp; split <;> simp
      have e : rd4 l 4 0 0 = (((n / 64 : Nat) : Int), 3) := by
        rw [rd4_go ⟨by omega, by omega⟩, rd4_go ⟨by omega, by show 0 ≤ dat l 1; omega⟩, rd4_go ⟨by omega, by show 0 ≤ dat l 2; omega⟩, rd4_stop (by show ¬ (3 < 4 ∧ 0 ≤ dat l 3); omega)]
        show ((10 * (10 * (10 * 0 + dat l 0) + dat l 1) + dat l 2 : Int), 3) = _
        rw [d0, d1, d2]
        simp only [Prod.mk.injEq, and_true]
        omega
      rw [e]
      simp only [Nat.reduceAdd, d4, d5]
      rw [if_neg (by omega), hlen]
      split <;> split <;> omega
theorem Qt.txt_len {n : Nat} (hn : n ≤ 19200) : 4 ≤ (Qt.txt n).length ∧ (Qt.txt n).length ≤ 7 := by
  unfold Qt.txt
  rw [dec_three (by omega)]
  simp only [List.length_append, List.length_cons, two]
  repeat' split
  all_goals simp
theorem Qt.val_txt {n : Nat} (hn : n ≤ 19200) : Qt.val Qt.read (Qt.txt n) = n := by
  unfold Qt.val
  rw [Qt.read_txt hn, if_pos ⟨by omega, by omega, by simp⟩]
theorem Qt.val_both (l : List UInt8) : Qt.val Qt.sread l = Qt.val Qt.read l := Qt.val_same (fun _ h => Qt.sread_txt h) (fun _ h => Qt.read_txt h) l
end Go.Proofs.YtapalkohfhohhaaDoor
