/- The texts of bonds, and how the program reads them. -/
import Derived.Test.YtapalkohfhohhaaDoorDt
namespace Go.Proofs.YtapalkohfhohhaaDoor
open Go.Lib
/-- The text of a rate. -/
def Bt.rt (r : Nat) : List UInt8 := decDigits (r / 100) ++ (46 :: two (r % 100))
/-- The text of a bond, from the texts of its dates. -/
def Bt.txt (r : Nat) (s e : List UInt8) (m : Nat) : List UInt8 := Bt.rt r ++ (32 :: (s ++ (32 :: (e ++ (32 :: decDigits m)))))
/-- The rate that the program's cursor reads, and the rest. -/
def Bt.rate (l : List UInt8) : Int × List UInt8 :=
  let a := rdN l 0
  let b := rdN (skp 46 a.2) 0
  (IntKind.i64.wrap (IntKind.i64.wrap (100 * a.1) + b.1), b.2)
theorem Bt.rate_txt {r : Nat} (h : r ≤ 3000) (t : List UInt8) (ht : ∀ c u, t = c :: u → dgt c = false) : Bt.rate (Bt.rt r ++ t) = ((r : Int), t) := by
  have e0 : Bt.rt r ++ t = decDigits (r / 100) ++ (46 :: (two (r % 100) ++ t)) := by unfold Bt.rt; simp
  have h1 : rdN (Bt.rt r ++ t) 0 = (((r / 100 : Nat) : Int), 46 :: (two (r % 100) ++ t)) := by
    rw [e0]
    exact rdN_dec (by omega) _ (fun c t e => by injection e with e _; rw [← e]; exact dgt46)
  have h2 : rdN (two (r % 100) ++ t) 0 = (((r % 100 : Nat) : Int), t) := rdN_two (by omega) _ ht
  unfold Bt.rate
  rw [h1]
  simp only [skp_yes]
  rw [h2]
  simp only [Prod.mk.injEq, and_true]
  rw [IntKind.wrap_i64, IntKind.wrap_i64]
  omega
/-- What the program's cursor reads of a bond: its rate, its dates, its months. -/
def Bt.read (l : List UInt8) : Int × (Int × Int × Int) × (Int × Int × Int) × Int :=
  let a := Bt.rate l
  let b := Dt.read (skp 32 a.2)
  let c := Dt.read (skp 32 b.2)
  (a.1, b.1, c.1, (rdN (skp 32 c.2) 0).1)
theorem Bt.read_txt {r m y1 m1 d1 y2 m2 d2 : Nat} (hr : r ≤ 3000) (hm : m ≤ 100) (a1 : y1 ≤ 9999) (a2 : m1 < 100) (a3 : d1 < 100) (b1 : y2 ≤ 9999) (b2 : m2 < 100) (b3 : d2 < 100) :
    Bt.read (Bt.txt r (Dt.txt y1 m1 d1) (Dt.txt y2 m2 d2) m) = ((r : Int), ((y1 : Int), (m1 : Int), (d1 : Int)), ((y2 : Int), (m2 : Int), (d2 : Int)), (m : Int)) := by
  have sp : ∀ (u : List UInt8) (c : UInt8) (t : List UInt8), 32 :: u = c :: t → dgt c = false := fun u c t e => by injection e with e _; rw [← e]; exact dgt32
  have h4 : rdN (decDigits m) 0 = ((m : Int), []) := by
    have := rdN_dec (n := m) (by omega) [] (fun c t e => by cases e)
    rwa [List.append_nil] at this
  unfold Bt.read Bt.txt
  rw [Bt.rate_txt hr _ (sp _)]
  simp only [skp_yes]
  rw [Dt.read_txt a1 a2 a3 _ (sp _)]
  simp only [skp_yes]
  rw [Dt.read_txt b1 b2 b3 _ (sp _)]
  simp only [skp_yes]
  rw [h4]
theorem Bt.rt_len {r : Nat} (h : r ≤ 3000) : 4 ≤ (Bt.rt r).length ∧ (Bt.rt r).length ≤ 5 := by
  unfold Bt.rt
  rw [dec_three (n := r / 100) (by omega)]
  simp only [List.length_append, List.length_cons]
  have : (two (r % 100)).length = 2 := rfl
  split
  · simp; omega
  · rw [if_pos (by omega)]; simp; omega
end Go.Proofs.YtapalkohfhohhaaDoor
