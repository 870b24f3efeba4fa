/- What holders get when a bond pays: mathematics. -/
import Derived.Test.YtbihadelhknlnaaDoorLFlow
import Derived.Test.YtbihadelhknlnaaDoorZB
import Derived.Test.YtbihadelhknlnaaDoorZD
namespace Go.Proofs.YtbihadelhknlnaaDoor
open Go.RowKit
/-- The amount of the first payment on a day. -/
def Cp.pay (d : Int) : List Flo → Int
  | [] => 0
  | f :: fs => if f.1 = d then f.2 else Cp.pay d fs
def Cp.one (d : Int) (f : Flo) : Int := if f.1 = d then f.2 else 0
def Cp.sum (d : Int) (fs : List Flo) : Int := (fs.map (Cp.one d)).sum
theorem Cp.hit (d : Int) : ∀ (fs : List Flo) (k : Nat), k < fs.length → (∀ j, j < k → (fs.getD j f0).1 ≠ d) → (fs.getD k f0).1 = d → Cp.pay d fs = (fs.getD k f0).2
  | [], k, hk, _, _ => by simp at hk
  | f :: fs, 0, _, _, h => if_pos h
  | f :: fs, k + 1, hk, hj, h => by
    have h0 : f.1 ≠ d := hj 0 (by omega)
    show (if f.1 = d then f.2 else Cp.pay d fs) = _
    rw [if_neg h0]
    exact Cp.hit d fs k (by simpa using hk) (fun j hjk => hj (j + 1) (by omega)) h
theorem Cp.miss (d : Int) : ∀ fs : List Flo, (∀ j, j < fs.length → (fs.getD j f0).1 ≠ d) → Cp.pay d fs = 0 ∧ Cp.sum d fs = 0
  | [], _ => ⟨rfl, rfl⟩
  | f :: fs, h => by
    have h0 : f.1 ≠ d := h 0 (by simp)
    obtain ⟨i1, i2⟩ := Cp.miss d fs (fun j hj => h (j + 1) (by simpa using hj))
    refine ⟨?_, ?_⟩
    · show (if f.1 = d then f.2 else Cp.pay d fs) = 0
      rw [if_neg h0, i1]
    · unfold Cp.sum at i2 ⊢
      rw [List.map_cons, List.sum_cons, i2]
      unfold Cp.one
      rw [if_neg h0]; rfl
/-- Where no two payments have the same day, the sum over the day is the payment. -/
theorem Cp.sum_pay (d : Int) : ∀ fs : List Flo, (∀ i j, i < j → j < fs.length → (fs.getD i f0).1 ≠ (fs.getD j f0).1) → Cp.sum d fs = Cp.pay d fs
  | [], _ => rfl
  | f :: fs, h => by
    show Cp.sum d (f :: fs) = (if f.1 = d then f.2 else Cp.pay d fs)
    unfold Cp.sum
    rw [List.map_cons, List.sum_cons]
    unfold Cp.one
    by_cases c : f.1 = d
    · rw [if_pos c, if_pos c]
      have := (Cp.miss d fs (fun j hj e => h 0 (j + 1) (by omega) (by simpa using hj) (by show f.1 = (fs.getD j f0).1; omega))).2
      unfold Cp.sum Cp.one at this
      omega
    · rw [if_neg c, if_neg c]
      have := Cp.sum_pay d fs (fun i j hij hj => h (i + 1) (j + 1) (by omega) (by simpa using hj))
      unfold Cp.sum Cp.one at this
      omega
theorem Cp.snocF {fs : List Flo} {k : Nat} (hk : k < fs.length) : fs.take (k + 1) = fs.take k ++ [fs.getD k f0] := by
  rw [List.take_succ_eq_append_getElem hk, List.getD_eq_getElem?_getD, List.getElem?_eq_getElem hk]; rfl
theorem Cp.sum_take {d : Int} {fs : List Flo} {k : Nat} (hk : k < fs.length) : Cp.sum d (fs.take (k + 1)) = Cp.sum d (fs.take k) + Cp.one d (fs.getD k f0) := by
  rw [Cp.snocF hk]; unfold Cp.sum; simp
theorem Cp.sum_bd {d : Int} {fs : List Flo} (h : ∀ i, i < fs.length → 0 ≤ (fs.getD i f0).2 ∧ (fs.getD i f0).2 ≤ 130000000) : ∀ k : Nat, k ≤ fs.length → 0 ≤ Cp.sum d (fs.take k) ∧ Cp.sum d (fs.take k) ≤ 130000000 * (k : Int)
  | 0, _ => by simp [Cp.sum]
  | k + 1, hk => by
    have ih := Cp.sum_bd (d := d) h k (by omega)
    have ho := h k (by omega)
    rw [Cp.sum_take (by omega)]
    unfold Cp.one
    split <;> omega
theorem Cp.pay_bd {d : Int} : ∀ fs : List Flo, (∀ i, i < fs.length → 0 ≤ (fs.getD i f0).2 ∧ (fs.getD i f0).2 ≤ 130000000) → 0 ≤ Cp.pay d fs ∧ Cp.pay d fs ≤ 130000000
  | [], _ => by simp [Cp.pay]
  | f :: fs, h => by
    have h0 := h 0 (by simp)
    have ih := Cp.pay_bd (d := d) fs (fun i hi => h (i + 1) (by simpa using hi))
    show 0 ≤ (if f.1 = d then f.2 else Cp.pay d fs) ∧ (if f.1 = d then f.2 else Cp.pay d fs) ≤ 130000000
    have h1 : 0 ≤ f.2 ∧ f.2 ≤ 130000000 := h0
    split <;> omega
theorem flo_lt {s e m r : Int} : ∀ (k i : Nat), i + (k + 1) < (floL s e m r).length → ((floL s e m r).getD i f0).1 < ((floL s e m r).getD (i + (k + 1)) f0).1
  | 0, i, h => (flo_order (s := s) (e := e) (m := m) (r := r) _ rfl (by omega)).1 (i + 1) (by omega) h
  | k + 1, i, h => by
    have h1 := flo_lt (s := s) (e := e) (m := m) (r := r) k i (by omega)
    have h2 := (flo_order (s := s) (e := e) (m := m) (r := r) _ rfl (by omega)).1 (i + (k + 1) + 1) (by omega) h
    simp only [Nat.add_sub_cancel] at h2
    have e1 : i + (k + 1 + 1) = i + (k + 1) + 1 := by omega
    rw [e1]
    omega
theorem flo_ne {s e m r : Int} (i j : Nat) (hij : i < j) (hj : j < (floL s e m r).length) : ((floL s e m r).getD i f0).1 ≠ ((floL s e m r).getD j f0).1 := by
  have h := flo_lt (s := s) (e := e) (m := m) (r := r) (j - i - 1) i (by omega)
  rw [show i + (j - i - 1 + 1) = j by omega] at h
  omega
noncomputable def Cp.P (s e m r d : Int) : Int := Cp.pay d (floL s e m r)
theorem Cp.P_sum (s e m r d : Int) : Cp.sum d (floL s e m r) = Cp.P s e m r d := Cp.sum_pay d _ flo_ne
theorem Cp.P_bd (s e m r d : Int) : 0 ≤ Cp.P s e m r d ∧ Cp.P s e m r d ≤ 130000000 := Cp.pay_bd _ fun _ hi => flo_bd s e m r hi
noncomputable def Cp.val (s e m r : Int) (hs : List Int) (d : Int) : List Int := if vbB s e m r = true ∧ Ho.ok hs = true then hs.map (· * Cp.P s e m r d) else []
end Go.Proofs.YtbihadelhknlnaaDoor
