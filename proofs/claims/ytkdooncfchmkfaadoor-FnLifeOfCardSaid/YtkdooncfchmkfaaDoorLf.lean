/- The mean number of days to payments: mathematics, both sides. -/
import Derived.Test.YtkdooncfchmkfaaDoorPcF
import Derived.Test.YtkdooncfchmkfaaDoorPay
import Derived.Test.YtkdooncfchmkfaaDoorAccB
namespace Go.Proofs.YtkdooncfchmkfaaDoor
open Go.RowKit
/-- Amounts times days, and amounts, of the first k payments. -/
def Lf.n (fs : List Flo) (d : Int) : Nat → Int
  | 0 => 0
  | k + 1 => Lf.n fs d k + (fs.getD k f0).2 * ((fs.getD k f0).1 - d)
def Lf.a (fs : List Flo) : Nat → Int
  | 0 => 0
  | k + 1 => Lf.a fs k + (fs.getD k f0).2
/-- Payments behind a day. -/
structure Lf.Ok (fs : List Flo) (d lo hi : Int) : Prop where
  n1 : 1 ≤ fs.length
  n40 : fs.length ≤ 40
  d0 : 0 ≤ d
  each : ∀ i, i < fs.length → d < (fs.getD i f0).1 ∧ lo ≤ (fs.getD i f0).1 ∧ (fs.getD i f0).1 ≤ hi ∧ 0 ≤ (fs.getD i f0).2 ∧ (fs.getD i f0).2 ≤ 13000
  last : 10000 ≤ (fs.getD (fs.length - 1) f0).2
  hi1 : hi ≤ 36524
theorem Lf.bd {fs : List Flo} {d lo hi : Int} (h : Lf.Ok fs d lo hi) : ∀ k : Nat, k ≤ fs.length → (0 ≤ Lf.n fs d k ∧ Lf.n fs d k ≤ k * 474812000) ∧ (0 ≤ Lf.a fs k ∧ Lf.a fs k ≤ k * 13000) ∧ (lo - d) * Lf.a fs k ≤ Lf.n fs d k ∧ Lf.n fs d k ≤ (hi - d) * Lf.a fs k
  | 0, _ => by unfold Lf.n Lf.a; omega
  | k + 1, hk => by
    obtain ⟨⟨a0, a1⟩, ⟨b0, b1⟩, c0, c1⟩ := Lf.bd h k (by omega)
    obtain ⟨e0, e1, e2, e3, e4⟩ := h.each k (by omega)
    have hd := h.d0
    have hh := h.hi1
    unfold Lf.n Lf.a
    generalize (fs.getD k f0).1 = t at *
    generalize (fs.getD k f0).2 = a at *
    have m0 : 0 ≤ a * (t - d) := Int.mul_nonneg e3 (by omega)
    have m1 : a * (t - d) ≤ 13000 * 36524 := Int.mul_le_mul e4 (by omega) (by omega) (by decide)
    have m2 : a * (lo - d) ≤ a * (t - d) := Int.mul_le_mul_of_nonneg_left (by omega) e3
    have m3 : a * (t - d) ≤ a * (hi - d) := Int.mul_le_mul_of_nonneg_left (by omega) e3
    rw [Int.mul_add, Int.mul_add, Int.mul_comm (lo - d) a, Int.mul_comm (hi - d) a]
    omega
theorem Lf.term {fs : List Flo} {d lo hi : Int} (h : Lf.Ok fs d lo hi) {k : Nat} (hk : k < fs.length) : 0 ≤ (fs.getD k f0).2 * ((fs.getD k f0).1 - d) ∧ (fs.getD k f0).2 * ((fs.getD k f0).1 - d) ≤ 474812000 := by
  obtain ⟨e0, e1, e2, e3, e4⟩ := h.each k hk
  have hd := h.d0
  have hh := h.hi1
  have m0 : 0 ≤ (fs.getD k f0).2 * ((fs.getD k f0).1 - d) := Int.mul_nonneg e3 (by omega)
  have m1 : (fs.getD k f0).2 * ((fs.getD k f0).1 - d) ≤ 13000 * 36524 := Int.mul_le_mul e4 (by omega) (by omega) (by decide)
  omega
theorem Lf.pos {fs : List Flo} {d lo hi : Int} (h : Lf.Ok fs d lo hi) : 10000 ≤ Lf.a fs fs.length := by
  have h1 := h.n1
  obtain ⟨m, hm⟩ : ∃ m, fs.length = m + 1 := ⟨fs.length - 1, by omega⟩
  have hl := h.last
  obtain ⟨-, ⟨b0, -⟩, -⟩ := Lf.bd h m (by omega)
  rw [hm, Nat.add_sub_cancel] at hl
  rw [hm]
  show 10000 ≤ Lf.a fs m + (fs.getD m f0).2
  omega
/-- The mean. -/
def Lf.mean (fs : List Flo) (d : Int) : Int := Lf.n fs d fs.length / Lf.a fs fs.length
theorem Lf.between {fs : List Flo} {d lo hi : Int} (h : Lf.Ok fs d lo hi) : lo - d ≤ Lf.mean fs d ∧ Lf.mean fs d ≤ hi - d := by
  obtain ⟨-, -, c0, c1⟩ := Lf.bd h fs.length (Nat.le_refl _)
  have hp := Lf.pos h
  unfold Lf.mean
  refine ⟨(Int.le_ediv_iff_mul_le (by omega)).2 c0, ?_⟩
  have : Lf.n fs d fs.length / Lf.a fs fs.length < hi - d + 1 := Int.ediv_lt_of_lt_mul (by omega) (by rw [Int.add_mul]; omega)
  omega
/-- The payments of a bond that are left at a day. -/
theorem Lf.ok {s e m r d : Int} (h : runB s e m r d = true) : Lf.Ok (aftL (floL s e m r) d) d ((aftL (floL s e m r) d).getD 0 f0).1 e := by
  have ha := Pc.am_ok h
  have hl : (Pc.am s e m r d).length = (aftL (floL s e m r) d).length := by unfold Pc.am; rw [List.length_map]
  have hv : ∀ i, i < (aftL (floL s e m r) d).length → (Pc.am s e m r d).getD i 0 = ((aftL (floL s e m r) d).getD i f0).2 := fun i hi => by
    unfold Pc.am
    exact map_at (fun p : Flo => p.2) _ f0 0 hi
  obtain ⟨-, q0, q1, q2, -⟩ := Pc.run h
  obtain ⟨-, h1, h2⟩ := runB_iff.1 h
  obtain ⟨hk, hK, -⟩ := runK_facts h
  have hfl := floL_len s e m r
  have hlen := Pc.am_len h
  have hpt : ∀ i, i < (aftL (floL s e m r) d).length → (aftL (floL s e m r) d).getD i f0 = (floL s e m r).getD (runK s e m r d + i) f0 := fun i hi => by
    rw [Pc.am_drop h, List.getD_eq_getElem?_getD, List.getElem?_drop, ← List.getD_eq_getElem?_getD]
  have hup : ∀ j, runK s e m r d + j < (floL s e m r).length → ((floL s e m r).getD (runK s e m r d) f0).1 ≤ ((floL s e m r).getD (runK s e m r d + j) f0).1 := by
    intro j
    induction j with
    | zero => intro _; exact Int.le_refl _
    | succ j ih =>
      intro hj
      have a := ih (by omega)
      have b := flo_sorted (s := s) (e := e) (m := m) (r := r) (runK s e m r d + (j + 1)) (by omega) hj
      rw [show runK s e m r d + (j + 1) - 1 = runK s e m r d + j by omega] at b
      omega
  have hne : perL s e m r ≠ [] := fun k => by rw [k] at hk; simp at hk
  have he : e ≤ 36524 := by
    obtain ⟨f, t, z, -, -, -, t1, -, -, -, -, te⟩ := per_more hne (i := (perL s e m r).length - 1) (by omega)
    have := te (by omega)
    omega
  refine ⟨by have := ha.n1; omega, by have := ha.n40; omega, by omega, fun i hi => ?_, ?_, he⟩
  · obtain ⟨a0, a1⟩ := ha.bd (i := i) (by omega)
    rw [hv i hi] at a0 a1
    rw [hpt i hi] at a0 a1 ⊢
    rw [hpt 0 (by omega), Nat.add_zero]
    have hd : d < ((floL s e m r).getD (runK s e m r d + i) f0).1 := by
      rw [flo_at (by omega)]
      exact (hK.2 (runK s e m r d + i) (by omega)).2 (by omega)
    have hee := flo_ge (s := s) (e := e) (m := m) (r := r) ((floL s e m r).length - 1 - (runK s e m r d + i)) (by omega)
    rw [show (floL s e m r).length - 1 - ((floL s e m r).length - 1 - (runK s e m r d + i)) = runK s e m r d + i by omega] at hee
    exact ⟨hd, hup i (by omega), hee, a0, a1⟩
  · have := ha.last.1
    rw [hl, hv _ (by have := ha.n1; omega)] at this
    exact this
noncomputable def Lf.val (s e m r d : Int) : Int := if runB s e m r d = true then Lf.mean (aftL (floL s e m r) d) d else -1
theorem Lf.yes {s e m r d : Int} (h : runB s e m r d = true) : Lf.val s e m r d = Lf.mean (aftL (floL s e m r) d) d := if_pos h
theorem Lf.no {s e m r d : Int} (h : runB s e m r d = false) : Lf.val s e m r d = -1 := if_neg (by rw [h]; simp)
theorem Lf.val_bd {s e m r d : Int} (h : runB s e m r d = true) : ((aftL (floL s e m r) d).getD 0 f0).1 - d ≤ Lf.val s e m r d ∧ Lf.val s e m r d ≤ e - d ∧ 0 ≤ Lf.val s e m r d := by
  have ok := Lf.ok h
  obtain ⟨h1, h2⟩ := Lf.between ok
  have := (ok.each 0 ok.n1).1
  rw [Lf.yes h]
  omega
theorem Lf.run0 {s e m r d : Int} (h : runB s e m r d = true) : runB s e m 0 d = true := by
  obtain ⟨h0, h1, h2⟩ := runB_iff.1 h
  have hne : perL s e m r ≠ [] := fun k => by rw [k] at h0; simp at h0
  obtain ⟨-, ⟨r0, r1⟩, -⟩ := per_facts hne
  exact runB_iff.2 ⟨by rw [perL_rate (r' := r) (by decide) (btw_t r0 r1)]; exact h0, h1, h2⟩
/-- Without coupons. -/
theorem Lf.val_zero {s e m r d : Int} (h : runB s e m r d = true) : Lf.val s e m 0 d = e - d := by
  have h' := Lf.run0 h
  have ok := Lf.ok h'
  rw [Lf.yes h']
  have hl : (Pc.am s e m 0 d).length = (aftL (floL s e m 0) d).length := by unfold Pc.am; rw [List.length_map]
  obtain ⟨hk, -⟩ := runK_facts h'
  have hne : perL s e m 0 ≠ [] := fun k => by rw [k] at hk; simp at hk
  have hz : ∀ i, i < (aftL (floL s e m 0) d).length → ((aftL (floL s e m 0) d).getD i f0).2 = if i + 1 = (aftL (floL s e m 0) d).length then 10000 else 0 := fun i hi => by
    obtain ⟨f, t, z, hg, hv, -, -⟩ := Pc.am_val h' (i := i) (by omega)
    have hi2 : runK s e m 0 d + i < (perL s e m 0).length := by have := Pc.am_len h'; omega
    obtain ⟨f', t', z', hg', f0', ft', t1', -, hA', -, -, -⟩ := per_more hne hi2
    rw [hg] at hg'
    injection hg' with a1 a2
    injection a2 with a2 a3
    subst a1 a2 a3
    rw [cpn_0 z ft' hA', hl, Int.zero_add] at hv
    rw [← hv]
    unfold Pc.am
    exact (map_at (fun p : Flo => p.2) _ f0 0 hi).symm
  have hlast : ((aftL (floL s e m 0) d).getD ((aftL (floL s e m 0) d).length - 1) f0).1 = e := by
    have h1 := ok.n1
    have hfl := floL_len s e m 0
    have hlen := Pc.am_len h'
    rw [Pc.am_drop h', List.getD_eq_getElem?_getD, List.getElem?_drop, ← List.getD_eq_getElem?_getD, List.length_drop]
    rw [show runK s e m 0 d + ((floL s e m 0).length - runK s e m 0 d - 1) = (floL s e m 0).length - 1 by omega]
    exact (flo_order (s := s) (e := e) (m := m) (r := 0) _ rfl (by omega)).2.1
  have h1 := ok.n1
  generalize aftL (floL s e m 0) d = fs at *
  obtain ⟨k, hk'⟩ : ∃ k, fs.length = k + 1 := ⟨fs.length - 1, by omega⟩
  have z1 : ∀ i, i ≤ k → Lf.n fs d i = 0 ∧ Lf.a fs i = 0 := by
    intro i
    induction i with
    | zero => intro _; exact ⟨rfl, rfl⟩
    | succ i ih =>
      intro hi
      obtain ⟨q1, q2⟩ := ih (by omega)
      have := hz i (by omega)
      rw [if_neg (by omega)] at this
      show Lf.n fs d i + (fs.getD i f0).2 * ((fs.getD i f0).1 - d) = 0 ∧ Lf.a fs i + (fs.getD i f0).2 = 0
      rw [this, q1, q2]
      omega
  obtain ⟨q1, q2⟩ := z1 k (Nat.le_refl _)
  have hk2 := hz k (by omega)
  rw [if_pos (by omega)] at hk2
  rw [hk', Nat.add_sub_cancel] at hlast
  unfold Lf.mean
  rw [hk']
  show (Lf.n fs d k + (fs.getD k f0).2 * ((fs.getD k f0).1 - d)) / (Lf.a fs k + (fs.getD k f0).2) = e - d
  rw [q1, q2, hk2, hlast]
  omega
end Go.Proofs.YtkdooncfchmkfaaDoor
