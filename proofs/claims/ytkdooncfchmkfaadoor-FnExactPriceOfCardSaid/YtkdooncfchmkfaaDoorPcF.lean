/- Payments that are left of a bond at a day, and their prices: mathematics. -/
import Derived.Test.YtkdooncfchmkfaaDoorLAfm
import Derived.Test.YtkdooncfchmkfaaDoorLEqM
import Derived.Test.YtkdooncfchmkfaaDoorAccA
import Derived.Test.YtkdooncfchmkfaaDoorZM
namespace Go.Proofs.YtkdooncfchmkfaaDoor
open Go.RowKit
theorem num_year {y m d : Int} (h : Cal.vld y m d) : Cal.ys y ≤ Cal.num y m d ∧ Cal.num y m d < Cal.ys (y + 1) := by
  have a := Cal.num_isDate h
  exact ⟨a.y1, a.y2⟩
theorem ys_two (y : Int) : Cal.ys (y + 2) ≤ Cal.ys y + 732 := by
  have h1 := Cal.ys_succ y
  have h2 := Cal.ys_succ (y + 1)
  have h3 := Cal.lp_01 y
  have h4 := Cal.lp_01 (y + 1)
  rw [show y + 1 + 1 = y + 2 by omega] at h2
  omega
/-- Periods aren't long. -/
theorem S_near {e m : Int} {k : Nat} (m0 : 1 ≤ m) (m1 : m ≤ 12) (hk : ((k + 1 : Nat) : Int) * m ≤ 600) (h : 0 ≤ Sc.S e m k) : Sc.S e m k - max (Sc.S e m (k + 1)) 0 ≤ 732 := by
  unfold Sc.S at *
  obtain ⟨y, mo, d, A, ea⟩ := addV_nonneg h
  have ek : ((k + 1 : Nat) : Int) * m = (k : Int) * m + m := by rw [show ((k + 1 : Nat) : Int) = (k : Int) + 1 by omega, Int.add_mul, Int.one_mul]
  have hk0 : 0 ≤ (k : Int) * m := Int.mul_nonneg (by omega) (by omega)
  rw [ek] at hk ⊢
  have v := A.v
  have t := A.t
  obtain ⟨n1, n2⟩ := num_year v
  obtain ⟨v1, v2, v3, v4, -, -⟩ := v
  rw [ea]
  by_cases c : 12 * Cal.Y e + Cal.M e - ((k : Int) * m + m) < 12 * 1990 + 1
  · have h1 := Cal.ys_mono (show y + 1 ≤ 1990 + 2 by omega)
    have h2 := ys_two 1990
    rw [Cal.ys_1990] at h2
    omega
  · obtain ⟨B, eb⟩ := added_of (n := e) (k := -((k : Int) * m + m)) (y := (12 * Cal.Y e + Cal.M e - ((k : Int) * m + m) - 1) / 12) (m := (12 * Cal.Y e + Cal.M e - ((k : Int) * m + m) - 1) % 12 + 1) A.hn0 A.hn1 (by omega) (by omega) (by omega) (by omega) (by omega) (by omega) (by omega)
    obtain ⟨q1, -⟩ := num_year B.v
    rw [eb]
    have h1 := Cal.ys_mono (show y + 1 ≤ (12 * Cal.Y e + Cal.M e - ((k : Int) * m + m) - 1) / 12 + 2 by omega)
    have h2 := ys_two ((12 * Cal.Y e + Cal.M e - ((k : Int) * m + m) - 1) / 12)
    omega
/-- What is known of a bond's i-th period. -/
theorem per_more {s e m r : Int} (h : perL s e m r ≠ []) {i : Nat} (hi : i < (perL s e m r).length) : ∃ f t : Int, ∃ z : Bool, (perL s e m r).getD i p0 = (f, t, z) ∧ 0 ≤ f ∧ f < t ∧ t ≤ 36524 ∧ t - f ≤ 732 ∧ addV t (-m) < t ∧ 0 ≤ cpnV m r f t z ∧ cpnV m r f t z ≤ 3000 ∧ (i + 1 = (perL s e m r).length → t = e) := by
  obtain ⟨⟨m0, m1⟩, ⟨r0, r1⟩, -, hpf⟩ := per_facts h
  obtain ⟨f, t, z, hg, f0, ft, t1, hA⟩ := hpf i hi
  have hr : btw r 0 3000 = true := btw_t r0 r1
  have hp : perL s e m r = Sc.sch s e m := by unfold perL; rw [if_pos hr]
  have hne := h
  rw [hp] at hne
  obtain ⟨ok, hN, hall⟩ := Sc.sch_pos hne
  have hlen : (perL s e m r).length = Sc.N s e m := by rw [hp, hall, Sc.all_len]
  obtain ⟨⟨s0, se, e1⟩, hm⟩ := Sc.okB_iff.1 ok
  have hi2 : i < Sc.N s e m := by omega
  obtain ⟨f', t', z', hg', -, -, -, ht', hf', he', hpre⟩ := Sc.all_facts ok hN hi2
  have hg2 : (perL s e m r).getD i p0 = (f', t', z') := by rw [hp, hall]; exact hg'
  have hq := Sc.all_get (s := s) (e := e) (m := m) hi2
  rw [hg'] at hq
  rw [hg] at hg2
  injection hg2 with a1 a2
  injection a2 with a2 a3
  subst a1 a2 a3
  have hPf : f = max (Sc.S e m (Sc.N s e m - i)) s := by
    have := congrArg Prod.fst hq
    exact this
  have hkm := Sc.km_bd hm (k := Sc.N s e m - i) (by omega)
  have hnr := S_near (e := e) (m := m) (k := Sc.N s e m - 1 - i) m0 m1 (by rw [show Sc.N s e m - 1 - i + 1 = Sc.N s e m - i by omega]; omega) (by rw [← ht']; omega)
  rw [show Sc.N s e m - 1 - i + 1 = Sc.N s e m - i by omega, ← ht'] at hnr
  obtain ⟨w0, w1⟩ := whole_bd m0 m1 r0 r1
  refine ⟨f, t, z, hg, f0, ft, t1, by omega, hA, (cpn_bd z m0 m1 r0 r1 f0 ft t1 hA).1, ?_, fun q => he' (by omega)⟩
  unfold cpnV
  split
  · exact w1
  · rename_i hz
    rcases Nat.eq_zero_or_pos i with c | c
    · subst c
      have ff := first_full ok hN
      rw [Nat.sub_zero] at ht'
      rw [← ht'] at ff
      have hf0 := hf' rfl
      have hfu : fullF m f t ≤ f := by unfold fullF; split <;> omega
      have := near_part (w := wholeV m r) (a := t - f) (b := t - fullF m f t) w0 (by omega) (by omega)
      omega
    · exact absurd (hpre c).1 hz
/-- The amounts that are left at a day. -/
noncomputable def Pc.am (s e m r d : Int) : List Int := (aftL (floL s e m r) d).map (·.2)
theorem Pc.am_drop {s e m r d : Int} (h : runB s e m r d = true) : aftL (floL s e m r) d = (floL s e m r).drop (runK s e m r d) := by
  obtain ⟨hk, hK, h1, h2, -⟩ := runK_facts h
  have hl := floL_len s e m r
  obtain ⟨k, k1, k2, k3, k4⟩ := aft_tail d (floL s e m r) (fun i i0 hi => flo_sorted i i0 hi)
  rw [k2]
  congr 1
  generalize runK s e m r d = K at *
  rcases Nat.lt_trichotomy k K with c | c | c
  · have a := k4 k (Nat.le_refl _) (by omega)
    rw [flo_at (by omega)] at a
    have b := hK.2 k (by omega)
    have := b.1 a
    omega
  · exact c
  · have a := k3 K c
    rw [flo_at hk] at a
    have a : ((perL s e m r).getD K p0).2.1 ≤ d := a
    omega
theorem Pc.am_len {s e m r d : Int} (h : runB s e m r d = true) : (Pc.am s e m r d).length = (perL s e m r).length - runK s e m r d := by
  unfold Pc.am
  rw [Pc.am_drop h, List.length_map, List.length_drop, floL_len]
theorem Pc.am_at {s e m r d : Int} (h : runB s e m r d = true) {i : Nat} (hi : i < (Pc.am s e m r d).length) : (Pc.am s e m r d).getD i 0 = ((floL s e m r).getD (runK s e m r d + i) f0).2 := by
  unfold Pc.am at hi ⊢
  rw [List.length_map] at hi
  rw [map_at (fun p : Flo => p.2) _ f0 0 hi, Pc.am_drop h, List.getD_eq_getElem?_getD, List.getElem?_drop, ← List.getD_eq_getElem?_getD]
theorem Pc.am_val {s e m r d : Int} (h : runB s e m r d = true) {i : Nat} (hi : i < (Pc.am s e m r d).length) : ∃ f t : Int, ∃ z : Bool, (perL s e m r).getD (runK s e m r d + i) p0 = (f, t, z) ∧ (Pc.am s e m r d).getD i 0 = cpnV m r f t z + (if i + 1 = (Pc.am s e m r d).length then 10000 else 0) ∧ 0 ≤ cpnV m r f t z ∧ cpnV m r f t z ≤ 3000 := by
  obtain ⟨hk, -⟩ := runK_facts h
  have hl := Pc.am_len h
  have hne : perL s e m r ≠ [] := fun k => by rw [k] at hk; simp at hk
  obtain ⟨f, t, z, hg, -, -, -, -, -, c0, c1, -⟩ := per_more hne (i := runK s e m r d + i) (by omega)
  refine ⟨f, t, z, hg, ?_, c0, c1⟩
  rw [Pc.am_at h hi, flo_at (by omega), hg]
  show cpnV m r f t z + _ = _
  congr 1
  by_cases c : i + 1 = (Pc.am s e m r d).length
  · rw [if_pos c, if_pos (by omega)]
  · rw [if_neg c, if_neg (by omega)]
theorem Pc.am_ok {s e m r d : Int} (h : runB s e m r d = true) : Pc.Am (Pc.am s e m r d) := by
  obtain ⟨hk, -⟩ := runK_facts h
  have hl := Pc.am_len h
  have h40 := perL_len s e m r
  refine ⟨by omega, by omega, fun i hi => ?_, ?_⟩
  · obtain ⟨f, t, z, -, e1, c0, c1⟩ := Pc.am_val h (i := i) (by omega)
    rw [e1, if_neg (by omega)]
    omega
  · obtain ⟨f, t, z, -, e1, c0, c1⟩ := Pc.am_val h (i := (Pc.am s e m r d).length - 1) (by omega)
    rw [e1, if_pos (by omega)]
    omega
/-- The period that runs. -/
noncomputable def Pc.F (s e m r d : Int) : Int := ((perL s e m r).getD (runK s e m r d) p0).1
noncomputable def Pc.T (s e m r d : Int) : Int := ((perL s e m r).getD (runK s e m r d) p0).2.1
noncomputable def Pc.Z (s e m r d : Int) : Bool := ((perL s e m r).getD (runK s e m r d) p0).2.2
theorem Pc.run {s e m r d : Int} (h : runB s e m r d = true) : (perL s e m r).getD (runK s e m r d) p0 = (Pc.F s e m r d, Pc.T s e m r d, Pc.Z s e m r d) ∧ 0 ≤ Pc.F s e m r d ∧ Pc.F s e m r d ≤ d ∧ d < Pc.T s e m r d ∧ Pc.T s e m r d ≤ 36524 ∧ Pc.T s e m r d - Pc.F s e m r d ≤ 732 := by
  obtain ⟨hk, -, h1, h2, -⟩ := runK_facts h
  have hne : perL s e m r ≠ [] := fun k => by rw [k] at hk; simp at hk
  obtain ⟨f, t, z, hg, f0, ft, t1, t2, -⟩ := per_more hne hk
  have e1 : Pc.F s e m r d = f := by unfold Pc.F; rw [hg]
  have e2 : Pc.T s e m r d = t := by unfold Pc.T; rw [hg]
  have e3 : Pc.Z s e m r d = z := by unfold Pc.Z; rw [hg]
  rw [hg] at h1 h2
  rw [e1, e2, e3]
  exact ⟨hg, f0, h1, h2, t1, t2⟩
/-- A yield's arguments, at a day. -/
theorem Pc.run_ok {s e m r d y : Int} (h : runB s e m r d = true) (y0 : 0 ≤ y) (y1 : y ≤ 100000) : Pc.ok y (d - Pc.F s e m r d) (Pc.T s e m r d - Pc.F s e m r d) = true := by
  obtain ⟨-, f0, h1, h2, t1, t2⟩ := Pc.run h
  exact Pc.ok_iff.2 ⟨⟨y0, y1⟩, ⟨by omega, by omega⟩, by omega, by omega⟩
/-- The price of a bond. -/
noncomputable def Pc.pr (s e m r d y : Int) : Int × Int := if runB s e m r d = true ∧ btw y 0 100000 = true then Pc.val y (d - Pc.F s e m r d) (Pc.T s e m r d - Pc.F s e m r d) (Pc.am s e m r d) else (0, 0)
theorem Pc.pr_yes {s e m r d y : Int} (h : runB s e m r d = true) (hy : btw y 0 100000 = true) : Pc.pr s e m r d y = Pc.val y (d - Pc.F s e m r d) (Pc.T s e m r d - Pc.F s e m r d) (Pc.am s e m r d) := if_pos ⟨h, hy⟩
theorem Pc.pr_no1 {s e m r d y : Int} (h : runB s e m r d = false) : Pc.pr s e m r d y = (0, 0) := if_neg (by rw [h]; simp)
theorem Pc.pr_no2 {s e m r d y : Int} (hy : btw y 0 100000 = false) : Pc.pr s e m r d y = (0, 0) := if_neg (by rw [hy]; simp)
end Go.Proofs.YtkdooncfchmkfaaDoor
