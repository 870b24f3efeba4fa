/- Plain mathematics of adding months. -/
import Derived.Test.YtkdooncfchmkfaaDoorDate2
namespace Go.Proofs.YtkdooncfchmkfaaDoor
theorem next_date {n : Int} (h0 : 0 ≤ n) (h1 : n < 36524) :
    (Cal.Y (n + 1) = Cal.Y n ∧ Cal.M (n + 1) = Cal.M n ∧ Cal.D (n + 1) = Cal.D n + 1) ∨
    (12 * Cal.Y (n + 1) + Cal.M (n + 1) = 12 * Cal.Y n + Cal.M n + 1 ∧ Cal.D (n + 1) = 1 ∧ Cal.D n = Cal.dm (Cal.Y n) (Cal.M n)) := by
  have a := Cal.isDate (n := n) h0 (by omega)
  have hv := Cal.vld_dt (n := n) h0 (by omega)
  obtain ⟨v1, v2, v3, v4, v5, v6⟩ := hv
  have hms := Cal.ms_succ (Cal.Y n) v3 v4
  have hys := Cal.ys_succ (Cal.Y n)
  have a1 := a.y1; have a2 := a.y2; have a5 := a.d1; have a6 := a.d2; have a7 := a.dd
  have hmb := Cal.ms_bd (Cal.Y n) v3 (by omega)
  by_cases hd : Cal.D n < Cal.dm (Cal.Y n) (Cal.M n)
  · left
    have h13 := Cal.ms_mono (Cal.Y n) (a := Cal.M n + 1) (b := 13) (by omega) (by omega) (by omega)
    rw [Cal.ms_13] at h13
    exact Cal.dt_eq (by omega) (by omega) ⟨by omega, by omega, v3, v4, by omega, by omega, by omega⟩
  · right
    by_cases hm : Cal.M n < 12
    · have h13 := Cal.ms_mono (Cal.Y n) (a := Cal.M n + 1) (b := 13) (by omega) (by omega) (by omega)
      rw [Cal.ms_13] at h13
      have hms2 := Cal.ms_succ (Cal.Y n) (m := Cal.M n + 1) (by omega) (by omega)
      have hdb := Cal.dm_bd (Cal.Y n) (Cal.M n + 1)
      have h13' := Cal.ms_mono (Cal.Y n) (a := Cal.M n + 1 + 1) (b := 13) (by omega) (by omega) (by omega)
      rw [Cal.ms_13] at h13'
      obtain ⟨e1, e2, e3⟩ := Cal.dt_eq (n := n + 1) (y := Cal.Y n) (m := Cal.M n + 1) (d := 1) (by omega) (by omega) ⟨by omega, by omega, by omega, by omega, by omega, by omega, by omega⟩
      exact ⟨by omega, e3, by omega⟩
    · have hM : Cal.M n = 12 := by omega
      rw [hM] at hms a5 a6 a7 hd v6
      have h13 : Cal.ms (Cal.Y n) (12 + 1) = 365 + Cal.lp (Cal.Y n) := Cal.ms_13 _
      have hys2 := Cal.ys_lt (Cal.Y n + 1)
      have m1 := Cal.ms_1 (Cal.Y n + 1)
      have m2 := Cal.ms_succ (Cal.Y n + 1) (m := 1) (by omega) (by omega)
      have m3 := Cal.dm_bd (Cal.Y n + 1) 1
      obtain ⟨e1, e2, e3⟩ := Cal.dt_eq (n := n + 1) (y := Cal.Y n + 1) (m := 1) (d := 1) (by omega) (by omega) ⟨by omega, by omega, by omega, by omega, by omega, by omega, by omega⟩
      exact ⟨by omega, e3, by rw [hM]; omega⟩
theorem dayV_dt {n : Int} (h0 : 0 ≤ n) (h1 : n ≤ 36524) : dayV (Cal.Y n) (Cal.M n) (Cal.D n) = n := by
  unfold dayV
  rw [if_pos (vldB_iff.2 (Cal.vld_dt h0 h1)), Cal.num_dt h0 h1]
/-- What AddMonths comes to where it is not -1. -/
structure Added (n k y m d : Int) : Prop where
  hn0 : 0 ≤ n
  hn1 : n ≤ 36524
  hk0 : -600 ≤ k
  hk1 : k ≤ 600
  v : Cal.vld y m d
  t : 12 * y + m = 12 * Cal.Y n + Cal.M n + k
  dd : d = min (Cal.D n) (Cal.dm y m)
theorem added_of {n k y m : Int} (hn0 : 0 ≤ n) (hn1 : n ≤ 36524) (hk0 : -600 ≤ k) (hk1 : k ≤ 600) (hy : 1990 ≤ y) (hy2 : y ≤ 2089) (hm : 1 ≤ m) (hm2 : m ≤ 12) (ht : 12 * y + m = 12 * Cal.Y n + Cal.M n + k) :
    Added n k y m (min (Cal.D n) (Cal.dm y m)) ∧ addV n k = Cal.num y m (min (Cal.D n) (Cal.dm y m)) := by
  have hD := Cal.D_bd hn0 hn1
  have hd := Cal.dm_bd y m
  have hv : Cal.vld y m (min (Cal.D n) (Cal.dm y m)) := ⟨hy, hy2, hm, hm2, by omega, by omega⟩
  refine ⟨⟨hn0, hn1, hk0, hk1, hv, ht, rfl⟩, ?_⟩
  have e1 : (12 * Cal.Y n + Cal.M n - 1 + k) / 12 = y := by omega
  have e2 : (12 * Cal.Y n + Cal.M n - 1 + k) % 12 + 1 = m := by omega
  unfold addV
  rw [if_pos ⟨btw_t hn0 hn1, btw_t hk0 hk1⟩, e1, e2]
  have e3 : dinV y m = Cal.dm y m := by unfold dinV; rw [if_pos ⟨btw_t hy hy2, btw_t hm hm2⟩]
  rw [e3]
  unfold dayV
  rw [if_pos (vldB_iff.2 hv)]
theorem addV_out {n k : Int} (hy : 12 * Cal.Y n + Cal.M n + k < 12 * 1990 + 1 ∨ 12 * 2089 + 12 < 12 * Cal.Y n + Cal.M n + k) : addV n k = -1 := by
  unfold addV
  split
  · unfold dayV
    rw [if_neg]
    rw [vldB_iff]
    rintro ⟨h1, h2, _⟩
    omega
  · rfl
theorem addV_nonneg {n k : Int} (h : 0 ≤ addV n k) : ∃ y m d, Added n k y m d ∧ addV n k = Cal.num y m d := by
  by_cases c : dayB n = true ∧ btw k (-600) 600 = true
  · have a := btw_iff.1 c.1
    have b := btw_iff.1 c.2
    by_cases hy : 12 * Cal.Y n + Cal.M n + k < 12 * 1990 + 1 ∨ 12 * 2089 + 12 < 12 * Cal.Y n + Cal.M n + k
    · rw [addV_out hy] at h; omega
    · obtain ⟨h1, h2⟩ := added_of (n := n) (k := k) (y := (12 * Cal.Y n + Cal.M n - 1 + k) / 12) (m := (12 * Cal.Y n + Cal.M n - 1 + k) % 12 + 1) a.1 a.2 b.1 b.2 (by omega) (by omega) (by omega) (by omega) (by omega)
      exact ⟨_, _, _, h1, h2⟩
  · exfalso
    unfold addV at h
    rw [if_neg c] at h
    omega
theorem addV_bd (n k : Int) : -1 ≤ addV n k ∧ addV n k ≤ 36524 := by
  by_cases h : 0 ≤ addV n k
  · obtain ⟨y, m, d, ha, e⟩ := addV_nonneg h
    have := Cal.num_bd ha.v
    omega
  · have hd : ∀ y m d, -1 ≤ dayV y m d := by
      intro y m d
      unfold dayV
      split
      · rename_i hv; have := (Cal.num_bd (vldB_iff.1 hv)).1; omega
      · omega
    refine ⟨?_, by omega⟩
    unfold addV
    split
    · exact hd _ _ _
    · omega
theorem addV_zero {n : Int} (h0 : 0 ≤ n) (h1 : n ≤ 36524) : addV n 0 = n := by
  have hv := Cal.vld_dt h0 h1
  obtain ⟨v1, v2, v3, v4, v5, v6⟩ := hv
  obtain ⟨_, e⟩ := added_of (n := n) (k := 0) (y := Cal.Y n) (m := Cal.M n) h0 h1 (by omega) (by omega) v1 v2 v3 v4 (by omega)
  rw [e, show min (Cal.D n) (Cal.dm (Cal.Y n) (Cal.M n)) = Cal.D n by omega, Cal.num_dt h0 h1]
theorem num_next {y m : Int} (hy : 1990 ≤ y) (hm : 1 ≤ m) (hm2 : m ≤ 12) {y' m' : Int} (hm' : 1 ≤ m') (hm2' : m' ≤ 12) (ht : 12 * y' + m' = 12 * y + m + 1) : Cal.num y' m' 1 = Cal.num y m (Cal.dm y m) + 1 := by
  unfold Cal.num
  have h := Cal.ms_succ y hm hm2
  by_cases c : m < 12
  · obtain rfl : y' = y := by omega
    obtain rfl : m' = m + 1 := by omega
    omega
  · obtain rfl : m = 12 := by omega
    obtain rfl : y' = y + 1 := by omega
    obtain rfl : m' = 1 := by omega
    have h13 : Cal.ms y (12 + 1) = 365 + Cal.lp y := Cal.ms_13 _
    have := Cal.ys_succ y
    have := Cal.ms_1 (y + 1)
    omega
theorem add_order {n k : Int} (h : 0 ≤ addV n k) (h' : 0 ≤ addV (n + 1) k) : addV n k ≤ addV (n + 1) k ∧ addV (n + 1) k ≤ addV n k + 4 := by
  obtain ⟨y, m, d, a, e⟩ := addV_nonneg h
  obtain ⟨y', m', d', a', e'⟩ := addV_nonneg h'
  have hD := Cal.D_bd a.hn0 a.hn1
  have hd := Cal.dm_bd y m
  have hd' := Cal.dm_bd y' m'
  have hdn := Cal.dm_bd (Cal.Y n) (Cal.M n)
  obtain ⟨v1, v2, v3, v4, v5, v6⟩ := a.v
  obtain ⟨u1, u2, u3, u4, u5, u6⟩ := a'.v
  have t := a.t; have t' := a'.t; have dd := a.dd; have dd' := a'.dd
  rcases next_date a.hn0 (by have := a'.hn1; omega) with ⟨c1, c2, c3⟩ | ⟨c1, c2, c3⟩
  · rw [c1, c2] at t'
    obtain rfl : y' = y := by omega
    obtain rfl : m' = m := by omega
    rw [c3] at dd'
    rw [e, e']
    unfold Cal.num
    omega
  · have hx := num_next (y := y) (m := m) (y' := y') (m' := m') v1 v3 v4 u3 u4 (by omega)
    rw [c2] at dd'
    have hd1 : d' = 1 := by omega
    rw [e, e', hd1, hx]
    unfold Cal.num
    omega
theorem add_back {n k : Int} (h : 0 ≤ addV n k) : addV (addV n k) (-k) ≤ n ∧ n - 3 ≤ addV (addV n k) (-k) := by
  obtain ⟨y, m, d, a, e⟩ := addV_nonneg h
  obtain ⟨eY, eM, eD⟩ := Cal.dt_num a.v
  have hb := Cal.num_bd a.v
  have hv := Cal.vld_dt a.hn0 a.hn1
  obtain ⟨v1, v2, v3, v4, v5, v6⟩ := hv
  have hd := Cal.dm_bd y m
  have hD := Cal.D_bd a.hn0 a.hn1
  have hk0 := a.hk0; have hk1 := a.hk1; have t := a.t; have dd := a.dd
  obtain ⟨_, e2⟩ := added_of (n := Cal.num y m d) (k := -k) (y := Cal.Y n) (m := Cal.M n) hb.1 hb.2 (by omega) (by omega) v1 v2 v3 v4 (by rw [eY, eM]; omega)
  rw [e, e2, eD]
  have hn := Cal.num_dt a.hn0 a.hn1
  unfold Cal.num at hn ⊢
  omega
theorem dm_year (y y' m : Int) : Cal.dm y m = Cal.dm y' m ∨ (28 ≤ Cal.dm y m ∧ Cal.dm y m ≤ 29 ∧ 28 ≤ Cal.dm y' m ∧ Cal.dm y' m ≤ 29) := by
  have := Cal.lp_01 y; have := Cal.lp_01 y'
  unfold Cal.dm
  split <;> omega
theorem add_year {n : Int} (h0 : 0 ≤ n) (h1 : n ≤ 36524) :
    addV n 12 = if dayV (Cal.Y n + 1) (Cal.M n) (Cal.D n) < 0 then dayV (Cal.Y n + 1) (Cal.M n) 28 else dayV (Cal.Y n + 1) (Cal.M n) (Cal.D n) := by
  have hv := Cal.vld_dt h0 h1
  obtain ⟨v1, v2, v3, v4, v5, v6⟩ := hv
  have hd := Cal.dm_bd (Cal.Y n + 1) (Cal.M n)
  have hdy := dm_year (Cal.Y n) (Cal.Y n + 1) (Cal.M n)
  by_cases hy : Cal.Y n + 1 ≤ 2089
  · obtain ⟨ha, e⟩ := added_of (n := n) (k := 12) (y := Cal.Y n + 1) (m := Cal.M n) h0 h1 (by omega) (by omega) (by omega) hy v3 v4 (by omega)
    by_cases hD : Cal.D n ≤ Cal.dm (Cal.Y n + 1) (Cal.M n)
    · have hvv : Cal.vld (Cal.Y n + 1) (Cal.M n) (Cal.D n) := ⟨by omega, hy, v3, v4, v5, hD⟩
      have e1 : dayV (Cal.Y n + 1) (Cal.M n) (Cal.D n) = Cal.num (Cal.Y n + 1) (Cal.M n) (Cal.D n) := by unfold dayV; rw [if_pos (vldB_iff.2 hvv)]
      have := Cal.num_bd hvv
      rw [e, e1, if_neg (by omega), show min (Cal.D n) (Cal.dm (Cal.Y n + 1) (Cal.M n)) = Cal.D n by omega]
    · have e1 : dayV (Cal.Y n + 1) (Cal.M n) (Cal.D n) = -1 := by
        unfold dayV; rw [if_neg]; rw [vldB_iff]; rintro ⟨_, _, _, _, _, h⟩; omega
      have hvv : Cal.vld (Cal.Y n + 1) (Cal.M n) 28 := ⟨by omega, hy, v3, v4, by omega, by omega⟩
      have e2 : dayV (Cal.Y n + 1) (Cal.M n) 28 = Cal.num (Cal.Y n + 1) (Cal.M n) 28 := by unfold dayV; rw [if_pos (vldB_iff.2 hvv)]
      rw [e, e1, if_pos (by omega), e2, show min (Cal.D n) (Cal.dm (Cal.Y n + 1) (Cal.M n)) = 28 by omega]
  · have e1 : ∀ d, dayV (Cal.Y n + 1) (Cal.M n) d = -1 := by
      intro d; unfold dayV; rw [if_neg]; rw [vldB_iff]; rintro ⟨_, h, _⟩; omega
    rw [e1, e1, if_pos (by omega), addV_out (by omega)]
end Go.Proofs.YtkdooncfchmkfaaDoor
