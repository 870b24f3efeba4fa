import Derived.Test.YtbihadelhknlnaaDoorBnd
import Derived.Test.YtbihadelhknlnaaDoorSchD
import Derived.OwnWalk
import Derived.Outline
import Derived.Test.YtbihadelhknlnaaDoorDrawBond
import Derived.Test.YtbihadelhknlnaaDoorZB
import Derived.Deep.RegionHeld3
import Derived.Test.YtbihadelhknlnaaDoorLFlow
import Derived.Deep.DeepCutAuto
import Derived.Test.YtbihadelhknlnaaDoorMinMax
/- The period that runs, and the accrued interest of the program. -/
namespace Go.Proofs.YtbihadelhknlnaaDoor
open Go.RowKit
/-- The search for the first period that ends behind a day. -/
def IsK (ps : List Per) (d : Int) (k : Nat) : Prop := k ≤ ps.length ∧ ∀ h, h < ps.length → (d < (ps.getD h p0).2.1 ↔ k ≤ h)
/-- The period of a bond that runs at a day. -/
noncomputable def runB (s e m r d : Int) : Bool := decide (0 < (perL s e m r).length ∧ s ≤ d ∧ d < e)
theorem runB_iff {s e m r d : Int} : runB s e m r d = true ↔ 0 < (perL s e m r).length ∧ s ≤ d ∧ d < e := by unfold runB; simp
/-- What is known of the period that runs. -/
theorem run_facts {s e m r d : Int} (h : runB s e m r d = true) : ∃ k : Nat, k < (perL s e m r).length ∧ IsK (perL s e m r) d k ∧ ((perL s e m r).getD k p0).1 ≤ d ∧ d < ((perL s e m r).getD k p0).2.1 ∧
    (∀ j, j < k → ¬ (((perL s e m r).getD j p0).1 ≤ d ∧ d < ((perL s e m r).getD j p0).2.1)) := by
  obtain ⟨h0, h1, h2⟩ := runB_iff.1 h
  have hne : perL s e m r ≠ [] := fun k => by rw [k] at h0; simp at h0
  have hp : perL s e m r = Sc.sch s e m := by
    unfold perL at hne ⊢
    split
    · rfl
    · rename_i c; rw [if_neg c] at hne; exact absurd rfl hne
  rw [hp] at hne h0 ⊢
  obtain ⟨ok, hN, hall⟩ := Sc.sch_pos hne
  have hlen : (Sc.sch s e m).length = Sc.N s e m := by rw [hall, Sc.all_len]
  rw [hlen] at h0 ⊢
  have hf : ∀ i, i < Sc.N s e m → ∃ f t : Int, ∃ b : Bool, (Sc.sch s e m).getD i p0 = (f, t, b) ∧ f < t ∧ (i = 0 → f = s) ∧ (i + 1 = Sc.N s e m → t = e) ∧ (0 < i → f = ((Sc.sch s e m).getD (i - 1) p0).2.1) := fun i hi => by
    obtain ⟨f, t, b, hg, hlt, -, -, -, q0, q1, q2⟩ := Sc.all_facts ok hN hi
    rw [hall]
    exact ⟨f, t, b, hg, hlt, q0, q1, fun q => (q2 q).2⟩
  have he : d < ((Sc.sch s e m).getD (Sc.N s e m - 1) p0).2.1 := by
    obtain ⟨f, t, b, hg, -, -, q, -⟩ := hf (Sc.N s e m - 1) (by omega)
    rw [hg]
    have := q (by omega)
    dsimp only
    omega
  unfold IsK
  rw [hlen]
  generalize Sc.N s e m = n at *
  generalize Sc.sch s e m = ps at *
  have lt : ∀ i, i < n → (ps.getD i p0).1 < (ps.getD i p0).2.1 := fun i hi => by
    obtain ⟨f, t, b, hg, q, -⟩ := hf i hi
    rw [hg]; exact q
  have co : ∀ i, i + 1 < n → (ps.getD (i + 1) p0).1 = (ps.getD i p0).2.1 := fun i hi => by
    obtain ⟨f, t, b, hg, -, -, -, q⟩ := hf (i + 1) hi
    have := q (by omega)
    rw [hg]; exact this
  have k0 : (ps.getD 0 p0).1 = s := by
    obtain ⟨f, t, b, hg, -, q, -⟩ := hf 0 h0
    rw [hg]; exact q rfl
  have up : ∀ j i, i ≤ j → j < n → (ps.getD i p0).2.1 ≤ (ps.getD j p0).2.1 := by
    intro j
    induction j with
    | zero => intro i a b; obtain rfl : i = 0 := by omega
              omega
    | succ j ih =>
      intro i a b
      rcases Nat.lt_or_ge i (j + 1) with c | c
      · have := ih i (by omega) (by omega)
        have := co j b
        have := lt (j + 1) b
        omega
      · obtain rfl : i = j + 1 := by omega
        omega
  have ex : ∀ j, j < n → d < (ps.getD j p0).2.1 → ∃ k, k ≤ j ∧ d < (ps.getD k p0).2.1 ∧ ∀ i, i < k → ¬ d < (ps.getD i p0).2.1 := by
    intro j
    induction j with
    | zero => intro _ c; exact ⟨0, Nat.le_refl _, c, fun i hi => by omega⟩
    | succ j ih =>
      intro hj c
      by_cases z : d < (ps.getD j p0).2.1
      · obtain ⟨k, a, b, c'⟩ := ih (by omega) z
        exact ⟨k, by omega, b, c'⟩
      · refine ⟨j + 1, Nat.le_refl _, c, fun i hi hz => z ?_⟩
        have := up j i (by omega) (by omega)
        omega
  obtain ⟨k, hk, hd, hb⟩ := ex (n - 1) (by omega) he
  refine ⟨k, by omega, ⟨by omega, fun h hh => ⟨fun c => ?_, fun c => ?_⟩⟩, ?_, hd, fun j hj c => hb j hj c.2⟩
  · rcases Nat.lt_or_ge h k with z | z
    · exact absurd c (hb h z)
    · exact z
  · have := up h k c hh
    omega
  · rcases Nat.eq_zero_or_pos k with z | z
    · rw [z, k0]; exact h1
    · have a := co (k - 1) (by omega)
      rw [show k - 1 + 1 = k by omega] at a
      have b := hb (k - 1) (by omega)
      omega
/-- Its index. -/
noncomputable def runK (s e m r d : Int) : Nat := if h : runB s e m r d = true then Classical.choose (run_facts h) else 0
theorem runK_facts {s e m r d : Int} (h : runB s e m r d = true) : runK s e m r d < (perL s e m r).length ∧ IsK (perL s e m r) d (runK s e m r d) ∧ ((perL s e m r).getD (runK s e m r d) p0).1 ≤ d ∧ d < ((perL s e m r).getD (runK s e m r d) p0).2.1 ∧
    (∀ j, j < runK s e m r d → ¬ (((perL s e m r).getD j p0).1 ≤ d ∧ d < ((perL s e m r).getD j p0).2.1)) := by
  unfold runK
  rw [dif_pos h]
  exact Classical.choose_spec (run_facts h)
theorem Blk.one {w : World} {b : Nat} {t : TypeId} {x : Value} (h : Blk w b t #[x]) : w.cell? ⟨b, 0, none⟩ = some x := by
  unfold Blk at h
  simp [World.cell?, h]
abbrev pV (p : Per) : Value := .agg #[.int .i64 p.1, .int .i64 p.2.1, .bool p.2.2]
abbrev boV (s e m r : Int) : Value := .agg #[.int .i64 s, .int .i64 e, .int .i64 m, .int .i64 r]
noncomputable def accP (m r d : Int) (p : Per) : Int := Rt.near (cpnV m r p.1 p.2.1 p.2.2 * (d - p.1)) (p.2.1 - p.1)
/-- The accrued interest. -/
noncomputable def accV (s e m r d : Int) : Int := if runB s e m r d = true then accP m r d ((perL s e m r).getD (runK s e m r d) p0) else -1
/-- What is known of the period that runs. -/
theorem run_per {s e m r d : Int} (h : runB s e m r d = true) : (1 ≤ m ∧ m ≤ 12) ∧ (0 ≤ r ∧ r ≤ 3000) ∧ ∃ f t : Int, ∃ z : Bool, (perL s e m r).getD (runK s e m r d) p0 = (f, t, z) ∧ 0 ≤ f ∧ f < t ∧ t ≤ 36524 ∧ addV t (-m) < t ∧ f ≤ d ∧ d < t ∧ (0 ≤ cpnV m r f t z ∧ cpnV m r f t z ≤ 120000000) := by
  obtain ⟨hk, -, hf, ht, -⟩ := runK_facts h
  have hne : perL s e m r ≠ [] := fun k => by rw [k] at hk; simp at hk
  obtain ⟨⟨m0, m1⟩, ⟨r0, r1⟩, -, hpf⟩ := per_facts hne
  obtain ⟨f, t, z, hg, a0, a1, a2, hA⟩ := hpf _ hk
  rw [hg] at hf ht
  exact ⟨⟨m0, m1⟩, ⟨r0, r1⟩, f, t, z, hg, a0, a1, a2, hA, hf, ht, cpn_bd z m0 m1 r0 r1 a0 a1 a2 hA⟩
theorem mulc_bd {c x : Int} (c0 : 0 ≤ c) (c1 : c ≤ 120000000) (x0 : 0 ≤ x) (x1 : x ≤ 36524) : 0 ≤ c * x ∧ c * x ≤ 4382880000000 := by
  refine ⟨Int.mul_nonneg c0 x0, ?_⟩
  have := Int.mul_le_mul c1 x1 x0 (by omega)
  omega
abbrev SA (b p : Nat) (s e m r f t : Int) (z : Bool) (W : World) : Prop :=
  W.cell? ⟨b, 0, none⟩ = some (.int .i64 s) ∧ W.cell? ⟨b, 1, none⟩ = some (.int .i64 e) ∧ W.cell? ⟨b, 2, none⟩ = some (.int .i64 m) ∧ W.cell? ⟨b, 3, none⟩ = some (.int .i64 r) ∧
    W.cell? ⟨p, 0, none⟩ = some (.int .i64 f) ∧ W.cell? ⟨p, 1, none⟩ = some (.int .i64 t) ∧ W.cell? ⟨p, 2, none⟩ = some (.bool z)
structure KA (w : World) (p : Nat) (s e m r f t : Int) (z : Bool) (W : World) : Prop where
  b0 : W.cell? ⟨w.heap.size, 0, none⟩ = some (.int .i64 s)
  b1 : W.cell? ⟨w.heap.size, 1, none⟩ = some (.int .i64 e)
  b2 : W.cell? ⟨w.heap.size, 2, none⟩ = some (.int .i64 m)
  b3 : W.cell? ⟨w.heap.size, 3, none⟩ = some (.int .i64 r)
  q0 : W.cell? ⟨p, 0, none⟩ = some (.int .i64 f)
  q1 : W.cell? ⟨p, 1, none⟩ = some (.int .i64 t)
  q2 : W.cell? ⟨p, 2, none⟩ = some (.bool z)
  tab : Tab W
  bel : Below w.heap.size w W
theorem cellA_below {W W' : World} {b i : Nat} {v : Value} (h : W.cell? ⟨b, i, none⟩ = some v) (hb : Below W.heap.size W W') : W'.cell? ⟨b, i, none⟩ = some v :=
  (hb.cell (p := ⟨b, i, none⟩) (World.block_lt_of_cell? W _ h)).trans h
theorem KA.below {w W W' : World} {p : Nat} {s e m r f t : Int} {z : Bool} (k : KA w p s e m r f t z W) (hb : Below W.heap.size W W') : KA w p s e m r f t z W' :=
  ⟨cellA_below k.b0 hb, cellA_below k.b1 hb, cellA_below k.b2 hb, cellA_below k.b3 hb, cellA_below k.q0 hb, cellA_below k.q1 hb, cellA_below k.q2 hb, k.tab.below hb k.tab.pos, k.bel.trans (hb.mono k.bel.size)⟩
theorem KA.drew {w W : World} {p : Nat} {s e m r f t : Int} {z : Bool} (k : KA w p s e m r f t z W) : KA w p s e m r f t z W.drew :=
  ⟨k.b0, k.b1, k.b2, k.b3, k.q0, k.q1, k.q2, k.tab, k.bel.drew⟩
theorem KA.cells {w W : World} {p : Nat} {s e m r f t : Int} {z : Bool} (k : KA w p s e m r f t z W) : SA w.heap.size p s e m r f t z W :=
  ⟨k.b0, k.b1, k.b2, k.b3, k.q0, k.q1, k.q2⟩
end Go.Proofs.YtbihadelhknlnaaDoor

/- The law of payments and rates. -/
namespace Go.Proofs.YtbihadelhknlnaaDoor
open Go.RowKit
theorem near_up {a b d : Int} (hd : 1 ≤ d) (h : a ≤ b) : Rt.near a d ≤ Rt.near b d := by unfold Rt.near; exact Int.ediv_le_ediv (by omega) (by omega)
theorem near_0 {d : Int} (hd : 1 ≤ d) : Rt.near 0 d = 0 := by unfold Rt.near; exact Int.ediv_eq_zero_of_lt (by omega) (by omega)
theorem whole_up {m r : Int} (m0 : 1 ≤ m) : wholeV m r ≤ wholeV m (r + 1) := by
  unfold wholeV
  refine near_up (by decide) ?_
  rw [Int.mul_add, Int.add_mul]
  omega
theorem cpn_up {m r f t : Int} (z : Bool) (m0 : 1 ≤ m) (f1 : f < t) (hA : addV t (-m) < t) : cpnV m r f t z ≤ cpnV m (r + 1) f t z := by
  unfold cpnV
  have hw := whole_up (r := r) m0
  split
  · exact hw
  · have h1 : fullF m f t < t := by unfold fullF; split <;> omega
    exact near_up (by omega) (Int.mul_le_mul_of_nonneg_right hw (by omega))
theorem cpn_0 {m f t : Int} (z : Bool) (f1 : f < t) (hA : addV t (-m) < t) : cpnV m 0 f t z = 0 := by
  have hw : wholeV m 0 = 0 := by unfold wholeV; rw [show 10000 * (0 : Int) * m = 0 by simp]; exact near_0 (by decide)
  unfold cpnV
  rw [hw]
  split
  · rfl
  · have h1 : fullF m f t < t := by unfold fullF; split <;> omega
    rw [Int.zero_mul]; exact near_0 (by omega)
theorem perL_rate {s e m r r' : Int} (h : btw r 0 3000 = true) (h' : btw r' 0 3000 = true) : perL s e m r = perL s e m r' := by unfold perL; rw [if_pos h, if_pos h']
theorem flo_at {s e m r : Int} {i : Nat} (hi : i < (perL s e m r).length) : (floL s e m r).getD i f0 = (((perL s e m r).getD i p0).2.1, cpnV m r ((perL s e m r).getD i p0).1 ((perL s e m r).getD i p0).2.1 ((perL s e m r).getD i p0).2.2 + (if i = (perL s e m r).length - 1 then 10000 else 0)) := by
  have hcl := cpnL_len s e m r
  have hg : ∀ j, j < (perL s e m r).length → (cpnL s e m r).getD j f0 = (((perL s e m r).getD j p0).2.1, cpnV m r ((perL s e m r).getD j p0).1 ((perL s e m r).getD j p0).2.1 ((perL s e m r).getD j p0).2.2) := fun j hj => by
    rw [show cpnL s e m r = (perL s e m r).map fun p => (p.2.1, cpnV m r p.1 p.2.1 p.2.2) from rfl, map_at _ (perL s e m r) p0 f0 hj]
  unfold floL faced
  rw [set_at _ _ _ _ (by omega), hcl]
  by_cases c : i = (perL s e m r).length - 1
  · rw [if_pos c, if_pos c, ← c, hg i hi]
  · rw [if_neg c, if_neg c, hg i hi, Int.add_zero]
theorem per_ne {s e m r : Int} (h : floL s e m r ≠ []) : perL s e m r ≠ [] := fun k => by
  have hl := floL_len s e m r
  rw [k] at hl
  exact h (List.eq_nil_of_length_eq_zero hl)
theorem flo_rate {s e m r : Int} (h : floL s e m r ≠ []) : (0 ≤ r ∧ r ≤ 3000) ∧ (r ≠ 3000 → (floL s e m (r + 1)).length = (floL s e m r).length ∧ ∀ i, i < (floL s e m r).length → ((floL s e m r).getD i f0).2 ≤ ((floL s e m (r + 1)).getD i f0).2 ∧ ((floL s e m (r + 1)).getD i f0).1 = ((floL s e m r).getD i f0).1) := by
  obtain ⟨⟨m0, m1⟩, ⟨r0, r1⟩, -, hpf⟩ := per_facts (per_ne h)
  refine ⟨⟨r0, r1⟩, fun h3 => ?_⟩
  have hp : perL s e m (r + 1) = perL s e m r := perL_rate (btw_t (by omega) (by omega)) (btw_t r0 r1)
  have hl := floL_len s e m r
  have hl2 := floL_len s e m (r + 1)
  rw [hp] at hl2
  refine ⟨by omega, fun i hi => ?_⟩
  rw [flo_at (r := r) (by omega), flo_at (r := r + 1) (by rw [hp]; omega), hp]
  obtain ⟨f, t, z, hg, a0, a1, a2, hA⟩ := hpf i (by omega)
  rw [hg]
  dsimp only
  have := cpn_up (r := r) z m0 a1 hA
  exact ⟨by omega, rfl⟩
theorem sum_0 {fs : List Flo} {n : Nat} (h : ∀ i, i < n → (fs.getD i f0).2 = if i = n - 1 then 10000 else 0) : ∀ i, i < n → sumTo fs i = 0
  | 0, _ => rfl
  | i + 1, hi => by
    simp only [sumTo]
    rw [sum_0 h i (by omega), h i (by omega), if_neg (by omega)]
    rfl
theorem flo_zero {s e m r : Int} (h : floL s e m r ≠ []) : totV s e m 0 = 10000 := by
  obtain ⟨⟨m0, m1⟩, ⟨r0, r1⟩, -, hpf⟩ := per_facts (per_ne h)
  have hp : perL s e m 0 = perL s e m r := perL_rate (by decide) (btw_t r0 r1)
  have hl := floL_len s e m r
  have hl2 := floL_len s e m 0
  rw [hp] at hl2
  have hn : (floL s e m r).length ≠ 0 := fun k => h (List.eq_nil_of_length_eq_zero k)
  unfold totV
  rw [if_neg (by omega)]
  obtain ⟨k, hk⟩ : ∃ k, (floL s e m 0).length = k + 1 := ⟨(floL s e m 0).length - 1, by omega⟩
  have hv : ∀ i, i < k + 1 → ((floL s e m 0).getD i f0).2 = if i = k + 1 - 1 then 10000 else 0 := fun i hi => by
    rw [flo_at (r := 0) (by rw [hp]; omega), hp, show (perL s e m r).length = k + 1 by omega]
    obtain ⟨f, t, z, hg, a0, a1, a2, hA⟩ := hpf i (by omega)
    rw [hg]
    dsimp only
    rw [cpn_0 z a1 hA, Int.zero_add]
  rw [hk]
  simp only [sumTo]
  rw [sum_0 hv k (by omega), hv k (by omega)]
  simp
end Go.Proofs.YtbihadelhknlnaaDoor

/- Plain mathematics: whole periods pay the same. -/
namespace Go.Proofs.YtbihadelhknlnaaDoor
open Go.RowKit
/-- Months added twice never lead behind the same months added at once. -/
theorem add_twice {e a b : Int} (h1 : 0 ≤ addV e a) (h2 : 0 ≤ addV (addV e a) b) (k0 : -600 ≤ a + b) (k1 : a + b ≤ 600) : addV (addV e a) b ≤ addV e (a + b) := by
  obtain ⟨y, m, d, A, ea⟩ := addV_nonneg h1
  rw [ea] at h2 ⊢
  obtain ⟨Y1, M1, D1⟩ := Cal.dt_num A.v
  obtain ⟨y', m', d', B, eb⟩ := addV_nonneg h2
  rw [eb]
  have ta := A.t
  have tb := B.t
  have da := A.dd
  have db := B.dd
  rw [Y1, M1] at tb
  rw [D1] at db
  obtain ⟨v1, v2, v3, v4, v5, v6⟩ := B.v
  obtain ⟨C, ec⟩ := added_of (n := e) (k := a + b) (y := y') (m := m') A.hn0 A.hn1 k0 k1 v1 v2 v3 v4 (by omega)
  rw [ec]
  unfold Cal.num
  omega
theorem first_full {s e m : Int} (ok : Sc.okB s e m = true) (hN : Sc.N s e m ≤ 40) : addV (Sc.S e m (Sc.N s e m - 1)) (-m) < 0 ∨ addV (Sc.S e m (Sc.N s e m - 1)) (-m) ≤ s := by
  have k := Sc.isN ok
  obtain ⟨⟨s0, se, e1⟩, hm⟩ := Sc.okB_iff.1 ok
  have n1 := k.n1
  have g := k.gt (Sc.N s e m - 1) (by omega)
  have l := k.le (by omega)
  generalize Sc.N s e m = n at *
  have kb := Sc.km_bd hm (k := n) (by omega)
  rcases Int.lt_or_le (addV (Sc.S e m (n - 1)) (-m)) 0 with c | c
  · exact .inl c
  · right
    have e1' : ((n - 1 : Nat) : Int) * m = (n : Int) * m - m := by
      rw [show ((n - 1 : Nat) : Int) = (n : Int) - 1 by omega, Int.sub_mul, Int.one_mul]
    have e2 : -(((n - 1 : Nat) : Int) * m) + -m = -((n : Int) * m) := by rw [e1']; omega
    have t := add_twice (e := e) (a := -(((n - 1 : Nat) : Int) * m)) (b := -m) (by unfold Sc.S at g; omega) (by unfold Sc.S at c; exact c) (by rw [e2]; omega) (by rw [e2]; omega)
    rw [e2] at t
    unfold Sc.S at l ⊢
    omega
theorem near_part {w a b : Int} (hw : 0 ≤ w) (hb : 1 ≤ b) (h : a ≤ b) : Rt.near (w * a) b ≤ w := by
  unfold Rt.near
  have h1 : w * a ≤ w * b := Int.mul_le_mul_of_nonneg_left h hw
  have h2 : (2 * (w * a) + b) / (2 * b) < w + 1 := by
    apply Int.ediv_lt_of_lt_mul (by omega)
    rw [Int.add_mul, Int.mul_left_comm w 2 b]
    omega
  omega
theorem flo_equal {s e m r : Int} (h : floL s e m r ≠ []) (h3 : 3 ≤ (floL s e m r).length) :
    (∀ i, 1 ≤ i → i + 1 < (floL s e m r).length → ((floL s e m r).getD i f0).2 = wholeV m r) ∧ ((floL s e m r).getD ((floL s e m r).length - 1) f0).2 = wholeV m r + 10000 ∧ ((floL s e m r).getD 0 f0).2 ≤ wholeV m r ∧ 0 ≤ wholeV m r ∧ wholeV m r ≤ 3000 := by
  obtain ⟨⟨m0, m1⟩, ⟨r0, r1⟩, -, hpf⟩ := per_facts (per_ne h)
  have hr : btw r 0 3000 = true := btw_t r0 r1
  have hp : perL s e m r = Sc.sch s e m := by unfold perL; rw [if_pos hr]
  have hne := per_ne h
  have hl := floL_len s e m r
  have wb := whole_bd m0 m1 r0 r1
  rw [hl] at h3 ⊢
  rw [hp] at hne
  obtain ⟨ok, hN, hall⟩ := Sc.sch_pos hne
  have hlen : (perL s e m r).length = Sc.N s e m := by rw [hp, hall, Sc.all_len]
  have pos : ∀ i, 1 ≤ i → i < (perL s e m r).length → ((floL s e m r).getD i f0).2 = wholeV m r + (if i = (perL s e m r).length - 1 then 10000 else 0) := fun i h0 hi => by
    rw [flo_at hi]
    obtain ⟨f, t, z, hg, hft, -, -, -, -, -, hpre⟩ := Sc.all_facts ok hN (i := i) (by omega)
    obtain ⟨hz, -⟩ := hpre (by omega)
    subst hz
    rw [show (perL s e m r).getD i p0 = (f, t, true) by rw [hp, hall]; exact hg]
    rfl
  refine ⟨fun i a b => ?_, ?_, ?_, wb⟩
  · rw [pos i a (by omega), if_neg (by omega), Int.add_zero]
  · rw [pos _ (by omega) (by omega), if_pos rfl]
  · rw [flo_at (by omega)]
    obtain ⟨f, t, z, hg, hft, -, -, ht, hf, -, -⟩ := Sc.all_facts ok hN (i := 0) (by omega)
    have hf := hf rfl
    rw [show (perL s e m r).getD 0 p0 = (f, t, z) by rw [hp, hall]; exact hg]
    dsimp only
    rw [if_neg (by omega), Int.add_zero]
    unfold cpnV
    split
    · omega
    · have ff := first_full ok hN
      rw [Nat.sub_zero] at ht
      rw [← ht] at ff
      have hfu : fullF m f t ≤ f := by unfold fullF; split <;> omega
      exact near_part wb.1 (by omega) (by omega)
end Go.Proofs.YtbihadelhknlnaaDoor

/- The accrued interest of the model, and dirty and clean prices. -/
namespace Go.Proofs.YtbihadelhknlnaaDoor
open Go.RowKit
theorem runB_vb {s e m r d : Int} (h : vbB s e m r = false) : runB s e m r d = false := by
  unfold vbB at h
  unfold runB
  have := of_decide_eq_false h
  exact decide_eq_false (fun k => this k.1)
theorem runB_vt {s e m r d : Int} (h : vbB s e m r = true) : runB s e m r d = btw d s (e - 1) := by
  unfold vbB at h
  have := of_decide_eq_true h
  unfold runB btw
  by_cases c : s ≤ d ∧ d < e
  · rw [decide_eq_true ⟨this, c⟩, decide_eq_true (by omega)]
  · rw [decide_eq_false (fun k => c k.2), decide_eq_false (by omega)]
theorem vb_end {s e m r : Int} (h : vbB s e m r = true) : 0 ≤ s ∧ s < e ∧ e ≤ 36524 := by
  unfold vbB at h
  have h0 := of_decide_eq_true h
  have hne : perL s e m r ≠ [] := fun k => by rw [k] at h0; simp at h0
  have hp : perL s e m r = Sc.sch s e m := by
    unfold perL at hne ⊢
    split
    · rfl
    · rename_i c; rw [if_neg c] at hne; exact absurd rfl hne
  rw [hp] at hne
  obtain ⟨ok, -, -⟩ := Sc.sch_pos hne
  exact (Sc.okB_iff.1 ok).1
abbrev S4 (b : Nat) (s e m r : Int) (W : World) : Prop :=
  W.cell? ⟨b, 0, none⟩ = some (.int .i64 s) ∧ W.cell? ⟨b, 1, none⟩ = some (.int .i64 e) ∧ W.cell? ⟨b, 2, none⟩ = some (.int .i64 m) ∧ W.cell? ⟨b, 3, none⟩ = some (.int .i64 r)
structure K4 (w : World) (s e m r : Int) (W : World) : Prop where
  c : S4 w.heap.size s e m r W
  lt : w.heap.size < W.heap.size
  bel : Below w.heap.size w W
theorem K4.below {w W W' : World} {s e m r : Int} (k : K4 w s e m r W) (hb : Below W.heap.size W W') : K4 w s e m r W' :=
  ⟨⟨cellA_below k.c.1 hb, cellA_below k.c.2.1 hb, cellA_below k.c.2.2.1 hb, cellA_below k.c.2.2.2 hb⟩, Nat.lt_of_lt_of_le k.lt hb.size, k.bel.trans (hb.mono k.bel.size)⟩
theorem K4.drew {w W : World} {s e m r : Int} (k : K4 w s e m r W) : K4 w s e m r W.drew := ⟨k.c, k.lt, k.bel.drew⟩
theorem K4.alloc {w W : World} {s e m r : Int} (k : K4 w s e m r W) (o : Obj) : K4 w s e m r (W.alloc o) := k.below ((Below.refl _ _).alloc (Nat.le_refl _) o)
theorem K4.set {w W : World} {s e m r : Int} (k : K4 w s e m r W) {q : Addr} (hq : w.heap.size < q.block) (u : Value) : K4 w s e m r (W.setCell q u) :=
  ⟨⟨(World.cell?_setCell_other _ _ _ _ (by intro e; rw [e] at hq; exact Nat.lt_irrefl _ hq)).trans k.c.1, (World.cell?_setCell_other _ _ _ _ (by intro e; rw [e] at hq; exact Nat.lt_irrefl _ hq)).trans k.c.2.1, (World.cell?_setCell_other _ _ _ _ (by intro e; rw [e] at hq; exact Nat.lt_irrefl _ hq)).trans k.c.2.2.1, (World.cell?_setCell_other _ _ _ _ (by intro e; rw [e] at hq; exact Nat.lt_irrefl _ hq)).trans k.c.2.2.2⟩, by simpa [World.setCell] using k.lt, k.bel.setCell (Nat.le_of_lt hq) u⟩
theorem bx3 {W W' : World} {g B : Nat} {T : TypeId} {x y u : Value} (h : Blk W g T #[x, y, u]) (hb : Below B W W') (hlt : g < B) : Blk W' g T #[x, y, u] ∧ W'.cell? ⟨g, 0, none⟩ = some x ∧ W'.cell? ⟨g, 1, none⟩ = some y ∧ W'.cell? ⟨g, 2, none⟩ = some u ∧ W'.frozen? ⟨g, 0, none⟩ = false ∧ W'.frozen? ⟨g, 1, none⟩ = false ∧ W'.frozen? ⟨g, 2, none⟩ = false ∧ g < W'.heap.size := by
  have h' := h.below hb hlt
  exact ⟨h', h'.three.1.1, h'.three.1.2.1, h'.three.1.2.2, h'.three.2.1, h'.three.2.2.1, h'.three.2.2.2, h'.lt⟩
theorem blkDrew' {w : World} {b : Nat} {t : TypeId} {cs : Array Value} (h : Blk w b t cs) : Blk w.drew b t cs := h
/-- A bond's box, and a period's. -/
structure KB (w : World) (p : Nat) (s e m r f t : Int) (z : Bool) (W : World) : Prop where
  k : K4 w s e m r W
  q0 : W.cell? ⟨p, 0, none⟩ = some (.int .i64 f)
  q1 : W.cell? ⟨p, 1, none⟩ = some (.int .i64 t)
  q2 : W.cell? ⟨p, 2, none⟩ = some (.bool z)
theorem KB.ofAlloc {w W : World} {s e m r : Int} (k : K4 w s e m r W) (f t : Int) (z : Bool) : KB w W.heap.size s e m r f t z (W.alloc (.cells #[.int .i64 f, .int .i64 t, .bool z] 53)) := by
  obtain ⟨⟨a, b, c⟩, -⟩ := (Blk.new W #[.int .i64 f, .int .i64 t, .bool z] 53).three
  exact ⟨k.alloc _, a, b, c⟩
theorem KB.ofSet {w W : World} {s e m r : Int} {g : Nat} {T : TypeId} {x y u : Value} (k : K4 w s e m r W) (h : Blk W g T #[x, y, u]) (hg : w.heap.size < g) (f t : Int) (z : Bool) :
    KB w g s e m r f t z (((W.setCell ⟨g, 0, none⟩ (.int .i64 f)).setCell ⟨g, 1, none⟩ (.int .i64 t)).setCell ⟨g, 2, none⟩ (.bool z)) := by
  have h0 := h.put 0 (.int .i64 f) rfl
  have h1 := h0.put 1 (.int .i64 t) rfl
  have h2 : Blk _ g T #[.int .i64 f, .int .i64 t, .bool z] := h1.put 2 (.bool z) rfl
  obtain ⟨⟨a, b, c⟩, -⟩ := h2.three
  exact ⟨((k.set hg _).set hg _).set hg _, a, b, c⟩
theorem KB.below {w W W' : World} {p : Nat} {s e m r f t : Int} {z : Bool} (h : KB w p s e m r f t z W) (hb : Below W.heap.size W W') : KB w p s e m r f t z W' :=
  ⟨h.k.below hb, cellA_below h.q0 hb, cellA_below h.q1 hb, cellA_below h.q2 hb⟩
theorem KB.drew {w W : World} {p : Nat} {s e m r f t : Int} {z : Bool} (h : KB w p s e m r f t z W) : KB w p s e m r f t z W.drew := ⟨h.k.drew, h.q0, h.q1, h.q2⟩
theorem KB.cells {w W : World} {p : Nat} {s e m r f t : Int} {z : Bool} (k : KB w p s e m r f t z W) : SA w.heap.size p s e m r f t z W :=
  ⟨k.k.c.1, k.k.c.2.1, k.k.c.2.2.1, k.k.c.2.2.2, k.q0, k.q1, k.q2⟩
theorem acc_no {s e m r d : Int} (h : runB s e m r d = false) : accV s e m r d = -1 := by unfold accV; rw [if_neg (by rw [h]; decide)]
theorem acc_bd {s e m r d : Int} (h : runB s e m r d = true) : 0 ≤ accV s e m r d ∧ accV s e m r d ≤ 120000000 := by
  obtain ⟨-, -, f, t, z, hg, a0, a1, a2, hA, hf, ht, hc0, hc1⟩ := run_per h
  have E : accV s e m r d = Rt.near (cpnV m r f t z * (d - f)) (t - f) := by unfold accV accP; rw [if_pos h, hg]
  rw [E]
  have h1 := near_part (w := cpnV m r f t z) (a := d - f) (b := t - f) hc0 (by omega) (by omega)
  have h2 : 0 ≤ cpnV m r f t z * (d - f) := Int.mul_nonneg hc0 (by omega)
  refine ⟨?_, by omega⟩
  unfold Rt.near
  exact Int.ediv_nonneg (by omega) (by omega)
noncomputable def dirV (s e m r d c : Int) : Int := if runB s e m r d = true ∧ btw c 0 50000 = true then c + accV s e m r d else -1
noncomputable def cleB (s e m r d c : Int) : Bool := runB s e m r d && btw c (accV s e m r d) (50000 + accV s e m r d)
noncomputable def cleV (s e m r d c : Int) : Value := if cleB s e m r d c = true then .tuple #[.int .i64 (c - accV s e m r d), .bool true] else .tuple #[.int .i64 0, .bool false]
end Go.Proofs.YtbihadelhknlnaaDoor

/- A bond and a day near it, drawn out of a law's input. -/
namespace Go.Proofs.YtbihadelhknlnaaDoor
open Go.RowKit
theorem mulD {u M : Int} (u0 : 0 ≤ u) (u1 : u < 250) (m0 : 1 ≤ M) (m1 : M ≤ 60001) : 0 ≤ u * M ∧ u * M ≤ 15000250 ∧ 0 ≤ (u * M).tdiv 250 ∧ (u * M).tdiv 250 ≤ 15000250 := by
  have a := Int.mul_nonneg u0 (show 0 ≤ M by omega)
  have b := Int.mul_le_mul (show u ≤ 250 by omega) m1 (show 0 ≤ M by omega) (by omega)
  rw [Int.tdiv_eq_ediv_of_nonneg a]
  omega
theorem grown_drew1 {a w : World} {g : Nat} (h : a.grownBy w (some g)) : a.grownBy w.drew (some g) := ⟨h.os, h.tape, h.output, h.size, h.block⟩
theorem Rdr.drewD {w : World} {g p : Nat} (h : Rdr w g p) : Rdr w.drew g p := h
theorem s4Of {W : World} {b : Nat} {T : TypeId} {s e m r : Int} (h : Blk W b T #[.int .i64 s, .int .i64 e, .int .i64 m, .int .i64 r]) : S4 b s e m r W := ⟨h.four.1, h.four.2.1, h.four.2.2.1, h.four.2.2.2⟩
theorem Blk.setO {W : World} {g : Nat} {T : TypeId} {cs : Array Value} (h : Blk W g T cs) {q : Addr} (hq : g ≠ q.block) (u : Value) : Blk (W.setCell q u) g T cs := by
  unfold Blk at *
  simp only [World.setCell, Array.getElem?_modify]
  rw [if_neg (fun e => hq e.symm), h]
set_option maxRecDepth 8000 in
set_option maxHeartbeats 4000000 in
theorem bondDay_any (w : World) (g p : Nat) (h : Rdr w g p) (hp : p ≤ 700000) :
    Calls Tryd.prog 17 #[.pointer (some ⟨g, 0, none⟩)] w fun x w' => ∃ s e m r d : Int, x = .returned (.tuple #[boV s e m r, .int .i64 d]) ∧ (0 ≤ s ∧ s ≤ 20000) ∧ (-2 ≤ e ∧ e ≤ 60000) ∧ (0 ≤ m ∧ m ≤ 12) ∧ (-1 ≤ r ∧ r ≤ 3001) ∧ (-5 ≤ d ∧ d ≤ 20000000) ∧ Rdr w' g (p + 30) ∧ w.grownBy w' (some g) := by
  have hgl := h.lt
  go_enter Tryd.func17, Tryd.ntmps17
  go_wp2_with fail
  refine (anyBond_any _ _ _ (h.alloc _) (by omega)).mono ?_
  rintro x w1 ⟨s, e, m, r, rfl, hs, he, hm, hr, hr1, hg1⟩
  have kR := (Blk.new w #[.int .i64 0, .int .i64 0, .int .i64 0, .int .i64 0] 24).grown hg1 (by omega)
  have kB := Blk.new w1 #[.int .i64 s, .int .i64 e, .int .i64 m, .int .i64 r] 24
  have hlt1 := hr1.lt
  have hrl := kR.lt
  have hG := grown_alloc (grown_trans (grown_alloc (grown_refl w g) (.cells #[.int .i64 0, .int .i64 0, .int .i64 0, .int .i64 0] 24)) hg1) (.cells #[.int .i64 s, .int .i64 e, .int .i64 m, .int .i64 r] 24)
  go_wp2_with fail
  refine (pick_any _ _ _ _ (hr1.alloc _) (by omega) (by omega) (by omega)).mono ?_
  rintro x w2 ⟨v, rfl, ⟨hv, -⟩, hr2, hg2⟩
  obtain ⟨v0, v1⟩ := hv (by omega)
  replace kR := (kR.alloc (.cells #[.int .i64 s, .int .i64 e, .int .i64 m, .int .i64 r] 24)).grown hg2 (by omega)
  replace kB := kB.grown hg2 (by omega)
  replace hG := grown_trans hG hg2
  have HB2 := Lib.hid kB
  have HR2 := Lib.hid kR
  have HG := Lib.hid hG
  have HD := Lib.hid hr2
  have hgl2 := hr2.lt
  have hBl := kB.lt
  obtain ⟨Bb, hBb⟩ : ∃ Bb, Bb = w1.heap.size := ⟨_, rfl⟩
  rw [← hBb] at HB2 hBl hlt1 hrl ⊢
  obtain ⟨x0, x1, x2, x3⟩ := kR.four
  obtain ⟨z0, z1, z2, z3⟩ := fourFz kR
  clear kB kR hG hr2 hg2 hBb hr1 hg1 hv
  by_cases c0 : v = 0
  · subst c0
    have W1 : IntKind.i64.wrap (s - 1) = s - 1 := IntWalk.i64_in _ (by omega)
    have W2 : IntKind.i64.wrap (e - 1) = e - 1 := IntWalk.i64_in _ (by omega)
    have W3 : IntKind.i64.wrap (e + 1) = e + 1 := IntWalk.i64_in _ (by omega)
    have OK : Hid (okInts (-5) 70000 #[.int .i64 (s - 1), .int .i64 s, .int .i64 (e - 1), .int .i64 e, .int .i64 (e + 1)] = true) := Lib.hid (by simp [okInts, okInt]; omega)
    go_wp2_with fail
    go_region_held3 (S4 Bb s e m r) (first | with_reducible exact s4Of (blkDrew' HB2.out) | with_reducible exact s4Of ((blkDrew' HB2.out).alloc _) | with_reducible exact s4Of (blkDrew' (HB2.out.alloc _)) | with_reducible exact s4Of k3 | with_reducible exact s4Of ((((k3.setO (by dsimp only; omega) _).setO (by dsimp only; omega) _).setO (by dsimp only; omega) _).setO (by dsimp only; omega) _)) (first | (go_at_call 31; (try rw [W1]); (try rw [W2]); (try rw [W3]); refine (one_any (-5) 70000 _ g (p + 10 + 10 + 1) w2.heap.size #[.int .i64 (s - 1), .int .i64 s, .int .i64 (e - 1), .int .i64 e, .int .i64 (e + 1)] 3 ?_ (by omega) ?_ (by omega) (by simp) (by simp) OK.out 5 5 (by rfl)).mono ?_; (exact Rdr.drewD (HD.out.alloc _)); (exact heap_alloc_new w2 _); rintro x w3 ⟨d, rfl, ⟨d0, d1⟩, hr3, hg3⟩; have k3 := Blk.grown (blkDrew' (HB2.out.alloc _)) hg3 (by omega); have kR3 := Blk.grown (blkDrew' (HR2.out.alloc _)) hg3 (by omega); obtain ⟨x0, x1, x2, x3⟩ := kR3.four; obtain ⟨z0, z1, z2, z3⟩ := fourFz kR3; have hg4 := grown_trans (grown_drew1 (grown_alloc HG.out _)) hg3))
    all_goals go_wp2_with fail
    all_goals
      have k2 := put4_blk kR3 s e m r
      obtain ⟨r0', r1', r2', r3'⟩ := k2.four
      unfold put4 at r0' r1' r2' r3'
      refine bodyPost_ret (v := .tuple #[boV s e m r, .int .i64 d]) (by simp [results, Tryd.results17, go_sem, r0', r1', r2', r3']) rfl ⟨s, e, m, r, d, rfl, hs, he, hm, hr, ⟨by omega, by omega⟩, put4_rdr (hr3.more (by omega)) (by omega) _ _ _ _, put4_grown hg4 (by omega) _ _ _ _⟩
  · have d0 : (v == 0) = false := by simp [c0]
    obtain ⟨M, hM⟩ : ∃ M, M = max (e - s) 1 := ⟨_, rfl⟩
    have M0 : 1 ≤ M := by omega
    have M1 : M ≤ 60001 := by omega
    have W1 : IntKind.i64.wrap (e - s) = e - s := IntWalk.i64_in _ (by omega)
    have fmax : ∀ W : World, (Builtin.max_ #[3, 3] 3 #[.int .i64 (e - s), .int .i64 1]).run Tryd.prog W = .ok (.int .i64 M) W := fun W => by rw [hM]; exact run_max2' _ _ _ _ W
    clear hM
    go_wp2_with fail
    go_region_held3 (S4 Bb s e m r) (first | with_reducible exact s4Of (blkDrew' HB2.out) | with_reducible exact s4Of ((blkDrew' HB2.out).alloc _) | with_reducible exact s4Of (blkDrew' (HB2.out.alloc _)) | with_reducible exact s4Of k3 | with_reducible exact s4Of ((((k3.setO (by dsimp only; omega) _).setO (by dsimp only; omega) _).setO (by dsimp only; omega) _).setO (by dsimp only; omega) _)) (first | (go_at_call 20; refine (pick_any 250 _ g (p + 10 + 10 + 1) ?_ (by omega) (by omega) (by omega)).mono ?_; (exact Rdr.drewD HD.out); rintro x w3 ⟨u, rfl, ⟨hu, -⟩, hr3, hg3⟩; obtain ⟨u0, u1⟩ := hu (by omega); have uM := mulD u0 u1 M0 M1; obtain ⟨uM0, uM1, uM2, uM3⟩ := uM; have k3 := Blk.grown (blkDrew' HB2.out) hg3 (by omega); have kR3 := Blk.grown (blkDrew' HR2.out) hg3 (by omega); obtain ⟨x0, x1, x2, x3⟩ := kR3.four; obtain ⟨z0, z1, z2, z3⟩ := fourFz kR3; have hg4 := grown_trans (grown_drew1 HG.out) hg3))
    all_goals go_wp2_with fail
    all_goals
      have e1 : IntKind.i64.wrap (u * M) = u * M := IntWalk.i64_in _ (by omega)
      have e2 : IntKind.i64.wrap ((u * M).tdiv 250) = (u * M).tdiv 250 := IntWalk.i64_in _ (by omega)
      have e3 : IntKind.i64.wrap (s + (u * M).tdiv 250) = s + (u * M).tdiv 250 := IntWalk.i64_in _ (by omega)
      rw [e1, e2, e3]
      have k2 := put4_blk kR3 s e m r
      obtain ⟨r0', r1', r2', r3'⟩ := k2.four
      unfold put4 at r0' r1' r2' r3'
      refine bodyPost_ret (v := .tuple #[boV s e m r, .int .i64 (s + (u * M).tdiv 250)]) (by simp [results, Tryd.results17, go_sem, r0', r1', r2', r3']) rfl ⟨s, e, m, r, s + (u * M).tdiv 250, rfl, hs, he, hm, hr, ⟨by omega, by omega⟩, put4_rdr (hr3.more (by omega)) (by omega) _ _ _ _, put4_grown hg4 (by omega) _ _ _ _⟩
def DDay (w : World) (x : Ending) (w' : World) : Prop :=
  ∃ s e m r d : Int, x = .returned (.tuple #[boV s e m r, .int .i64 d]) ∧ (0 ≤ s ∧ s ≤ 20000) ∧ (-2 ≤ e ∧ e ≤ 60000) ∧ (0 ≤ m ∧ m ≤ 12) ∧ (-1 ≤ r ∧ r ≤ 3001) ∧ (-5 ≤ d ∧ d ≤ 20000000) ∧ Below w.heap.size w w'
end Go.Proofs.YtbihadelhknlnaaDoor
