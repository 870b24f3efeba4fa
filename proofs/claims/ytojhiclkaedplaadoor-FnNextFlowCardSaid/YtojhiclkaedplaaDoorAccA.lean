/- The period that runs, and the accrued interest of the program. -/
import Derived.Test.YtojhiclkaedplaaDoorBnd
import Derived.Test.YtojhiclkaedplaaDoorSchD
import Derived.OwnWalk
import Derived.Outline
import Derived.Test.YtojhiclkaedplaaDoorDrawBond
import Derived.Test.YtojhiclkaedplaaDoorFlow
import Derived.Deep.RegionHeld3
namespace Go.Proofs.YtojhiclkaedplaaDoor
open Go.RowKit
/-- The search for the first period that ends behind a day. -/
def IsK (ps : List Per) (d : Int) (k : Nat) : Prop := k ≤ ps.length ∧ ∀ h, h < ps.length → (d < (ps.getD h p0).2.1 ↔ k ≤ h)
/-- The period of a bond that runs at a day. -/
noncomputable def runB (s e m r d : Int) : Bool := decide (0 < (perL s e m r).length ∧ s ≤ d ∧ d < e)
theorem runB_iff {s e m r d : Int} : runB s e m r d = true ↔ 0 < (perL s e m r).length ∧ s ≤ d ∧ d < e := by unfold runB; simp
/-- What is known of the period that runs. -/
theorem run_facts {s e m r d : Int} (h : runB s e m r d = true) : ∃ k : Nat, k < (perL s e m r).length ∧ IsK (perL s e m r) d k ∧ ((perL s e m r).getD k p0).1 ≤ d ∧ d < ((perL s e m r).getD k p0).2.1 ∧
    (∀ j, j < k → ¬ (((perL s e m r).getD j p0).1 ≤ d ∧ d < ((perL s e m r).getD j p0).2.1)) := by
  obtain ⟨h0, h1, h2⟩ := runB_iff.1 h
  have hne : perL s e m r ≠ [] := fun k => by rw [k] at h0; simp at h0
  have hp : perL s e m r = Sc.sch s e m := by
    unfold perL at hne ⊢
    split
    · rfl
    · rename_i c; rw [if_neg c] at hne; exact absurd rfl hne
  rw [hp] at hne h0 ⊢
  obtain ⟨ok, hN, hall⟩ := Sc.sch_pos hne
  have hlen : (Sc.sch s e m).length = Sc.N s e m := by rw [hall, Sc.all_len]
  rw [hlen] at h0 ⊢
  have hf : ∀ i, i < Sc.N s e m → ∃ f t : Int, ∃ b : Bool, (Sc.sch s e m).getD i p0 = (f, t, b) ∧ f < t ∧ (i = 0 → f = s) ∧ (i + 1 = Sc.N s e m → t = e) ∧ (0 < i → f = ((Sc.sch s e m).getD (i - 1) p0).2.1) := fun i hi => by
    obtain ⟨f, t, b, hg, hlt, -, -, -, q0, q1, q2⟩ := Sc.all_facts ok hN hi
    rw [hall]
    exact ⟨f, t, b, hg, hlt, q0, q1, fun q => (q2 q).2⟩
  have he : d < ((Sc.sch s e m).getD (Sc.N s e m - 1) p0).2.1 := by
    obtain ⟨f, t, b, hg, -, -, q, -⟩ := hf (Sc.N s e m - 1) (by omega)
    rw [hg]
    have := q (by omega)
    dsimp only
    omega
  unfold IsK
  rw [hlen]
  generalize Sc.N s e m = n at *
  generalize Sc.sch s e m = ps at *
  have lt : ∀ i, i < n → (ps.getD i p0).1 < (ps.getD i p0).2.1 := fun i hi => by
    obtain ⟨f, t, b, hg, q, -⟩ := hf i hi
    rw [hg]; exact q
  have co : ∀ i, i + 1 < n → (ps.getD (i + 1) p0).1 = (ps.getD i p0).2.1 := fun i hi => by
    obtain ⟨f, t, b, hg, -, -, -, q⟩ := hf (i + 1) hi
    have := q (by omega)
    rw [hg]; exact this
  have k0 : (ps.getD 0 p0).1 = s := by
    obtain ⟨f, t, b, hg, -, q, -⟩ := hf 0 h0
    rw [hg]; exact q rfl
  have up : ∀ j i, i ≤ j → j < n → (ps.getD i p0).2.1 ≤ (ps.getD j p0).2.1 := by
    intro j
    induction j with
    | zero => intro i a b; obtain rfl : i = 0 := by omega
              omega
    | succ j ih =>
      intro i a b
      rcases Nat.lt_or_ge i (j + 1) with c | c
      · have := ih i (by omega) (by omega)
        have := co j b
        have := lt (j + 1) b
        omega
      · obtain rfl : i = j + 1 := by omega
        omega
  have ex : ∀ j, j < n → d < (ps.getD j p0).2.1 → ∃ k, k ≤ j ∧ d < (ps.getD k p0).2.1 ∧ ∀ i, i < k → ¬ d < (ps.getD i p0).2.1 := by
    intro j
    induction j with
    | zero => intro _ c; exact ⟨0, Nat.le_refl _, c, fun i hi => by omega⟩
    | succ j ih =>
      intro hj c
      by_cases z : d < (ps.getD j p0).2.1
      · obtain ⟨k, a, b, c'⟩ := ih (by omega) z
        exact ⟨k, by omega, b, c'⟩
      · refine ⟨j + 1, Nat.le_refl _, c, fun i hi hz => z ?_⟩
        have := up j i (by omega) (by omega)
        omega
  obtain ⟨k, hk, hd, hb⟩ := ex (n - 1) (by omega) he
  refine ⟨k, by omega, ⟨by omega, fun h hh => ⟨fun c => ?_, fun c => ?_⟩⟩, ?_, hd, fun j hj c => hb j hj c.2⟩
  · rcases Nat.lt_or_ge h k with z | z
    · exact absurd c (hb h z)
    · exact z
  · have := up h k c hh
    omega
  · rcases Nat.eq_zero_or_pos k with z | z
    · rw [z, k0]; exact h1
    · have a := co (k - 1) (by omega)
      rw [show k - 1 + 1 = k by omega] at a
      have b := hb (k - 1) (by omega)
      omega
/-- Its index. -/
noncomputable def runK (s e m r d : Int) : Nat := if h : runB s e m r d = true then Classical.choose (run_facts h) else 0
theorem runK_facts {s e m r d : Int} (h : runB s e m r d = true) : runK s e m r d < (perL s e m r).length ∧ IsK (perL s e m r) d (runK s e m r d) ∧ ((perL s e m r).getD (runK s e m r d) p0).1 ≤ d ∧ d < ((perL s e m r).getD (runK s e m r d) p0).2.1 ∧
    (∀ j, j < runK s e m r d → ¬ (((perL s e m r).getD j p0).1 ≤ d ∧ d < ((perL s e m r).getD j p0).2.1)) := by
  unfold runK
  rw [dif_pos h]
  exact Classical.choose_spec (run_facts h)
theorem Blk.one {w : World} {b : Nat} {t : TypeId} {x : Value} (h : Blk w b t #[x]) : w.cell? ⟨b, 0, none⟩ = some x := by
  unfold Blk at h
  simp [World.cell?, h]
abbrev pV (p : Per) : Value := .agg #[.int .i64 p.1, .int .i64 p.2.1, .bool p.2.2]
abbrev boV (s e m r : Int) : Value := .agg #[.int .i64 s, .int .i64 e, .int .i64 m, .int .i64 r]
noncomputable def accP (m r d : Int) (p : Per) : Int := Rt.near (cpnV m r p.1 p.2.1 p.2.2 * (d - p.1)) (p.2.1 - p.1)
/-- The accrued interest. -/
noncomputable def accV (s e m r d : Int) : Int := if runB s e m r d = true then accP m r d ((perL s e m r).getD (runK s e m r d) p0) else -1
/-- What is known of the period that runs. -/
theorem run_per {s e m r d : Int} (h : runB s e m r d = true) : (1 ≤ m ∧ m ≤ 12) ∧ (0 ≤ r ∧ r ≤ 3000) ∧ ∃ f t : Int, ∃ z : Bool, (perL s e m r).getD (runK s e m r d) p0 = (f, t, z) ∧ 0 ≤ f ∧ f < t ∧ t ≤ 36524 ∧ addV t (-m) < t ∧ f ≤ d ∧ d < t ∧ (0 ≤ cpnV m r f t z ∧ cpnV m r f t z ≤ 120000000) := by
  obtain ⟨hk, -, hf, ht, -⟩ := runK_facts h
  have hne : perL s e m r ≠ [] := fun k => by rw [k] at hk; simp at hk
  obtain ⟨⟨m0, m1⟩, ⟨r0, r1⟩, -, hpf⟩ := per_facts hne
  obtain ⟨f, t, z, hg, a0, a1, a2, hA⟩ := hpf _ hk
  rw [hg] at hf ht
  exact ⟨⟨m0, m1⟩, ⟨r0, r1⟩, f, t, z, hg, a0, a1, a2, hA, hf, ht, cpn_bd z m0 m1 r0 r1 a0 a1 a2 hA⟩
theorem mulc_bd {c x : Int} (c0 : 0 ≤ c) (c1 : c ≤ 120000000) (x0 : 0 ≤ x) (x1 : x ≤ 36524) : 0 ≤ c * x ∧ c * x ≤ 4382880000000 := by
  refine ⟨Int.mul_nonneg c0 x0, ?_⟩
  have := Int.mul_le_mul c1 x1 x0 (by omega)
  omega
abbrev SA (b p : Nat) (s e m r f t : Int) (z : Bool) (W : World) : Prop :=
  W.cell? ⟨b, 0, none⟩ = some (.int .i64 s) ∧ W.cell? ⟨b, 1, none⟩ = some (.int .i64 e) ∧ W.cell? ⟨b, 2, none⟩ = some (.int .i64 m) ∧ W.cell? ⟨b, 3, none⟩ = some (.int .i64 r) ∧
    W.cell? ⟨p, 0, none⟩ = some (.int .i64 f) ∧ W.cell? ⟨p, 1, none⟩ = some (.int .i64 t) ∧ W.cell? ⟨p, 2, none⟩ = some (.bool z)
structure KA (w : World) (p : Nat) (s e m r f t : Int) (z : Bool) (W : World) : Prop where
  b0 : W.cell? ⟨w.heap.size, 0, none⟩ = some (.int .i64 s)
  b1 : W.cell? ⟨w.heap.size, 1, none⟩ = some (.int .i64 e)
  b2 : W.cell? ⟨w.heap.size, 2, none⟩ = some (.int .i64 m)
  b3 : W.cell? ⟨w.heap.size, 3, none⟩ = some (.int .i64 r)
  q0 : W.cell? ⟨p, 0, none⟩ = some (.int .i64 f)
  q1 : W.cell? ⟨p, 1, none⟩ = some (.int .i64 t)
  q2 : W.cell? ⟨p, 2, none⟩ = some (.bool z)
  tab : Tab W
  bel : Below w.heap.size w W
theorem cellA_below {W W' : World} {b i : Nat} {v : Value} (h : W.cell? ⟨b, i, none⟩ = some v) (hb : Below W.heap.size W W') : W'.cell? ⟨b, i, none⟩ = some v :=
  (hb.cell (p := ⟨b, i, none⟩) (World.block_lt_of_cell? W _ h)).trans h
theorem KA.below {w W W' : World} {p : Nat} {s e m r f t : Int} {z : Bool} (k : KA w p s e m r f t z W) (hb : Below W.heap.size W W') : KA w p s e m r f t z W' :=
  ⟨cellA_below k.b0 hb, cellA_below k.b1 hb, cellA_below k.b2 hb, cellA_below k.b3 hb, cellA_below k.q0 hb, cellA_below k.q1 hb, cellA_below k.q2 hb, k.tab.below hb k.tab.pos, k.bel.trans (hb.mono k.bel.size)⟩
theorem KA.drew {w W : World} {p : Nat} {s e m r f t : Int} {z : Bool} (k : KA w p s e m r f t z W) : KA w p s e m r f t z W.drew :=
  ⟨k.b0, k.b1, k.b2, k.b3, k.q0, k.q1, k.q2, k.tab, k.bel.drew⟩
theorem KA.cells {w W : World} {p : Nat} {s e m r f t : Int} {z : Bool} (k : KA w p s e m r f t z W) : SA w.heap.size p s e m r f t z W :=
  ⟨k.b0, k.b1, k.b2, k.b3, k.q0, k.q1, k.q2⟩
end Go.Proofs.YtojhiclkaedplaaDoor
