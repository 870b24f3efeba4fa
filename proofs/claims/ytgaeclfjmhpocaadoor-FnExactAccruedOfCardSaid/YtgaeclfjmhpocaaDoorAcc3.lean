/- The accrued interest of the program. -/
import Derived.Test.YtgaeclfjmhpocaaDoorAcc2
import Derived.Test.YtgaeclfjmhpocaaDoorFlow
import Derived.Deep.RegionHeld3
namespace Go.Proofs.YtgaeclfjmhpocaaDoor
open Go.RowKit
noncomputable def accP (m r d : Int) (p : Per) : Int := Rt.near (cpnV m r p.1 p.2.1 p.2.2 * (d - p.1)) (p.2.1 - p.1)
/-- The accrued interest. -/
noncomputable def accV (s e m r d : Int) : Int := if runB s e m r d = true then accP m r d ((perL s e m r).getD (runK s e m r d) p0) else -1
/-- What is known of the period that runs. -/
theorem run_per {s e m r d : Int} (h : runB s e m r d = true) : (1 ≤ m ∧ m ≤ 12) ∧ (0 ≤ r ∧ r ≤ 3000) ∧ ∃ f t : Int, ∃ z : Bool, (perL s e m r).getD (runK s e m r d) p0 = (f, t, z) ∧ 0 ≤ f ∧ f < t ∧ t ≤ 36524 ∧ addV t (-m) < t ∧ f ≤ d ∧ d < t ∧ (0 ≤ cpnV m r f t z ∧ cpnV m r f t z ≤ 120000000) := by
  obtain ⟨hk, -, hf, ht, -⟩ := runK_facts h
  have hne : perL s e m r ≠ [] := fun k => by rw [k] at hk; simp at hk
  obtain ⟨⟨m0, m1⟩, ⟨r0, r1⟩, -, hpf⟩ := per_facts hne
  obtain ⟨f, t, z, hg, a0, a1, a2, hA⟩ := hpf _ hk
  rw [hg] at hf ht
  exact ⟨⟨m0, m1⟩, ⟨r0, r1⟩, f, t, z, hg, a0, a1, a2, hA, hf, ht, cpn_bd z m0 m1 r0 r1 a0 a1 a2 hA⟩
theorem mulc_bd {c x : Int} (c0 : 0 ≤ c) (c1 : c ≤ 120000000) (x0 : 0 ≤ x) (x1 : x ≤ 36524) : 0 ≤ c * x ∧ c * x ≤ 4382880000000 := by
  refine ⟨Int.mul_nonneg c0 x0, ?_⟩
  have := Int.mul_le_mul c1 x1 x0 (by omega)
  omega
abbrev SA (b p : Nat) (s e m r f t : Int) (z : Bool) (W : World) : Prop :=
  W.cell? ⟨b, 0, none⟩ = some (.int .i64 s) ∧ W.cell? ⟨b, 1, none⟩ = some (.int .i64 e) ∧ W.cell? ⟨b, 2, none⟩ = some (.int .i64 m) ∧ W.cell? ⟨b, 3, none⟩ = some (.int .i64 r) ∧
    W.cell? ⟨p, 0, none⟩ = some (.int .i64 f) ∧ W.cell? ⟨p, 1, none⟩ = some (.int .i64 t) ∧ W.cell? ⟨p, 2, none⟩ = some (.bool z)
structure KA (w : World) (p : Nat) (s e m r f t : Int) (z : Bool) (W : World) : Prop where
  b0 : W.cell? ⟨w.heap.size, 0, none⟩ = some (.int .i64 s)
  b1 : W.cell? ⟨w.heap.size, 1, none⟩ = some (.int .i64 e)
  b2 : W.cell? ⟨w.heap.size, 2, none⟩ = some (.int .i64 m)
  b3 : W.cell? ⟨w.heap.size, 3, none⟩ = some (.int .i64 r)
  q0 : W.cell? ⟨p, 0, none⟩ = some (.int .i64 f)
  q1 : W.cell? ⟨p, 1, none⟩ = some (.int .i64 t)
  q2 : W.cell? ⟨p, 2, none⟩ = some (.bool z)
  tab : Tab W
  bel : Below w.heap.size w W
theorem cellA_below {W W' : World} {b i : Nat} {v : Value} (h : W.cell? ⟨b, i, none⟩ = some v) (hb : Below W.heap.size W W') : W'.cell? ⟨b, i, none⟩ = some v :=
  (hb.cell (p := ⟨b, i, none⟩) (World.block_lt_of_cell? W _ h)).trans h
theorem KA.below {w W W' : World} {p : Nat} {s e m r f t : Int} {z : Bool} (k : KA w p s e m r f t z W) (hb : Below W.heap.size W W') : KA w p s e m r f t z W' :=
  ⟨cellA_below k.b0 hb, cellA_below k.b1 hb, cellA_below k.b2 hb, cellA_below k.b3 hb, cellA_below k.q0 hb, cellA_below k.q1 hb, cellA_below k.q2 hb, k.tab.below hb k.tab.pos, k.bel.trans (hb.mono k.bel.size)⟩
theorem KA.drew {w W : World} {p : Nat} {s e m r f t : Int} {z : Bool} (k : KA w p s e m r f t z W) : KA w p s e m r f t z W.drew :=
  ⟨k.b0, k.b1, k.b2, k.b3, k.q0, k.q1, k.q2, k.tab, k.bel.drew⟩
theorem KA.cells {w W : World} {p : Nat} {s e m r f t : Int} {z : Bool} (k : KA w p s e m r f t z W) : SA w.heap.size p s e m r f t z W :=
  ⟨k.b0, k.b1, k.b2, k.b3, k.q0, k.q1, k.q2⟩
set_option maxRecDepth 8000 in
set_option maxHeartbeats 2000000 in
theorem accruedOf_any (s e m r d : Int) (w : World) (hT : Tab w) :
    Calls Tryd.prog 25 #[boV s e m r, .int .i64 d] w fun x w' => x = .returned (.int .i64 (accV s e m r d)) ∧ Below w.heap.size w w' := by
  have HT := Lib.hid hT; clear hT
  have kB := Blk.new w #[.int .i64 s, .int .i64 e, .int .i64 m, .int .i64 r] 24
  have hbA := (Below.refl w.heap.size w).alloc (Nat.le_refl _) (.cells #[.int .i64 s, .int .i64 e, .int .i64 m, .int .i64 r] 24)
  have HTA := Lib.hid (HT.out.below hbA HT.out.pos)
  cases hR : runB s e m r d with
  | false =>
    have E := Lib.hid (show accV s e m r d = -1 by unfold accV; rw [if_neg (by rw [hR]; decide)])
    have HR := Lib.hid hR
    clear hR
    go_enter Tryd.func25, Tryd.ntmps25
    go_wp2_with fail
    refine (periodAt_no _ _ _ _ _ _ HTA.out HR.out).mono ?_
    rintro x w1 ⟨rfl, hb1⟩
    replace hbA := hbA.trans (hb1.mono hbA.size)
    have hbs := hbA.size
    go_wp2_with fail
    go_ret
    exact ⟨ret_int E.out.symm, hbA.alloc hbs _⟩
  | true =>
    obtain ⟨⟨m0, m1⟩, ⟨r0, r1⟩, f, t, z, hg, a0, a1, a2, hA, hf, ht, hc0, hc1⟩ := run_per hR
    have E := Lib.hid (show accV s e m r d = Rt.near (cpnV m r f t z * (d - f)) (t - f) by unfold accV accP; rw [if_pos hR, hg])
    have PA : ∀ W, Tab W → Calls Tryd.prog 52 #[boV s e m r, .int .i64 d] W fun x w' => x = .returned (.tuple #[pV (f, t, z), .bool true]) ∧ Below W.heap.size W w' := fun W hW => by
      have := periodAt_yes s e m r d W hW hR
      rw [hg] at this
      exact this
    have HPA := Lib.hid PA
    have CP := Lib.hid (fun W hW => coupon_any s e m r f t z W hW m0 m1 r0 r1 a0 a1 a2 hA)
    clear PA hg hR hA
    obtain ⟨C, hC⟩ : ∃ C, C = cpnV m r f t z := ⟨_, rfl⟩
    rw [← hC] at E CP hc0 hc1
    clear hC
    obtain ⟨p0', p1'⟩ := mulc_bd hc0 hc1 (x := d - f) (by omega) (by omega)
    go_enter Tryd.func25, Tryd.ntmps25
    go_wp2_with fail
    refine (HPA.out _ HTA.out).mono ?_
    rintro x w1 ⟨rfl, hb1⟩
    replace kB := (kB.below hb1 kB.lt).alloc (.cells #[.int .i64 f, .int .i64 t, .bool z] 41)
    have kP := Blk.new w1 #[.int .i64 f, .int .i64 t, .bool z] 41
    replace hbA := hbA.trans (hb1.mono hbA.size)
    have hbs := hbA.size
    replace hbA := hbA.alloc hbs (.cells #[.int .i64 f, .int .i64 t, .bool z] 41)
    have HTB := Lib.hid (HT.out.below hbA HT.out.pos)
    obtain ⟨b0, b1, b2, b3⟩ := kB.four
    obtain ⟨⟨q0, q1, q2⟩, -, -, -⟩ := kP.three
    go_wp2_with fail
    have K := Lib.hid (KA.mk b0 b1 b2 b3 q0 q1 q2 HTB.out hbA)
    clear b0 b1 b2 b3 q0 q1 q2 kB kP hbs hb1
    have W1 : IntKind.i64.wrap (C * (d - f)) = C * (d - f) := IntWalk.i64_in _ (by omega)
    have W2 : IntKind.i64.wrap (d - f) = d - f := IntWalk.i64_in _ (by omega)
    go_region_held3 (SA w.heap.size w1.heap.size s e m r f t z) (first | exact K.out.drew.cells | exact k1.cells | exact k2.cells) (first | (go_at_call 46; with_reducible refine (CP.out _ (by exact K.out.drew.tab)).mono ?_; rintro x w2 ⟨rfl, hb2⟩; have k1 := K.out.drew.below hb2) | (go_at_call 54; with_reducible refine (days_any f t z _ a0 (by omega) (by omega) (by omega)).mono ?_; rintro x w3 ⟨rfl, hb3⟩; have k2 := k1.below hb3) | (go_at_call 53; (try rw [W2]); (try rw [W1]); with_reducible refine (rounded_any (C * (d - f)) (t - f) _ (by omega) (by omega) (by omega) (by omega)).mono ?_; rintro x w4 ⟨rfl, rfl⟩))
    all_goals go_wp2_with fail
    all_goals
      go_ret
      exact ⟨ret_int E.out.symm, k2.bel⟩
end Go.Proofs.YtgaeclfjmhpocaaDoor
