/- The accrued interest of the model, and dirty and clean prices. -/
import Derived.Test.YtkdooncfchmkfaaDoorAccA
import Derived.Test.YtkdooncfchmkfaaDoorZB
import Derived.Deep.RegionHeld3
import Derived.Deep.DeepCutAuto
import Derived.Test.YtkdooncfchmkfaaDoorLEqM
namespace Go.Proofs.YtkdooncfchmkfaaDoor
open Go.RowKit
set_option maxRecDepth 8000 in
set_option maxHeartbeats 2000000 in
theorem sPeriodOf_any (s e m r d : Int) (w : World) (hR : runB s e m r d = true) :
    Calls Tryd.prog 41 #[boV s e m r, .int .i64 d] w fun x w' => x = .returned (.int .i64 (runK s e m r d)) ∧ Below w.heap.size w w' := by
  have hne : perL s e m r ≠ [] := fun k => by have := (runB_iff.1 hR).1; rw [k] at this; simp at this
  have hp : perL s e m r = Sc.sch s e m := by
    unfold perL at hne ⊢
    split
    · rfl
    · rename_i c; rw [if_neg c] at hne; exact absurd rfl hne
  have hne' := hne
  rw [hp] at hne'
  obtain ⟨ok, hN, hall⟩ := Sc.sch_pos hne'
  obtain ⟨hk, -, hkf, hkt, hkb⟩ := runK_facts hR
  have hl40 := perL_len s e m r
  have HS := Lib.hid (fun W => sSched_any s e m W ok)
  obtain ⟨k, hkk⟩ : ∃ k, k = runK s e m r d := ⟨_, rfl⟩
  rw [← hkk] at hk hkf hkt hkb ⊢
  have HA : Hid (Sc.specL s e m (Sc.N s e m) = perL s e m r) := Lib.hid (by rw [hp, hall, Sc.specL_all ok hN])
  obtain ⟨ps, hps⟩ : ∃ ps, ps = perL s e m r := ⟨_, rfl⟩
  rw [← hps] at hk hkf hkt hkb HA hl40
  clear hps hkk hR hne hne' hp ok hN hall
  obtain ⟨n, hn⟩ : ∃ n, n = ps.length := ⟨_, rfl⟩
  rw [← hn] at hk hl40
  have HB := Lib.hid hkb
  have HKF := Lib.hid hkf
  have HKT := Lib.hid hkt
  have HN := Lib.hid hn
  clear hkb hkf hkt hn
  have kB := Blk.new w #[.int .i64 s, .int .i64 e, .int .i64 m, .int .i64 r] 27
  have hbA := (Below.refl w.heap.size w).alloc (Nat.le_refl _) (.cells #[.int .i64 s, .int .i64 e, .int .i64 m, .int .i64 r] 27)
  go_enter Tryd.func41, Tryd.ntmps41
  go_wp2_with fail
  refine (HS.out _).mono ?_
  rintro x w2 ⟨v, rfl, hq, hb⟩
  rw [HA.out] at hq
  have hrd := hq.1.rd
  obtain ⟨b, c, rfl, hbl, hc⟩ := hrd.2 (by rw [← HN.out]; omega)
  replace hbA := hbA.trans (hb.mono hbA.size)
  rw [← HN.out] at hc ⊢
  have HC := Lib.hid hc
  clear hrd hq hc hb kB
  go_wp2_with fail
  go_loopw [6] (fun x wr => ∃ i : Nat, i ≤ k ∧ x = .int .i64 i ∧ ∃ q, wr = w2.drewN q) (fun x _ => n - (intOf x).toNat)
  case atStart => exact ⟨0, by omega, rfl, 0, rfl⟩
  case round =>
    obtain ⟨i, hi, rfl, q, rfl⟩ := hrel
    obtain ⟨c0, c1, -⟩ := HC.out i (by omega)
    have hin : (i : Int) < (n : Int) := by omega
    by_cases hlt : i < k
    · have hb := HB.out i hlt
      generalize ps.getD i p0 = p at *
      obtain ⟨f, t, z⟩ := p
      dsimp only at c0 c1 hb
      by_cases e1 : f ≤ d
      · have d1 := decide_eq_true e1
        have d2 : decide (d < t) = false := decide_eq_false (fun h => hb ⟨e1, h⟩)
        clear hb e1
        go_wp2_with fail
        first | (go_quiet (fail); go_wp2_with fail) | skip
        go_roundw
        case rel => exact ⟨i + 1, by omega, by go_num, _, rfl⟩
        case measure => simp [intOf] <;> omega
      · have d1 := decide_eq_false e1
        clear hb e1
        go_wp2_with fail
        first | (go_quiet (fail); go_wp2_with fail) | skip
        go_roundw
        case rel => exact ⟨i + 1, by omega, by go_num, _, rfl⟩
        case measure => simp [intOf] <;> omega
    · obtain rfl : i = k := by omega
      have d1 := decide_eq_true HKF.out
      have d2 := decide_eq_true HKT.out
      generalize ps.getD i p0 = p at *
      obtain ⟨f, t, z⟩ := p
      dsimp only at c0 c1 d1 d2
      go_wp2_with fail
      first | (go_quiet (fail); go_wp2_with fail) | skip
      go_ret
      exact ⟨rfl, by first | exact below_drewN hbA _ | exact below_drewN (below_drewN hbA _) _⟩
theorem runB_vb {s e m r d : Int} (h : vbB s e m r = false) : runB s e m r d = false := by
  unfold vbB at h
  unfold runB
  have := of_decide_eq_false h
  exact decide_eq_false (fun k => this k.1)
theorem runB_vt {s e m r d : Int} (h : vbB s e m r = true) : runB s e m r d = btw d s (e - 1) := by
  unfold vbB at h
  have := of_decide_eq_true h
  unfold runB btw
  by_cases c : s ≤ d ∧ d < e
  · rw [decide_eq_true ⟨this, c⟩, decide_eq_true (by omega)]
  · rw [decide_eq_false (fun k => c k.2), decide_eq_false (by omega)]
theorem vb_end {s e m r : Int} (h : vbB s e m r = true) : 0 ≤ s ∧ s < e ∧ e ≤ 36524 := by
  unfold vbB at h
  have h0 := of_decide_eq_true h
  have hne : perL s e m r ≠ [] := fun k => by rw [k] at h0; simp at h0
  have hp : perL s e m r = Sc.sch s e m := by
    unfold perL at hne ⊢
    split
    · rfl
    · rename_i c; rw [if_neg c] at hne; exact absurd rfl hne
  rw [hp] at hne
  obtain ⟨ok, -, -⟩ := Sc.sch_pos hne
  exact (Sc.okB_iff.1 ok).1
set_option maxRecDepth 8000 in
set_option maxHeartbeats 1000000 in
theorem running_any (s e m r d : Int) (w : World) :
    Calls Tryd.prog 22 #[boV s e m r, .int .i64 d] w fun x w' => x = .returned (.bool (runB s e m r d)) ∧ Below w.heap.size w w' := by
  have kB := Blk.new w #[.int .i64 s, .int .i64 e, .int .i64 m, .int .i64 r] 27
  have hbA := (Below.refl w.heap.size w).alloc (Nat.le_refl _) (.cells #[.int .i64 s, .int .i64 e, .int .i64 m, .int .i64 r] 27)
  have HV := Lib.hid (sVBond_any s e m r)
  cases hv : vbB s e m r with
  | false =>
    have E := Lib.hid (runB_vb (d := d) hv)
    rw [hv] at HV
    clear hv
    go_enter Tryd.func22, Tryd.ntmps22
    go_wp2_with fail
    refine (HV.out _).mono ?_
    rintro x w1 ⟨rfl, hb1⟩
    go_wp2_with fail
    go_ret
    exact ⟨ret_bool E.out.symm, hbA.trans (hb1.mono hbA.size)⟩
  | true =>
    have E := Lib.hid (runB_vt (d := d) hv)
    obtain ⟨v0, v1, v2⟩ := vb_end hv
    rw [hv] at HV
    clear hv
    go_enter Tryd.func22, Tryd.ntmps22
    go_wp2_with fail
    refine (HV.out _).mono ?_
    rintro x w1 ⟨rfl, hb1⟩
    replace kB := kB.below hb1 kB.lt
    replace hbA := hbA.trans (hb1.mono hbA.size)
    obtain ⟨c0, c1, c2, c3⟩ := kB.four
    go_wp2_with fail
    refine (inRange_any _ _ _ _).mono ?_
    rintro x w2 ⟨rfl, rfl⟩
    go_wp2_with fail
    go_ret
    exact ⟨ret_bool E.out.symm, hbA⟩
abbrev S4 (b : Nat) (s e m r : Int) (W : World) : Prop :=
  W.cell? ⟨b, 0, none⟩ = some (.int .i64 s) ∧ W.cell? ⟨b, 1, none⟩ = some (.int .i64 e) ∧ W.cell? ⟨b, 2, none⟩ = some (.int .i64 m) ∧ W.cell? ⟨b, 3, none⟩ = some (.int .i64 r)
structure K4 (w : World) (s e m r : Int) (W : World) : Prop where
  c : S4 w.heap.size s e m r W
  lt : w.heap.size < W.heap.size
  bel : Below w.heap.size w W
theorem K4.below {w W W' : World} {s e m r : Int} (k : K4 w s e m r W) (hb : Below W.heap.size W W') : K4 w s e m r W' :=
  ⟨⟨cellA_below k.c.1 hb, cellA_below k.c.2.1 hb, cellA_below k.c.2.2.1 hb, cellA_below k.c.2.2.2 hb⟩, Nat.lt_of_lt_of_le k.lt hb.size, k.bel.trans (hb.mono k.bel.size)⟩
theorem K4.drew {w W : World} {s e m r : Int} (k : K4 w s e m r W) : K4 w s e m r W.drew := ⟨k.c, k.lt, k.bel.drew⟩
theorem K4.alloc {w W : World} {s e m r : Int} (k : K4 w s e m r W) (o : Obj) : K4 w s e m r (W.alloc o) := k.below ((Below.refl _ _).alloc (Nat.le_refl _) o)
theorem K4.set {w W : World} {s e m r : Int} (k : K4 w s e m r W) {q : Addr} (hq : w.heap.size < q.block) (u : Value) : K4 w s e m r (W.setCell q u) :=
  ⟨⟨(World.cell?_setCell_other _ _ _ _ (by intro e; rw [e] at hq; exact Nat.lt_irrefl _ hq)).trans k.c.1, (World.cell?_setCell_other _ _ _ _ (by intro e; rw [e] at hq; exact Nat.lt_irrefl _ hq)).trans k.c.2.1, (World.cell?_setCell_other _ _ _ _ (by intro e; rw [e] at hq; exact Nat.lt_irrefl _ hq)).trans k.c.2.2.1, (World.cell?_setCell_other _ _ _ _ (by intro e; rw [e] at hq; exact Nat.lt_irrefl _ hq)).trans k.c.2.2.2⟩, by simpa [World.setCell] using k.lt, k.bel.setCell (Nat.le_of_lt hq) u⟩
theorem bx3 {W W' : World} {g B : Nat} {T : TypeId} {x y u : Value} (h : Blk W g T #[x, y, u]) (hb : Below B W W') (hlt : g < B) : Blk W' g T #[x, y, u] ∧ W'.cell? ⟨g, 0, none⟩ = some x ∧ W'.cell? ⟨g, 1, none⟩ = some y ∧ W'.cell? ⟨g, 2, none⟩ = some u ∧ W'.frozen? ⟨g, 0, none⟩ = false ∧ W'.frozen? ⟨g, 1, none⟩ = false ∧ W'.frozen? ⟨g, 2, none⟩ = false ∧ g < W'.heap.size := by
  have h' := h.below hb hlt
  exact ⟨h', h'.three.1.1, h'.three.1.2.1, h'.three.1.2.2, h'.three.2.1, h'.three.2.2.1, h'.three.2.2.2, h'.lt⟩
theorem blkDrew' {w : World} {b : Nat} {t : TypeId} {cs : Array Value} (h : Blk w b t cs) : Blk w.drew b t cs := h
/-- A bond's box, and a period's. -/
structure KB (w : World) (p : Nat) (s e m r f t : Int) (z : Bool) (W : World) : Prop where
  k : K4 w s e m r W
  q0 : W.cell? ⟨p, 0, none⟩ = some (.int .i64 f)
  q1 : W.cell? ⟨p, 1, none⟩ = some (.int .i64 t)
  q2 : W.cell? ⟨p, 2, none⟩ = some (.bool z)
theorem KB.ofAlloc {w W : World} {s e m r : Int} (k : K4 w s e m r W) (f t : Int) (z : Bool) : KB w W.heap.size s e m r f t z (W.alloc (.cells #[.int .i64 f, .int .i64 t, .bool z] 58)) := by
  obtain ⟨⟨a, b, c⟩, -⟩ := (Blk.new W #[.int .i64 f, .int .i64 t, .bool z] 58).three
  exact ⟨k.alloc _, a, b, c⟩
theorem KB.ofSet {w W : World} {s e m r : Int} {g : Nat} {T : TypeId} {x y u : Value} (k : K4 w s e m r W) (h : Blk W g T #[x, y, u]) (hg : w.heap.size < g) (f t : Int) (z : Bool) :
    KB w g s e m r f t z (((W.setCell ⟨g, 0, none⟩ (.int .i64 f)).setCell ⟨g, 1, none⟩ (.int .i64 t)).setCell ⟨g, 2, none⟩ (.bool z)) := by
  have h0 := h.put 0 (.int .i64 f) rfl
  have h1 := h0.put 1 (.int .i64 t) rfl
  have h2 : Blk _ g T #[.int .i64 f, .int .i64 t, .bool z] := h1.put 2 (.bool z) rfl
  obtain ⟨⟨a, b, c⟩, -⟩ := h2.three
  exact ⟨((k.set hg _).set hg _).set hg _, a, b, c⟩
theorem KB.below {w W W' : World} {p : Nat} {s e m r f t : Int} {z : Bool} (h : KB w p s e m r f t z W) (hb : Below W.heap.size W W') : KB w p s e m r f t z W' :=
  ⟨h.k.below hb, cellA_below h.q0 hb, cellA_below h.q1 hb, cellA_below h.q2 hb⟩
theorem KB.drew {w W : World} {p : Nat} {s e m r f t : Int} {z : Bool} (h : KB w p s e m r f t z W) : KB w p s e m r f t z W.drew := ⟨h.k.drew, h.q0, h.q1, h.q2⟩
theorem KB.cells {w W : World} {p : Nat} {s e m r f t : Int} {z : Bool} (k : KB w p s e m r f t z W) : SA w.heap.size p s e m r f t z W :=
  ⟨k.k.c.1, k.k.c.2.1, k.k.c.2.2.1, k.k.c.2.2.2, k.q0, k.q1, k.q2⟩
theorem acc_no {s e m r d : Int} (h : runB s e m r d = false) : accV s e m r d = -1 := by unfold accV; rw [if_neg (by rw [h]; decide)]
theorem acc_bd {s e m r d : Int} (h : runB s e m r d = true) : 0 ≤ accV s e m r d ∧ accV s e m r d ≤ 120000000 := by
  obtain ⟨-, -, f, t, z, hg, a0, a1, a2, hA, hf, ht, hc0, hc1⟩ := run_per h
  have E : accV s e m r d = Rt.near (cpnV m r f t z * (d - f)) (t - f) := by unfold accV accP; rw [if_pos h, hg]
  rw [E]
  have h1 := near_part (w := cpnV m r f t z) (a := d - f) (b := t - f) hc0 (by omega) (by omega)
  have h2 : 0 ≤ cpnV m r f t z * (d - f) := Int.mul_nonneg hc0 (by omega)
  refine ⟨?_, by omega⟩
  unfold Rt.near
  exact Int.ediv_nonneg (by omega) (by omega)
noncomputable def dirV (s e m r d c : Int) : Int := if runB s e m r d = true ∧ btw c 0 50000 = true then c + accV s e m r d else -1
noncomputable def cleB (s e m r d c : Int) : Bool := runB s e m r d && btw c (accV s e m r d) (50000 + accV s e m r d)
noncomputable def cleV (s e m r d c : Int) : Value := if cleB s e m r d c = true then .tuple #[.int .i64 (c - accV s e m r d), .bool true] else .tuple #[.int .i64 0, .bool false]
end Go.Proofs.YtkdooncfchmkfaaDoor
