/- The accrued interest of the model, and dirty and clean prices. -/
import Derived.Test.YtcckopnpmcbbcaaDoorAccA
import Derived.Test.YtcckopnpmcbbcaaDoorFlowS
import Derived.Deep.RegionHeld3
import Derived.Deep.DeepCutAuto
import Derived.Test.YtcckopnpmcbbcaaDoorLEqM
namespace Go.Proofs.YtcckopnpmcbbcaaDoor
open Go.RowKit
set_option maxRecDepth 8000 in
set_option maxHeartbeats 2000000 in
theorem sPeriodOf_any (s e m r d : Int) (w : World) (hR : runB s e m r d = true) :
    Calls Tryd.prog 82 #[boV s e m r, .int .i64 d] w fun x w' => x = .returned (.int .i64 (runK s e m r d)) ∧ Below w.heap.size w w' := by
  have hne : perL s e m r ≠ [] := fun k => by have := (runB_iff.1 hR).1; rw [k] at this; simp at this
  have hp : perL s e m r = Sc.sch s e m := by
    unfold perL at hne ⊢
    split
    · rfl
    · rename_i c; rw [if_neg c] at hne; exact absurd rfl hne
  have hne' := hne
  rw [hp] at hne'
  obtain ⟨ok, hN, hall⟩ := Sc.sch_pos hne'
  obtain ⟨hk, -, hkf, hkt, hkb⟩ := runK_facts hR
  have hl40 := perL_len s e m r
  have HS := Lib.hid (fun W => sSched_any s e m W ok)
  obtain ⟨k, hkk⟩ : ∃ k, k = runK s e m r d := ⟨_, rfl⟩
  rw [← hkk] at hk hkf hkt hkb ⊢
  have HA : Hid (Sc.specL s e m (Sc.N s e m) = perL s e m r) := Lib.hid (by rw [hp, hall, Sc.specL_all ok hN])
  obtain ⟨ps, hps⟩ : ∃ ps, ps = perL s e m r := ⟨_, rfl⟩
  rw [← hps] at hk hkf hkt hkb HA hl40
  clear hps hkk hR hne hne' hp ok hN hall
  obtain ⟨n, hn⟩ : ∃ n, n = ps.length := ⟨_, rfl⟩
  rw [← hn] at hk hl40
  have HB := Lib.hid hkb
  have HKF := Lib.hid hkf
  have HKT := Lib.hid hkt
  have HN := Lib.hid hn
  clear hkb hkf hkt hn
  have kB := Blk.new w #[.int .i64 s, .int .i64 e, .int .i64 m, .int .i64 r] 24
  have hbA := (Below.refl w.heap.size w).alloc (Nat.le_refl _) (.cells #[.int .i64 s, .int .i64 e, .int .i64 m, .int .i64 r] 24)
  go_enter Tryd.func82, Tryd.ntmps82
  go_wp2_with fail
  refine (HS.out _).mono ?_
  rintro x w2 ⟨v, rfl, hq, hb⟩
  rw [HA.out] at hq
  have hrd := hq.1.rd
  obtain ⟨b, c, rfl, hbl, hc⟩ := hrd.2 (by rw [← HN.out]; omega)
  replace hbA := hbA.trans (hb.mono hbA.size)
  rw [← HN.out] at hc ⊢
  have HC := Lib.hid hc
  clear hrd hq hc hb kB
  go_wp2_with fail
  go_loopw [6] (fun x wr => ∃ i : Nat, i ≤ k ∧ x = .int .i64 i ∧ ∃ q, wr = w2.drewN q) (fun x _ => n - (intOf x).toNat)
  case atStart => exact ⟨0, by omega, rfl, 0, rfl⟩
  case round =>
    obtain ⟨i, hi, rfl, q, rfl⟩ := hrel
    obtain ⟨c0, c1, -⟩ := HC.out i (by omega)
    have hin : (i : Int) < (n : Int) := by omega
    by_cases hlt : i < k
    · have hb := HB.out i hlt
      generalize ps.getD i p0 = p at *
      obtain ⟨f, t, z⟩ := p
      dsimp only at c0 c1 hb
      by_cases e1 : f ≤ d
      · have d1 := decide_eq_true e1
        have d2 : decide (d < t) = false := decide_eq_false (fun h => hb ⟨e1, h⟩)
        clear hb e1
        go_wp2_with fail
        first | (go_quiet (fail); go_wp2_with fail) | skip
        go_roundw
        case rel => exact ⟨i + 1, by omega, by go_num, _, rfl⟩
        case measure => simp [intOf] <;> omega
      · have d1 := decide_eq_false e1
        clear hb e1
        go_wp2_with fail
        first | (go_quiet (fail); go_wp2_with fail) | skip
        go_roundw
        case rel => exact ⟨i + 1, by omega, by go_num, _, rfl⟩
        case measure => simp [intOf] <;> omega
    · obtain rfl : i = k := by omega
      have d1 := decide_eq_true HKF.out
      have d2 := decide_eq_true HKT.out
      generalize ps.getD i p0 = p at *
      obtain ⟨f, t, z⟩ := p
      dsimp only at c0 c1 d1 d2
      go_wp2_with fail
      first | (go_quiet (fail); go_wp2_with fail) | skip
      go_ret
      exact ⟨rfl, by first | exact below_drewN hbA _ | exact below_drewN (below_drewN hbA _) _⟩
theorem runB_vb {s e m r d : Int} (h : vbB s e m r = false) : runB s e m r d = false := by
  unfold vbB at h
  unfold runB
  have := of_decide_eq_false h
  exact decide_eq_false (fun k => this k.1)
theorem runB_vt {s e m r d : Int} (h : vbB s e m r = true) : runB s e m r d = btw d s (e - 1) := by
  unfold vbB at h
  have := of_decide_eq_true h
  unfold runB btw
  by_cases c : s ≤ d ∧ d < e
  · rw [decide_eq_true ⟨this, c⟩, decide_eq_true (by omega)]
  · rw [decide_eq_false (fun k => c k.2), decide_eq_false (by omega)]
theorem vb_end {s e m r : Int} (h : vbB s e m r = true) : 0 ≤ s ∧ s < e ∧ e ≤ 36524 := by
  unfold vbB at h
  have h0 := of_decide_eq_true h
  have hne : perL s e m r ≠ [] := fun k => by rw [k] at h0; simp at h0
  have hp : perL s e m r = Sc.sch s e m := by
    unfold perL at hne ⊢
    split
    · rfl
    · rename_i c; rw [if_neg c] at hne; exact absurd rfl hne
  rw [hp] at hne
  obtain ⟨ok, -, -⟩ := Sc.sch_pos hne
  exact (Sc.okB_iff.1 ok).1
set_option maxRecDepth 8000 in
set_option maxHeartbeats 1000000 in
theorem running_any (s e m r d : Int) (w : World) :
    Calls Tryd.prog 59 #[boV s e m r, .int .i64 d] w fun x w' => x = .returned (.bool (runB s e m r d)) ∧ Below w.heap.size w w' := by
  have kB := Blk.new w #[.int .i64 s, .int .i64 e, .int .i64 m, .int .i64 r] 24
  have hbA := (Below.refl w.heap.size w).alloc (Nat.le_refl _) (.cells #[.int .i64 s, .int .i64 e, .int .i64 m, .int .i64 r] 24)
  have HV := Lib.hid (sVBond_any s e m r)
  cases hv : vbB s e m r with
  | false =>
    have E := Lib.hid (runB_vb (d := d) hv)
    rw [hv] at HV
    clear hv
    go_enter Tryd.func59, Tryd.ntmps59
    go_wp2_with fail
    refine (HV.out _).mono ?_
    rintro x w1 ⟨rfl, hb1⟩
    go_wp2_with fail
    go_ret
    exact ⟨ret_bool E.out.symm, hbA.trans (hb1.mono hbA.size)⟩
  | true =>
    have E := Lib.hid (runB_vt (d := d) hv)
    obtain ⟨v0, v1, v2⟩ := vb_end hv
    rw [hv] at HV
    clear hv
    go_enter Tryd.func59, Tryd.ntmps59
    go_wp2_with fail
    refine (HV.out _).mono ?_
    rintro x w1 ⟨rfl, hb1⟩
    replace kB := kB.below hb1 kB.lt
    replace hbA := hbA.trans (hb1.mono hbA.size)
    obtain ⟨c0, c1, c2, c3⟩ := kB.four
    go_wp2_with fail
    refine (inRange_any _ _ _ _).mono ?_
    rintro x w2 ⟨rfl, rfl⟩
    go_wp2_with fail
    go_ret
    exact ⟨ret_bool E.out.symm, hbA⟩
abbrev S4 (b : Nat) (s e m r : Int) (W : World) : Prop :=
  W.cell? ⟨b, 0, none⟩ = some (.int .i64 s) ∧ W.cell? ⟨b, 1, none⟩ = some (.int .i64 e) ∧ W.cell? ⟨b, 2, none⟩ = some (.int .i64 m) ∧ W.cell? ⟨b, 3, none⟩ = some (.int .i64 r)
structure K4 (w : World) (s e m r : Int) (W : World) : Prop where
  c : S4 w.heap.size s e m r W
  lt : w.heap.size < W.heap.size
  bel : Below w.heap.size w W
theorem K4.below {w W W' : World} {s e m r : Int} (k : K4 w s e m r W) (hb : Below W.heap.size W W') : K4 w s e m r W' :=
  ⟨⟨cellA_below k.c.1 hb, cellA_below k.c.2.1 hb, cellA_below k.c.2.2.1 hb, cellA_below k.c.2.2.2 hb⟩, Nat.lt_of_lt_of_le k.lt hb.size, k.bel.trans (hb.mono k.bel.size)⟩
theorem K4.drew {w W : World} {s e m r : Int} (k : K4 w s e m r W) : K4 w s e m r W.drew := ⟨k.c, k.lt, k.bel.drew⟩
theorem K4.alloc {w W : World} {s e m r : Int} (k : K4 w s e m r W) (o : Obj) : K4 w s e m r (W.alloc o) := k.below ((Below.refl _ _).alloc (Nat.le_refl _) o)
theorem K4.set {w W : World} {s e m r : Int} (k : K4 w s e m r W) {q : Addr} (hq : w.heap.size < q.block) (u : Value) : K4 w s e m r (W.setCell q u) :=
  ⟨⟨(World.cell?_setCell_other _ _ _ _ (by intro e; rw [e] at hq; exact Nat.lt_irrefl _ hq)).trans k.c.1, (World.cell?_setCell_other _ _ _ _ (by intro e; rw [e] at hq; exact Nat.lt_irrefl _ hq)).trans k.c.2.1, (World.cell?_setCell_other _ _ _ _ (by intro e; rw [e] at hq; exact Nat.lt_irrefl _ hq)).trans k.c.2.2.1, (World.cell?_setCell_other _ _ _ _ (by intro e; rw [e] at hq; exact Nat.lt_irrefl _ hq)).trans k.c.2.2.2⟩, by simpa [World.setCell] using k.lt, k.bel.setCell (Nat.le_of_lt hq) u⟩
theorem bx3 {W W' : World} {g B : Nat} {T : TypeId} {x y u : Value} (h : Blk W g T #[x, y, u]) (hb : Below B W W') (hlt : g < B) : Blk W' g T #[x, y, u] ∧ W'.cell? ⟨g, 0, none⟩ = some x ∧ W'.cell? ⟨g, 1, none⟩ = some y ∧ W'.cell? ⟨g, 2, none⟩ = some u ∧ W'.frozen? ⟨g, 0, none⟩ = false ∧ W'.frozen? ⟨g, 1, none⟩ = false ∧ W'.frozen? ⟨g, 2, none⟩ = false ∧ g < W'.heap.size := by
  have h' := h.below hb hlt
  exact ⟨h', h'.three.1.1, h'.three.1.2.1, h'.three.1.2.2, h'.three.2.1, h'.three.2.2.1, h'.three.2.2.2, h'.lt⟩
theorem blkDrew' {w : World} {b : Nat} {t : TypeId} {cs : Array Value} (h : Blk w b t cs) : Blk w.drew b t cs := h
/-- A bond's box, and a period's. -/
structure KB (w : World) (p : Nat) (s e m r f t : Int) (z : Bool) (W : World) : Prop where
  k : K4 w s e m r W
  q0 : W.cell? ⟨p, 0, none⟩ = some (.int .i64 f)
  q1 : W.cell? ⟨p, 1, none⟩ = some (.int .i64 t)
  q2 : W.cell? ⟨p, 2, none⟩ = some (.bool z)
theorem KB.ofAlloc {w W : World} {s e m r : Int} (k : K4 w s e m r W) (f t : Int) (z : Bool) : KB w W.heap.size s e m r f t z (W.alloc (.cells #[.int .i64 f, .int .i64 t, .bool z] 45)) := by
  obtain ⟨⟨a, b, c⟩, -⟩ := (Blk.new W #[.int .i64 f, .int .i64 t, .bool z] 45).three
  exact ⟨k.alloc _, a, b, c⟩
theorem KB.ofSet {w W : World} {s e m r : Int} {g : Nat} {T : TypeId} {x y u : Value} (k : K4 w s e m r W) (h : Blk W g T #[x, y, u]) (hg : w.heap.size < g) (f t : Int) (z : Bool) :
    KB w g s e m r f t z (((W.setCell ⟨g, 0, none⟩ (.int .i64 f)).setCell ⟨g, 1, none⟩ (.int .i64 t)).setCell ⟨g, 2, none⟩ (.bool z)) := by
  have h0 := h.put 0 (.int .i64 f) rfl
  have h1 := h0.put 1 (.int .i64 t) rfl
  have h2 : Blk _ g T #[.int .i64 f, .int .i64 t, .bool z] := h1.put 2 (.bool z) rfl
  obtain ⟨⟨a, b, c⟩, -⟩ := h2.three
  exact ⟨((k.set hg _).set hg _).set hg _, a, b, c⟩
theorem KB.below {w W W' : World} {p : Nat} {s e m r f t : Int} {z : Bool} (h : KB w p s e m r f t z W) (hb : Below W.heap.size W W') : KB w p s e m r f t z W' :=
  ⟨h.k.below hb, cellA_below h.q0 hb, cellA_below h.q1 hb, cellA_below h.q2 hb⟩
theorem KB.drew {w W : World} {p : Nat} {s e m r f t : Int} {z : Bool} (h : KB w p s e m r f t z W) : KB w p s e m r f t z W.drew := ⟨h.k.drew, h.q0, h.q1, h.q2⟩
theorem KB.cells {w W : World} {p : Nat} {s e m r f t : Int} {z : Bool} (k : KB w p s e m r f t z W) : SA w.heap.size p s e m r f t z W :=
  ⟨k.k.c.1, k.k.c.2.1, k.k.c.2.2.1, k.k.c.2.2.2, k.q0, k.q1, k.q2⟩
set_option maxRecDepth 8000 in
set_option maxHeartbeats 4000000 in
theorem sAccrued_any (s e m r d : Int) (w : World) (hR : runB s e m r d = true) :
    Calls Tryd.prog 60 #[boV s e m r, .int .i64 d] w fun x w' => x = .returned (.int .i64 (accV s e m r d)) ∧ Below w.heap.size w w' := by
  obtain ⟨⟨m0, m1⟩, ⟨r0, r1⟩, f, t, z, hg, a0, a1, a2, hA, hf, ht, hc0, hc1⟩ := run_per hR
  have E := Lib.hid (show accV s e m r d = Rt.near (cpnV m r f t z * (d - f)) (t - f) by unfold accV accP; rw [if_pos hR, hg])
  have CP := Lib.hid (fun W => sCoupon_any s e m r f t z W m0 m1 r0 r1 a0 a1 a2 hA)
  have HPO := Lib.hid (fun W => sPeriodOf_any s e m r d W hR)
  have hne : perL s e m r ≠ [] := fun k => by have := (runB_iff.1 hR).1; rw [k] at this; simp at this
  have hp : perL s e m r = Sc.sch s e m := by
    unfold perL at hne ⊢
    split
    · rfl
    · rename_i c; rw [if_neg c] at hne; exact absurd rfl hne
  have hne' := hne
  rw [hp] at hne'
  obtain ⟨ok, hN, hall⟩ := Sc.sch_pos hne'
  have hk := (runK_facts hR).1
  have hl40 := perL_len s e m r
  have HS := Lib.hid (fun W => sSched_any s e m W ok)
  have HA : Hid (Sc.specL s e m (Sc.N s e m) = perL s e m r) := Lib.hid (by rw [hp, hall, Sc.specL_all ok hN])
  clear hp hne hne' ok hN hall hA
  obtain ⟨k, hkk⟩ : ∃ k, k = runK s e m r d := ⟨_, rfl⟩
  rw [← hkk] at hk hg HPO
  clear hkk hR
  obtain ⟨C, hC⟩ : ∃ C, C = cpnV m r f t z := ⟨_, rfl⟩
  rw [← hC] at E CP hc0 hc1
  clear hC
  obtain ⟨ps, hps⟩ : ∃ ps, ps = perL s e m r := ⟨_, rfl⟩
  rw [← hps] at hk hg HA hl40
  clear hps
  obtain ⟨n, hn⟩ : ∃ n, n = ps.length := ⟨_, rfl⟩
  rw [← hn] at hk hl40
  have HN := Lib.hid hn
  have HG := Lib.hid hg
  clear hn hg
  obtain ⟨p0', p1'⟩ := mulc_bd hc0 hc1 (x := d - f) (by omega) (by omega)
  have kB := Blk.new w #[.int .i64 s, .int .i64 e, .int .i64 m, .int .i64 r] 24
  have hbA := (Below.refl w.heap.size w).alloc (Nat.le_refl _) (.cells #[.int .i64 s, .int .i64 e, .int .i64 m, .int .i64 r] 24)
  go_enter Tryd.func60, Tryd.ntmps60
  have K0 := Lib.hid (K4.mk ⟨kB.four.1, kB.four.2.1, kB.four.2.2.1, kB.four.2.2.2⟩ kB.lt hbA)
  go_upto_region 1 with fail
  have hlt0 := K0.out.lt
  generalize hW0 : w.alloc (.cells #[.int .i64 s, .int .i64 e, .int .i64 m, .int .i64 r] 24) = W0 at K0 hlt0 ⊢
  clear hW0 kB hbA
  have K := K0
  go_cut [5] (fun s5 wx => ∃ B : Nat, s5 = .pointer (some ⟨B, 0, none⟩) ∧ KB w B s e m r f t z wx)
  case first =>
    refine wp_region_held_drew (S := S4 w.heap.size s e m r) (by kernel_rfl) K.out.drew.c (fun hHeld => ?_)
    refine wpAnyH_take (i := 0) (v := ?_) rfl (by kernel_rfl) (by kernel_rfl) (by kernel_rfl) (fun _ _ _ h => h) (Or.inl ⟨by rfl, ?_⟩) (by assumption) ?_
    rotate_left
    · intro w' hSw; (try dsimp only at hSw); go_simp; (try with_reducible rfl)
    try simp only [Act.put, List.setIfInBounds_toArray]
    refine wpAnyH_take (i := 1) (v := ?_) rfl (by kernel_rfl) (by kernel_rfl) (by kernel_rfl) (fun _ _ _ h => h) (Or.inl ⟨by rfl, ?_⟩) (by assumption) ?_
    rotate_left
    · intro w' hSw; (try dsimp only at hSw); go_simp; (try with_reducible rfl)
    try simp only [Act.put]
    refine wpAnyH_take (i := 2) (v := ?_) rfl (by kernel_rfl) (by kernel_rfl) (by kernel_rfl) (fun _ _ _ h => h) (Or.inl ⟨by rfl, ?_⟩) (by assumption) ?_
    rotate_left
    · intro w' hSw; (try dsimp only at hSw); go_simp; (try with_reducible rfl)
    try simp only [Act.put]
    refine wpAnyH_take (i := 3) (v := ?_) rfl (by kernel_rfl) (by kernel_rfl) (by kernel_rfl) (fun _ _ _ h => h) (Or.inl ⟨by rfl, ?_⟩) (by assumption) ?_
    rotate_left
    · intro w' hSw; (try dsimp only at hSw); go_simp; (try with_reducible rfl)
    try simp only [Act.put]
    refine wpAnyH_take (i := 4) (v := ?_) rfl (by kernel_rfl) (by kernel_rfl) (by kernel_rfl) (fun _ _ _ h => h) (Or.inl ⟨by rfl, ?_⟩) (by assumption) ?_
    rotate_left
    · intro w' hSw; (try dsimp only at hSw); go_simp; (try with_reducible rfl)
    try simp only [Act.put]
    refine wpAnyH_take (i := 5) (v := ?_) rfl (by kernel_rfl) (by kernel_rfl) (by kernel_rfl) (fun _ _ _ h => h) (Or.inl ⟨by rfl, ?_⟩) (by assumption) ?_
    rotate_left
    · intro w' hSw; (try dsimp only at hSw); go_simp; (try with_reducible rfl)
    try simp only [Act.put]
    refine wpAnyH_take (i := 7) (v := ?_) rfl (by kernel_rfl) (by kernel_rfl) (by kernel_rfl) (fun _ _ _ h => h) (Or.inl ⟨by rfl, ?_⟩) (by assumption) ?_
    rotate_left
    · intro w' hSw; (try dsimp only at hSw); go_simp; (try with_reducible rfl)
    try simp only [Act.put]
    refine wpAnyH_take (i := 8) (v := ?_) rfl (by kernel_rfl) (by kernel_rfl) (by kernel_rfl) (fun _ _ _ h => h) (Or.inl ⟨by rfl, ?_⟩) (by assumption) ?_
    rotate_left
    · intro w' hSw; (try dsimp only at hSw); go_simp; (try with_reducible rfl)
    try simp only [Act.put]
    refine wpAnyH_ready (rs := [6, 12]) (by kernel_rfl) (by simp) ?_
    refine AllReadyH.cons rfl (fun K1a hK1a => ?_) (AllReadyH.cons rfl (fun K1b hK1b => ?_) AllReadyH.nil)
    · go_simp
      (go_at_call 77; refine (HS.out _).mono ?_; rintro x w2 ⟨v, rfl, hq, hb2⟩; rw [HA.out] at hq; obtain ⟨lb, lc, rfl, hlb, hc⟩ := hq.1.rd.2 (by rw [← HN.out]; omega); have hel := hc k (by rw [← HN.out]; exact hk); rw [HG.out] at hel; obtain ⟨e0, e1, e2⟩ := hel; clear hc hq; rw [← HN.out]; have hs2 := hb2.size; (try simp at hs2); have k1 : K4 w s e m r w2 := K4.below (by first | exact K.out.drew | exact K.out.drew.alloc _ | exact (K.out.alloc _).drew) hb2; (first | (have hz1 := bx3 (Blk.new _ #[.int .i64 0, .int .i64 0, .bool false] 45) hb2 (by simp); obtain ⟨z1, za1, zb1, zc1, zd1, ze1, zf1, zl1⟩ := hz1; (try simp at z1); (try simp at za1); (try simp at zb1); (try simp at zc1); (try simp at zd1); (try simp at ze1); (try simp at zf1); (try simp at zl1)) | (have hz1 := bx3 (blkDrew' (Blk.new _ #[.int .i64 0, .int .i64 0, .bool false] 45)) hb2 (by simp); obtain ⟨z1, za1, zb1, zc1, zd1, ze1, zf1, zl1⟩ := hz1; (try simp at z1); (try simp at za1); (try simp at zb1); (try simp at zc1); (try simp at zd1); (try simp at ze1); (try simp at zf1); (try simp at zl1)) | skip))
      refine hK1a.out _ _ ?_ (fun hHeld1a => ?_)
      · exact k1.c
      clear hK1a K1a
      try simp only [Act.put, List.setIfInBounds_toArray, List.set_cons_zero, List.set_cons_succ]
      refine wpAnyH_ready (rs := [9, 12]) (by kernel_rfl) (by simp) ?_
      refine AllReadyH.cons rfl (fun K2a hK2a => ?_) (AllReadyH.cons rfl (fun K2b hK2b => ?_) AllReadyH.nil)
      · go_simp
        (go_at_call 82; refine (HPO.out _).mono ?_; rintro x w3 ⟨rfl, hb3⟩; have hs3 := hb3.size; (try simp at hs3); have k2 : K4 w s e m r w3 := K4.below (by first | exact k1 | exact k1.alloc _) hb3; have g0 : w3.cell? ⟨lb, k * 3, none⟩ = some (.int .i64 f) := cellA_below (by first | exact e0 | (rw [World.cell?_alloc_lt _ _ ⟨lb, k * 3, none⟩ hlb]; exact e0)) hb3; have g1 : w3.cell? ⟨lb, k * 3 + 1, none⟩ = some (.int .i64 t) := cellA_below (by first | exact e1 | (rw [World.cell?_alloc_lt _ _ ⟨lb, k * 3 + 1, none⟩ hlb]; exact e1)) hb3; have g2 : w3.cell? ⟨lb, k * 3 + 2, none⟩ = some (.bool z) := cellA_below (by first | exact e2 | (rw [World.cell?_alloc_lt _ _ ⟨lb, k * 3 + 2, none⟩ hlb]; exact e2)) hb3; have hl3 : lb < w3.heap.size := World.block_lt_of_cell? w3 _ g0; (first | (have hz2 := bx3 z1 hb3 (by first | exact zl1 | (simp; omega)); obtain ⟨z2, za2, zb2, zc2, zd2, ze2, zf2, zl2⟩ := hz2; (try simp at z2); (try simp at za2); (try simp at zb2); (try simp at zc2); (try simp at zd2); (try simp at ze2); (try simp at zf2); (try simp at zl2)) | (have hz2 := bx3 (Blk.new _ #[.int .i64 0, .int .i64 0, .bool false] 45) hb3 (by simp); obtain ⟨z2, za2, zb2, zc2, zd2, ze2, zf2, zl2⟩ := hz2; (try simp at z2); (try simp at za2); (try simp at zb2); (try simp at zc2); (try simp at zd2); (try simp at ze2); (try simp at zf2); (try simp at zl2)) | skip))
        refine hK2a.out _ _ ?_ (fun hHeld2a => ?_)
        · exact k2.c
        clear hK2a K2a
        try simp only [Act.put, List.setIfInBounds_toArray, List.set_cons_zero, List.set_cons_succ]
        refine wpAnyH_take (i := 10) (v := ?_) rfl (by kernel_rfl) (by kernel_rfl) (by kernel_rfl) (fun _ _ _ h => h) (Or.inl ⟨by rfl, ?_⟩) (by assumption) ?_
        rotate_left
        · intro w' hSw; (try dsimp only at hSw); go_simp; (try with_reducible rfl)
        try simp only [Act.put, List.setIfInBounds_toArray]
        refine wpAnyH_ready (rs := [11, 12]) (by kernel_rfl) (by simp) ?_
        refine AllReadyH.cons rfl (fun K3a hK3a => ?_) (AllReadyH.cons rfl (fun K3b hK3b => ?_) AllReadyH.nil)
        · go_simp
          skip
          refine hK3a.out _ _ ?_ (fun hHeld3a => ?_)
          · exact k2.c
          clear hK3a K3a
          try simp only [Act.put, List.setIfInBounds_toArray, List.set_cons_zero, List.set_cons_succ]
          refine wpAnyH_ready (rs := [12]) (by kernel_rfl) (by simp) ?_
          refine AllReadyH.cons rfl (fun K4a hK4a => ?_) AllReadyH.nil
          go_simp
          skip
          refine hK4a.out _ _ ?_ (fun hHeld4a => ?_)
          · exact (k2.alloc _).c
          clear hK4a K4a
          try simp only [Act.put, List.setIfInBounds_toArray, List.set_cons_zero, List.set_cons_succ]
          refine wpAnyH_ready (rs := [13]) (by kernel_rfl) (by simp) ?_
          refine AllReadyH.cons rfl (fun K5a hK5a => ?_) AllReadyH.nil
          go_simp
          skip
          refine hK5a.out _ _ ?_ (fun hHeld5a => ?_)
          · exact (k2.alloc _).c
          clear hK5a K5a
          try simp only [Act.put, List.setIfInBounds_toArray, List.set_cons_zero, List.set_cons_succ]
          refine wpAnyH_done (by kernel_rfl) ?_ _
          go_wp2_with fail
          go_meet
          refine ⟨_, rfl, ?_⟩
          first | exact KB.ofAlloc k2 f t z | exact KB.ofSet k2 z2 (by omega) f t z
        · go_simp
          skip
          refine hK3b.out _ _ ?_ (fun hHeld3b => ?_)
          · exact (k2.alloc _).c
          clear hK3b K3b
          try simp only [Act.put, List.setIfInBounds_toArray, List.set_cons_zero, List.set_cons_succ]
          refine wpAnyH_ready (rs := [11]) (by kernel_rfl) (by simp) ?_
          refine AllReadyH.cons rfl (fun K6a hK6a => ?_) AllReadyH.nil
          go_simp
          skip
          refine hK6a.out _ _ ?_ (fun hHeld6a => ?_)
          · exact (k2.alloc _).c
          clear hK6a K6a
          try simp only [Act.put, List.setIfInBounds_toArray, List.set_cons_zero, List.set_cons_succ]
          refine wpAnyH_ready (rs := [13]) (by kernel_rfl) (by simp) ?_
          refine AllReadyH.cons rfl (fun K7a hK7a => ?_) AllReadyH.nil
          go_simp
          skip
          refine hK7a.out _ _ ?_ (fun hHeld7a => ?_)
          · exact (k2.alloc _).c
          clear hK7a K7a
          try simp only [Act.put, List.setIfInBounds_toArray, List.set_cons_zero, List.set_cons_succ]
          refine wpAnyH_done (by kernel_rfl) ?_ _
          go_wp2_with fail
          go_meet
          refine ⟨_, rfl, ?_⟩
          first | exact KB.ofAlloc k2 f t z | exact KB.ofSet k2 z2 (by omega) f t z
      · go_simp
        skip
        refine hK2b.out _ _ ?_ (fun hHeld2b => ?_)
        · exact (k1.alloc _).c
        clear hK2b K2b
        try simp only [Act.put, List.setIfInBounds_toArray, List.set_cons_zero, List.set_cons_succ]
        refine wpAnyH_ready (rs := [9]) (by kernel_rfl) (by simp) ?_
        refine AllReadyH.cons rfl (fun K8a hK8a => ?_) AllReadyH.nil
        go_simp
        (go_at_call 82; refine (HPO.out _).mono ?_; rintro x w3 ⟨rfl, hb3⟩; have hs3 := hb3.size; (try simp at hs3); have k2 : K4 w s e m r w3 := K4.below (by first | exact k1 | exact k1.alloc _) hb3; have g0 : w3.cell? ⟨lb, k * 3, none⟩ = some (.int .i64 f) := cellA_below (by first | exact e0 | (rw [World.cell?_alloc_lt _ _ ⟨lb, k * 3, none⟩ hlb]; exact e0)) hb3; have g1 : w3.cell? ⟨lb, k * 3 + 1, none⟩ = some (.int .i64 t) := cellA_below (by first | exact e1 | (rw [World.cell?_alloc_lt _ _ ⟨lb, k * 3 + 1, none⟩ hlb]; exact e1)) hb3; have g2 : w3.cell? ⟨lb, k * 3 + 2, none⟩ = some (.bool z) := cellA_below (by first | exact e2 | (rw [World.cell?_alloc_lt _ _ ⟨lb, k * 3 + 2, none⟩ hlb]; exact e2)) hb3; have hl3 : lb < w3.heap.size := World.block_lt_of_cell? w3 _ g0; (first | (have hz2 := bx3 z1 hb3 (by first | exact zl1 | (simp; omega)); obtain ⟨z2, za2, zb2, zc2, zd2, ze2, zf2, zl2⟩ := hz2; (try simp at z2); (try simp at za2); (try simp at zb2); (try simp at zc2); (try simp at zd2); (try simp at ze2); (try simp at zf2); (try simp at zl2)) | (have hz2 := bx3 (Blk.new _ #[.int .i64 0, .int .i64 0, .bool false] 45) hb3 (by simp); obtain ⟨z2, za2, zb2, zc2, zd2, ze2, zf2, zl2⟩ := hz2; (try simp at z2); (try simp at za2); (try simp at zb2); (try simp at zc2); (try simp at zd2); (try simp at ze2); (try simp at zf2); (try simp at zl2)) | skip))
        refine hK8a.out _ _ ?_ (fun hHeld8a => ?_)
        · exact k2.c
        clear hK8a K8a
        try simp only [Act.put, List.setIfInBounds_toArray, List.set_cons_zero, List.set_cons_succ]
        refine wpAnyH_take (i := 10) (v := ?_) rfl (by kernel_rfl) (by kernel_rfl) (by kernel_rfl) (fun _ _ _ h => h) (Or.inl ⟨by rfl, ?_⟩) (by assumption) ?_
        rotate_left
        · intro w' hSw; (try dsimp only at hSw); go_simp; (try with_reducible rfl)
        try simp only [Act.put, List.setIfInBounds_toArray]
        refine wpAnyH_ready (rs := [11]) (by kernel_rfl) (by simp) ?_
        refine AllReadyH.cons rfl (fun K9a hK9a => ?_) AllReadyH.nil
        go_simp
        skip
        refine hK9a.out _ _ ?_ (fun hHeld9a => ?_)
        · exact k2.c
        clear hK9a K9a
        try simp only [Act.put, List.setIfInBounds_toArray, List.set_cons_zero, List.set_cons_succ]
        refine wpAnyH_ready (rs := [13]) (by kernel_rfl) (by simp) ?_
        refine AllReadyH.cons rfl (fun K10a hK10a => ?_) AllReadyH.nil
        go_simp
        skip
        refine hK10a.out _ _ ?_ (fun hHeld10a => ?_)
        · exact (((k2.set (by dsimp only; omega) _).set (by dsimp only; omega) _).set (by dsimp only; omega) _).c
        clear hK10a K10a
        try simp only [Act.put, List.setIfInBounds_toArray, List.set_cons_zero, List.set_cons_succ]
        refine wpAnyH_done (by kernel_rfl) ?_ _
        go_wp2_with fail
        go_meet
        refine ⟨_, rfl, ?_⟩
        first | exact KB.ofAlloc k2 f t z | exact KB.ofSet k2 z2 (by omega) f t z
    · go_simp
      skip
      refine hK1b.out _ _ ?_ (fun hHeld1b => ?_)
      · exact (K.out.drew.alloc _).c
      clear hK1b K1b
      try simp only [Act.put, List.setIfInBounds_toArray, List.set_cons_zero, List.set_cons_succ]
      refine wpAnyH_ready (rs := [6]) (by kernel_rfl) (by simp) ?_
      refine AllReadyH.cons rfl (fun K11a hK11a => ?_) AllReadyH.nil
      go_simp
      (go_at_call 77; refine (HS.out _).mono ?_; rintro x w2 ⟨v, rfl, hq, hb2⟩; rw [HA.out] at hq; obtain ⟨lb, lc, rfl, hlb, hc⟩ := hq.1.rd.2 (by rw [← HN.out]; omega); have hel := hc k (by rw [← HN.out]; exact hk); rw [HG.out] at hel; obtain ⟨e0, e1, e2⟩ := hel; clear hc hq; rw [← HN.out]; have hs2 := hb2.size; (try simp at hs2); have k1 : K4 w s e m r w2 := K4.below (by first | exact K.out.drew | exact K.out.drew.alloc _ | exact (K.out.alloc _).drew) hb2; (first | (have hz1 := bx3 (Blk.new _ #[.int .i64 0, .int .i64 0, .bool false] 45) hb2 (by simp); obtain ⟨z1, za1, zb1, zc1, zd1, ze1, zf1, zl1⟩ := hz1; (try simp at z1); (try simp at za1); (try simp at zb1); (try simp at zc1); (try simp at zd1); (try simp at ze1); (try simp at zf1); (try simp at zl1)) | (have hz1 := bx3 (blkDrew' (Blk.new _ #[.int .i64 0, .int .i64 0, .bool false] 45)) hb2 (by simp); obtain ⟨z1, za1, zb1, zc1, zd1, ze1, zf1, zl1⟩ := hz1; (try simp at z1); (try simp at za1); (try simp at zb1); (try simp at zc1); (try simp at zd1); (try simp at ze1); (try simp at zf1); (try simp at zl1)) | skip))
      refine hK11a.out _ _ ?_ (fun hHeld11a => ?_)
      · exact k1.c
      clear hK11a K11a
      try simp only [Act.put, List.setIfInBounds_toArray, List.set_cons_zero, List.set_cons_succ]
      refine wpAnyH_ready (rs := [9]) (by kernel_rfl) (by simp) ?_
      refine AllReadyH.cons rfl (fun K12a hK12a => ?_) AllReadyH.nil
      go_simp
      (go_at_call 82; refine (HPO.out _).mono ?_; rintro x w3 ⟨rfl, hb3⟩; have hs3 := hb3.size; (try simp at hs3); have k2 : K4 w s e m r w3 := K4.below (by first | exact k1 | exact k1.alloc _) hb3; have g0 : w3.cell? ⟨lb, k * 3, none⟩ = some (.int .i64 f) := cellA_below (by first | exact e0 | (rw [World.cell?_alloc_lt _ _ ⟨lb, k * 3, none⟩ hlb]; exact e0)) hb3; have g1 : w3.cell? ⟨lb, k * 3 + 1, none⟩ = some (.int .i64 t) := cellA_below (by first | exact e1 | (rw [World.cell?_alloc_lt _ _ ⟨lb, k * 3 + 1, none⟩ hlb]; exact e1)) hb3; have g2 : w3.cell? ⟨lb, k * 3 + 2, none⟩ = some (.bool z) := cellA_below (by first | exact e2 | (rw [World.cell?_alloc_lt _ _ ⟨lb, k * 3 + 2, none⟩ hlb]; exact e2)) hb3; have hl3 : lb < w3.heap.size := World.block_lt_of_cell? w3 _ g0; (first | (have hz2 := bx3 z1 hb3 (by first | exact zl1 | (simp; omega)); obtain ⟨z2, za2, zb2, zc2, zd2, ze2, zf2, zl2⟩ := hz2; (try simp at z2); (try simp at za2); (try simp at zb2); (try simp at zc2); (try simp at zd2); (try simp at ze2); (try simp at zf2); (try simp at zl2)) | (have hz2 := bx3 (Blk.new _ #[.int .i64 0, .int .i64 0, .bool false] 45) hb3 (by simp); obtain ⟨z2, za2, zb2, zc2, zd2, ze2, zf2, zl2⟩ := hz2; (try simp at z2); (try simp at za2); (try simp at zb2); (try simp at zc2); (try simp at zd2); (try simp at ze2); (try simp at zf2); (try simp at zl2)) | skip))
      refine hK12a.out _ _ ?_ (fun hHeld12a => ?_)
      · exact k2.c
      clear hK12a K12a
      try simp only [Act.put, List.setIfInBounds_toArray, List.set_cons_zero, List.set_cons_succ]
      refine wpAnyH_take (i := 10) (v := ?_) rfl (by kernel_rfl) (by kernel_rfl) (by kernel_rfl) (fun _ _ _ h => h) (Or.inl ⟨by rfl, ?_⟩) (by assumption) ?_
      rotate_left
      · intro w' hSw; (try dsimp only at hSw); go_simp; (try with_reducible rfl)
      try simp only [Act.put, List.setIfInBounds_toArray]
      refine wpAnyH_ready (rs := [11]) (by kernel_rfl) (by simp) ?_
      refine AllReadyH.cons rfl (fun K13a hK13a => ?_) AllReadyH.nil
      go_simp
      skip
      refine hK13a.out _ _ ?_ (fun hHeld13a => ?_)
      · exact k2.c
      clear hK13a K13a
      try simp only [Act.put, List.setIfInBounds_toArray, List.set_cons_zero, List.set_cons_succ]
      refine wpAnyH_ready (rs := [13]) (by kernel_rfl) (by simp) ?_
      refine AllReadyH.cons rfl (fun K14a hK14a => ?_) AllReadyH.nil
      go_simp
      skip
      refine hK14a.out _ _ ?_ (fun hHeld14a => ?_)
      · exact (((k2.set (by dsimp only; omega) _).set (by dsimp only; omega) _).set (by dsimp only; omega) _).c
      clear hK14a K14a
      try simp only [Act.put, List.setIfInBounds_toArray, List.set_cons_zero, List.set_cons_succ]
      refine wpAnyH_done (by kernel_rfl) ?_ _
      go_wp2_with fail
      go_meet
      refine ⟨_, rfl, ?_⟩
      first | exact KB.ofAlloc k2 f t z | exact KB.ofSet k2 z2 (by omega) f t z
  case rest =>
    obtain ⟨B, rfl, hk⟩ := hcut
    have K2 := Lib.hid hk
    clear hk K K0
    have W1 : IntKind.i64.wrap (C * (d - f)) = C * (d - f) := IntWalk.i64_in _ (by omega)
    have W2 : IntKind.i64.wrap (d - f) = d - f := IntWalk.i64_in _ (by omega)
    have W3 : IntKind.i64.wrap (t - f) = t - f := IntWalk.i64_in _ (by omega)
    go_wp2_with fail
    go_region_held3 (SA w.heap.size B s e m r f t z) (first | exact K2.out.drew.cells | exact k1.cells) (first | (go_at_call 78; with_reducible refine (CP.out _).mono ?_; rintro x w2 ⟨rfl, hb2⟩; have k1 := K2.out.drew.below hb2) | (go_at_call 83; (try rw [W2]); (try rw [W1]); (try rw [W3]); with_reducible refine (sNearest_any (C * (d - f)) (t - f) _ (by omega) (by omega) (by omega) (by omega)).mono ?_; rintro x w4 ⟨rfl, rfl⟩))
    all_goals go_wp2_with fail
    all_goals
      go_ret
      exact ⟨ret_int E.out.symm, k1.k.bel⟩
set_option maxRecDepth 8000 in
set_option maxHeartbeats 1000000 in
theorem sAccruedOf_any (s e m r d : Int) (w : World) :
    Calls Tryd.prog 35 #[boV s e m r, .int .i64 d] w fun x w' => x = .returned (.int .i64 (accV s e m r d)) ∧ Below w.heap.size w w' := by
  have kB := Blk.new w #[.int .i64 s, .int .i64 e, .int .i64 m, .int .i64 r] 24
  have hbA := (Below.refl w.heap.size w).alloc (Nat.le_refl _) (.cells #[.int .i64 s, .int .i64 e, .int .i64 m, .int .i64 r] 24)
  cases hR : runB s e m r d with
  | false =>
    have E := Lib.hid (show accV s e m r d = -1 by unfold accV; rw [if_neg (by rw [hR]; decide)])
    have HR := Lib.hid hR
    clear hR
    go_enter Tryd.func35, Tryd.ntmps35
    go_wp2_with fail
    refine (running_any _ _ _ _ _ _).mono ?_
    rw [HR.out]
    rintro x w1 ⟨rfl, hb1⟩
    go_wp2_with fail
    go_ret
    exact ⟨ret_int E.out.symm, hbA.trans (hb1.mono hbA.size)⟩
  | true =>
    have HR := Lib.hid hR
    have HS := Lib.hid (fun W => sAccrued_any s e m r d W hR)
    clear hR
    go_enter Tryd.func35, Tryd.ntmps35
    go_wp2_with fail
    refine (running_any _ _ _ _ _ _).mono ?_
    rw [HR.out]
    rintro x w1 ⟨rfl, hb1⟩
    replace kB := kB.below hb1 kB.lt
    replace hbA := hbA.trans (hb1.mono hbA.size)
    obtain ⟨c0, c1, c2, c3⟩ := kB.four
    go_wp2_with fail
    refine (HS.out _).mono ?_
    rintro x w2 ⟨rfl, hb2⟩
    go_wp2_with fail
    go_ret
    exact ⟨rfl, hbA.trans (hb2.mono hbA.size)⟩
theorem acc_no {s e m r d : Int} (h : runB s e m r d = false) : accV s e m r d = -1 := by unfold accV; rw [if_neg (by rw [h]; decide)]
theorem acc_bd {s e m r d : Int} (h : runB s e m r d = true) : 0 ≤ accV s e m r d ∧ accV s e m r d ≤ 120000000 := by
  obtain ⟨-, -, f, t, z, hg, a0, a1, a2, hA, hf, ht, hc0, hc1⟩ := run_per h
  have E : accV s e m r d = Rt.near (cpnV m r f t z * (d - f)) (t - f) := by unfold accV accP; rw [if_pos h, hg]
  rw [E]
  have h1 := near_part (w := cpnV m r f t z) (a := d - f) (b := t - f) hc0 (by omega) (by omega)
  have h2 : 0 ≤ cpnV m r f t z * (d - f) := Int.mul_nonneg hc0 (by omega)
  refine ⟨?_, by omega⟩
  unfold Rt.near
  exact Int.ediv_nonneg (by omega) (by omega)
noncomputable def dirV (s e m r d c : Int) : Int := if runB s e m r d = true ∧ btw c 0 50000 = true then c + accV s e m r d else -1
noncomputable def cleB (s e m r d c : Int) : Bool := runB s e m r d && btw c (accV s e m r d) (50000 + accV s e m r d)
noncomputable def cleV (s e m r d c : Int) : Value := if cleB s e m r d c = true then .tuple #[.int .i64 (c - accV s e m r d), .bool true] else .tuple #[.int .i64 0, .bool false]
set_option maxHeartbeats 400000 in
theorem validPrice_any (n : Int) (w : World) :
    Calls Tryd.prog 64 #[.int .i64 n] w fun x w' => x = .returned (.bool (btw n 0 50000)) ∧ w = w' := by
  go_enter Tryd.func64, Tryd.ntmps64
  go_wp2_with (go_at_call 66; refine (between_any _ _ _ _).mono ?_; rintro e w2 ⟨rfl, rfl⟩)
  go_ret
  exact ⟨rfl, rfl⟩
set_option maxRecDepth 8000 in
set_option maxHeartbeats 1000000 in
theorem dirtyOf_any (s e m r d c : Int) (w : World) (hT : Tab w) :
    Calls Tryd.prog 38 #[boV s e m r, .int .i64 d, .int .i64 c] w fun x w' => x = .returned (.int .i64 (dirV s e m r d c)) ∧ Below w.heap.size w w' := by
  have HT := Lib.hid hT; clear hT
  have hbA := (Below.refl w.heap.size w).alloc (Nat.le_refl _) (.cells #[.int .i64 s, .int .i64 e, .int .i64 m, .int .i64 r] 24)
  have HTA := Lib.hid (HT.out.below hbA HT.out.pos)
  have HAC := Lib.hid (accruedOf_any s e m r d)
  cases hR : runB s e m r d with
  | false =>
    have E := Lib.hid (show dirV s e m r d c = -1 by unfold dirV; rw [if_neg (by simp [hR])])
    have ha := acc_no hR
    rw [ha] at HAC
    clear hR ha
    go_enter Tryd.func38, Tryd.ntmps38
    go_wp2_with fail
    refine (HAC.out _ HTA.out).mono ?_
    rintro x w1 ⟨rfl, hb1⟩
    go_wp2_with fail
    go_ret
    exact ⟨ret_int E.out.symm, hbA.trans (hb1.mono hbA.size)⟩
  | true =>
    obtain ⟨ac0, ac1⟩ := acc_bd hR
    cases hb : btw c 0 50000 with
    | false =>
      have E := Lib.hid (show dirV s e m r d c = -1 by unfold dirV; rw [if_neg (by simp [hb])])
      have HB := Lib.hid hb
      generalize accV s e m r d = A at *
      have d0 : decide (A < 0) = false := decide_eq_false (by omega)
      clear hR hb
      go_enter Tryd.func38, Tryd.ntmps38
      go_wp2_with fail
      refine (HAC.out _ HTA.out).mono ?_
      rintro x w1 ⟨rfl, hb1⟩
      go_wp2_with fail
      refine (validPrice_any _ _).mono ?_
      rw [HB.out]
      rintro x w2 ⟨rfl, rfl⟩
      go_wp2_with fail
      go_ret
      exact ⟨ret_int E.out.symm, hbA.trans (hb1.mono hbA.size)⟩
    | true =>
      have E := Lib.hid (show dirV s e m r d c = c + accV s e m r d by unfold dirV; rw [if_pos ⟨hR, hb⟩])
      have HB := Lib.hid hb
      obtain ⟨b0, b1⟩ := btw_iff.1 hb
      generalize accV s e m r d = A at *
      have d0 : decide (A < 0) = false := decide_eq_false (by omega)
      clear hR hb
      go_enter Tryd.func38, Tryd.ntmps38
      go_wp2_with fail
      refine (HAC.out _ HTA.out).mono ?_
      rintro x w1 ⟨rfl, hb1⟩
      go_wp2_with fail
      refine (validPrice_any _ _).mono ?_
      rw [HB.out]
      rintro x w2 ⟨rfl, rfl⟩
      go_wp2_with fail
      go_ret
      exact ⟨ret_int E.out.symm, hbA.trans (hb1.mono hbA.size)⟩
set_option maxRecDepth 8000 in
set_option maxHeartbeats 1000000 in
theorem cleanOf_any (s e m r d c : Int) (w : World) (hT : Tab w) :
    Calls Tryd.prog 40 #[boV s e m r, .int .i64 d, .int .i64 c] w fun x w' => x = .returned (cleV s e m r d c) ∧ Below w.heap.size w w' := by
  have HT := Lib.hid hT; clear hT
  have hbA := (Below.refl w.heap.size w).alloc (Nat.le_refl _) (.cells #[.int .i64 s, .int .i64 e, .int .i64 m, .int .i64 r] 24)
  have HTA := Lib.hid (HT.out.below hbA HT.out.pos)
  have HAC := Lib.hid (accruedOf_any s e m r d)
  cases hR : runB s e m r d with
  | false =>
    have E := Lib.hid (show cleV s e m r d c = .tuple #[.int .i64 0, .bool false] by unfold cleV cleB; rw [if_neg (by simp [hR])])
    have ha := acc_no hR
    rw [ha] at HAC
    clear hR ha
    go_enter Tryd.func40, Tryd.ntmps40
    go_wp2_with fail
    refine (HAC.out _ HTA.out).mono ?_
    rintro x w1 ⟨rfl, hb1⟩
    go_wp2_with fail
    go_ret2
    exact ⟨by rw [E.out]; rfl, hbA.trans (hb1.mono hbA.size)⟩
  | true =>
    obtain ⟨ac0, ac1⟩ := acc_bd hR
    cases hb : btw c (accV s e m r d) (50000 + accV s e m r d) with
    | false =>
      have E := Lib.hid (show cleV s e m r d c = .tuple #[.int .i64 0, .bool false] by unfold cleV cleB; rw [if_neg (by simp [hb])])
      have HB := Lib.hid hb
      clear hR hb
      generalize accV s e m r d = A at *
      have d0 : decide (A < 0) = false := decide_eq_false (by omega)
      go_enter Tryd.func40, Tryd.ntmps40
      go_wp2_with fail
      refine (HAC.out _ HTA.out).mono ?_
      rintro x w1 ⟨rfl, hb1⟩
      go_wp2_with fail
      refine (between_any _ _ _ _).mono ?_
      rw [HB.out]
      rintro x w2 ⟨rfl, rfl⟩
      go_wp2_with fail
      go_ret2
      exact ⟨by rw [E.out]; rfl, hbA.trans (hb1.mono hbA.size)⟩
    | true =>
      have E := Lib.hid (show cleV s e m r d c = .tuple #[.int .i64 (c - accV s e m r d), .bool true] by unfold cleV cleB; rw [if_pos (by simp [hR, hb])])
      have HB := Lib.hid hb
      obtain ⟨b0, b1⟩ := btw_iff.1 hb
      clear hR hb
      generalize accV s e m r d = A at *
      have d0 : decide (A < 0) = false := decide_eq_false (by omega)
      go_enter Tryd.func40, Tryd.ntmps40
      go_wp2_with fail
      refine (HAC.out _ HTA.out).mono ?_
      rintro x w1 ⟨rfl, hb1⟩
      go_wp2_with fail
      refine (between_any _ _ _ _).mono ?_
      rw [HB.out]
      rintro x w2 ⟨rfl, rfl⟩
      go_wp2_with fail
      go_ret2
      exact ⟨by rw [E.out]; rfl, hbA.trans (hb1.mono hbA.size)⟩
set_option maxRecDepth 8000 in
set_option maxHeartbeats 1000000 in
theorem sDirtyOf_any (s e m r d c : Int) (w : World) :
    Calls Tryd.prog 39 #[boV s e m r, .int .i64 d, .int .i64 c] w fun x w' => x = .returned (.int .i64 (dirV s e m r d c)) ∧ Below w.heap.size w w' := by
  have kB := Blk.new w #[.int .i64 s, .int .i64 e, .int .i64 m, .int .i64 r] 24
  have hbA := (Below.refl w.heap.size w).alloc (Nat.le_refl _) (.cells #[.int .i64 s, .int .i64 e, .int .i64 m, .int .i64 r] 24)
  cases hR : runB s e m r d with
  | false =>
    have E := Lib.hid (show dirV s e m r d c = -1 by unfold dirV; rw [if_neg (by simp [hR])])
    have HR := Lib.hid hR
    clear hR
    go_enter Tryd.func39, Tryd.ntmps39
    go_wp2_with fail
    refine (running_any _ _ _ _ _ _).mono ?_
    rw [HR.out]
    rintro x w1 ⟨rfl, hb1⟩
    go_wp2_with fail
    go_ret
    exact ⟨ret_int E.out.symm, hbA.trans (hb1.mono hbA.size)⟩
  | true =>
    have HR := Lib.hid hR
    obtain ⟨ac0, ac1⟩ := acc_bd hR
    have HS := Lib.hid (fun W => sAccrued_any s e m r d W hR)
    cases hb : btw c 0 50000 with
    | false =>
      have E := Lib.hid (show dirV s e m r d c = -1 by unfold dirV; rw [if_neg (by simp [hb])])
      have HB := Lib.hid hb
      clear hR hb
      go_enter Tryd.func39, Tryd.ntmps39
      go_wp2_with fail
      refine (running_any _ _ _ _ _ _).mono ?_
      rw [HR.out]
      rintro x w1 ⟨rfl, hb1⟩
      go_wp2_with fail
      refine (inRange_any _ _ _ _).mono ?_
      rw [HB.out]
      rintro x w2 ⟨rfl, rfl⟩
      go_wp2_with fail
      go_ret
      exact ⟨ret_int E.out.symm, hbA.trans (hb1.mono hbA.size)⟩
    | true =>
      have E := Lib.hid (show dirV s e m r d c = c + accV s e m r d by unfold dirV; rw [if_pos ⟨hR, hb⟩])
      have HB := Lib.hid hb
      obtain ⟨b0, b1⟩ := btw_iff.1 hb
      clear hR hb
      generalize accV s e m r d = A at *
      go_enter Tryd.func39, Tryd.ntmps39
      go_wp2_with fail
      refine (running_any _ _ _ _ _ _).mono ?_
      rw [HR.out]
      rintro x w1 ⟨rfl, hb1⟩
      replace kB := kB.below hb1 kB.lt
      replace hbA := hbA.trans (hb1.mono hbA.size)
      obtain ⟨c0, c1, c2, c3⟩ := kB.four
      go_wp2_with fail
      refine (inRange_any _ _ _ _).mono ?_
      rw [HB.out]
      rintro x w2 ⟨rfl, rfl⟩
      go_wp2_with fail
      refine (HS.out _).mono ?_
      rintro x w3 ⟨rfl, hb3⟩
      go_wp2_with fail
      go_ret
      exact ⟨ret_int E.out.symm, hbA.trans (hb3.mono hbA.size)⟩
end Go.Proofs.YtcckopnpmcbbcaaDoor
