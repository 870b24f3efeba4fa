/- The accrued interest of the model. -/
import Derived.Test.YtgaeclfjmhpocaaDoorAcc3
import Derived.Test.YtgaeclfjmhpocaaDoorFlowS
namespace Go.Proofs.YtgaeclfjmhpocaaDoor
open Go.RowKit
set_option maxRecDepth 8000 in
set_option maxHeartbeats 2000000 in
theorem sPeriodOf_any (s e m r d : Int) (w : World) (hR : runB s e m r d = true) :
    Calls Tryd.prog 80 #[boV s e m r, .int .i64 d] w fun x w' => x = .returned (.int .i64 (runK s e m r d)) ∧ Below w.heap.size w w' := by
  have hne : perL s e m r ≠ [] := fun k => by have := (runB_iff.1 hR).1; rw [k] at this; simp at this
  have hp : perL s e m r = Sc.sch s e m := by
    unfold perL at hne ⊢
    split
    · rfl
    · rename_i c; rw [if_neg c] at hne; exact absurd rfl hne
  have hne' := hne
  rw [hp] at hne'
  obtain ⟨ok, hN, hall⟩ := Sc.sch_pos hne'
  obtain ⟨hk, -, hkf, hkt, hkb⟩ := runK_facts hR
  have hl40 := perL_len s e m r
  have HS := Lib.hid (fun W => sSched_any s e m W ok)
  obtain ⟨k, hkk⟩ : ∃ k, k = runK s e m r d := ⟨_, rfl⟩
  rw [← hkk] at hk hkf hkt hkb ⊢
  have HA : Hid (Sc.specL s e m (Sc.N s e m) = perL s e m r) := Lib.hid (by rw [hp, hall, Sc.specL_all ok hN])
  obtain ⟨ps, hps⟩ : ∃ ps, ps = perL s e m r := ⟨_, rfl⟩
  rw [← hps] at hk hkf hkt hkb HA hl40
  clear hps hkk hR hne hne' hp ok hN hall
  obtain ⟨n, hn⟩ : ∃ n, n = ps.length := ⟨_, rfl⟩
  rw [← hn] at hk hl40
  have HB := Lib.hid hkb
  have HKF := Lib.hid hkf
  have HKT := Lib.hid hkt
  have HN := Lib.hid hn
  clear hkb hkf hkt hn
  have kB := Blk.new w #[.int .i64 s, .int .i64 e, .int .i64 m, .int .i64 r] 24
  have hbA := (Below.refl w.heap.size w).alloc (Nat.le_refl _) (.cells #[.int .i64 s, .int .i64 e, .int .i64 m, .int .i64 r] 24)
  go_enter Tryd.func80, Tryd.ntmps80
  go_wp2_with fail
  refine (HS.out _).mono ?_
  rintro x w2 ⟨v, rfl, hq, hb⟩
  rw [HA.out] at hq
  have hrd := hq.1.rd
  obtain ⟨b, c, rfl, hbl, hc⟩ := hrd.2 (by rw [← HN.out]; omega)
  replace hbA := hbA.trans (hb.mono hbA.size)
  rw [← HN.out] at hc ⊢
  have HC := Lib.hid hc
  clear hrd hq hc hb kB
  go_wp2_with fail
  go_loopw [6] (fun x wr => ∃ i : Nat, i ≤ k ∧ x = .int .i64 i ∧ ∃ q, wr = w2.drewN q) (fun x _ => n - (intOf x).toNat)
  case atStart => exact ⟨0, by omega, rfl, 0, rfl⟩
  case round =>
    obtain ⟨i, hi, rfl, q, rfl⟩ := hrel
    obtain ⟨c0, c1, -⟩ := HC.out i (by omega)
    have hin : (i : Int) < (n : Int) := by omega
    by_cases hlt : i < k
    · have hb := HB.out i hlt
      generalize ps.getD i p0 = p at *
      obtain ⟨f, t, z⟩ := p
      dsimp only at c0 c1 hb
      by_cases e1 : f ≤ d
      · have d1 := decide_eq_true e1
        have d2 : decide (d < t) = false := decide_eq_false (fun h => hb ⟨e1, h⟩)
        clear hb e1
        go_wp2_with fail
        first | (go_quiet (fail); go_wp2_with fail) | skip
        go_roundw
        case rel => exact ⟨i + 1, by omega, by go_num, _, rfl⟩
        case measure => simp [intOf] <;> omega
      · have d1 := decide_eq_false e1
        clear hb e1
        go_wp2_with fail
        first | (go_quiet (fail); go_wp2_with fail) | skip
        go_roundw
        case rel => exact ⟨i + 1, by omega, by go_num, _, rfl⟩
        case measure => simp [intOf] <;> omega
    · obtain rfl : i = k := by omega
      have d1 := decide_eq_true HKF.out
      have d2 := decide_eq_true HKT.out
      generalize ps.getD i p0 = p at *
      obtain ⟨f, t, z⟩ := p
      dsimp only at c0 c1 d1 d2
      go_wp2_with fail
      first | (go_quiet (fail); go_wp2_with fail) | skip
      go_ret
      exact ⟨rfl, by first | exact below_drewN hbA _ | exact below_drewN (below_drewN hbA _) _⟩
end Go.Proofs.YtgaeclfjmhpocaaDoor
