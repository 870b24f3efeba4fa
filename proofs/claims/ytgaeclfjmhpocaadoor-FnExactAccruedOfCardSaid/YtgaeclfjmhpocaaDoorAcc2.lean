/- The period that runs, and the accrued interest of the program. -/
import Derived.Test.YtgaeclfjmhpocaaDoorAcc
import Derived.Test.YtgaeclfjmhpocaaDoorDrawBond
namespace Go.Proofs.YtgaeclfjmhpocaaDoor
open Go.RowKit
theorem Blk.one {w : World} {b : Nat} {t : TypeId} {x : Value} (h : Blk w b t #[x]) : w.cell? ⟨b, 0, none⟩ = some x := by
  unfold Blk at h
  simp [World.cell?, h]
abbrev pV (p : Per) : Value := .agg #[.int .i64 p.1, .int .i64 p.2.1, .bool p.2.2]
abbrev boV (s e m r : Int) : Value := .agg #[.int .i64 s, .int .i64 e, .int .i64 m, .int .i64 r]
set_option maxRecDepth 8000 in
set_option maxHeartbeats 2000000 in
theorem periodAt_yes (s e m r d : Int) (w : World) (hT : Tab w) (hR : runB s e m r d = true) :
    Calls Tryd.prog 52 #[boV s e m r, .int .i64 d] w fun x w' => x = .returned (.tuple #[pV ((perL s e m r).getD (runK s e m r d) p0), .bool true]) ∧ Below w.heap.size w w' := by
  have HT := Lib.hid hT; clear hT
  have HF := Lib.hid (runK_facts hR)
  obtain ⟨h0, h1, h2⟩ := runB_iff.1 hR
  have h1' : decide (d < s) = false := decide_eq_false (by omega)
  have h2' : decide (e ≤ d) = false := decide_eq_false (by omega)
  have hl40 := perL_len s e m r
  have HPE := Lib.hid (periods_any s e m r)
  obtain ⟨hK, hIK, -, -, -⟩ := HF.out
  clear hR HF
  obtain ⟨k, hk⟩ : ∃ k, k = runK s e m r d := ⟨_, rfl⟩
  rw [← hk] at hK hIK ⊢
  clear hk
  obtain ⟨ps, hps⟩ : ∃ ps, ps = perL s e m r := ⟨_, rfl⟩
  rw [← hps] at hK hIK hl40 h0 HPE ⊢
  clear hps
  have HIK := Lib.hid hIK
  obtain ⟨pp, hpp⟩ : ∃ pp, pp = ps.getD k p0 := ⟨_, rfl⟩
  rw [← hpp]
  have HPP := Lib.hid hpp
  clear hpp hIK
  have kB := ((Blk.new w #[.int .i64 s, .int .i64 e, .int .i64 m, .int .i64 r] 24).alloc (.cells #[.int .i64 d] 3)).alloc (.cells #[.int .i64 0, .int .i64 0, .bool false] 41)
  have kD := (Blk.new (w.alloc (.cells #[.int .i64 s, .int .i64 e, .int .i64 m, .int .i64 r] 24)) #[.int .i64 d] 3).alloc (.cells #[.int .i64 0, .int .i64 0, .bool false] 41)
  have kR := Blk.new ((w.alloc (.cells #[.int .i64 s, .int .i64 e, .int .i64 m, .int .i64 r] 24)).alloc (.cells #[.int .i64 d] 3)) #[.int .i64 0, .int .i64 0, .bool false] 41
  have hbA := (((Below.refl w.heap.size w).alloc (Nat.le_refl _) (.cells #[.int .i64 s, .int .i64 e, .int .i64 m, .int .i64 r] 24)).alloc (by simp) (.cells #[.int .i64 d] 3)).alloc (by simp; omega) (.cells #[.int .i64 0, .int .i64 0, .bool false] 41)
  simp only [World.size_alloc] at kB kD kR
  have HTA := Lib.hid (HT.out.below hbA HT.out.pos)
  go_enter Tryd.func52, Tryd.ntmps52
  go_wp2_with fail
  refine (HPE.out _ HTA.out).mono ?_
  rintro x w1 ⟨v, rfl, hr, -, hb1⟩
  obtain ⟨b, c, rfl, hbl, hc⟩ := hr.rd.2 h0
  have HC := Lib.hid hc
  replace kB := kB.below hb1 kB.lt
  replace kD := kD.below hb1 kD.lt
  replace kR := kR.below hb1 kR.lt
  replace hbA := hbA.trans (hb1.mono hbA.size)
  clear hr hc hb1
  obtain ⟨n, hn⟩ : ∃ n, n = ps.length := ⟨_, rfl⟩
  rw [← hn] at HC h0 hK hl40 ⊢
  have HN := Lib.hid hn
  clear hn
  have n0 : ((n : Int) == 0) = false := by simp; omega
  obtain ⟨c0, c1, c2, c3⟩ := kB.four
  have d0 := kD.one
  have kd := kD.lt
  have kb := kB.lt
  go_wp2_with fail
  have kbL := hbl
  have hD1 : (w1.alloc (.cells #[.slice (some ⟨b, 0, none⟩) n c] 37)).cell? ⟨w.heap.size + 1, 0, none⟩ = some (.int .i64 d) := by rw [World.cell?_alloc_lt _ _ ⟨w.heap.size + 1, 0, none⟩ kd]; exact d0
  have hL1 := (Blk.new w1 #[.slice (some ⟨b, 0, none⟩) n c] 37).one
  have SR := search_any (w1.alloc (.cells #[.slice (some ⟨b, 0, none⟩) n c] 37)) b c (w.heap.size + 1) w1.heap.size k d ps (by rw [← HN.out]; exact hl40) HIK.out hD1 (by rw [← HN.out]; exact hL1) (fun i hi => by
    rw [World.cell?_alloc_lt _ _ ⟨b, i * 3 + 1, none⟩ hbl]; exact (HC.out i (by rw [HN.out]; exact hi)).2.1)
  rw [← HN.out] at SR
  obtain ⟨e0, e1, e2⟩ := HC.out k hK
  rw [← HPP.out] at e0 e1 e2
  clear hD1 hL1 d0 c0 c1 c2 c3
  refine SR.mono ?_
  rintro x w2 ⟨rfl, q, rfl⟩
  replace kR := kR.alloc (.cells #[.slice (some ⟨b, 0, none⟩) n c] 37)
  have hbs := hbA.size
  replace hbA := hbA.alloc hbs (.cells #[.slice (some ⟨b, 0, none⟩) n c] 37)
  replace e0 : (w1.alloc (.cells #[.slice (some ⟨b, 0, none⟩) n c] 37)).cell? ⟨b, k * 3, none⟩ = some (.int .i64 pp.1) := by rw [World.cell?_alloc_lt _ _ ⟨b, k * 3, none⟩ hbl]; exact e0
  replace e1 : (w1.alloc (.cells #[.slice (some ⟨b, 0, none⟩) n c] 37)).cell? ⟨b, k * 3 + 1, none⟩ = some (.int .i64 pp.2.1) := by rw [World.cell?_alloc_lt _ _ ⟨b, k * 3 + 1, none⟩ hbl]; exact e1
  replace e2 : (w1.alloc (.cells #[.slice (some ⟨b, 0, none⟩) n c] 37)).cell? ⟨b, k * 3 + 2, none⟩ = some (.bool pp.2.2) := by rw [World.cell?_alloc_lt _ _ ⟨b, k * 3 + 2, none⟩ hbl]; exact e2
  have hL2 := (Blk.new w1 #[.slice (some ⟨b, 0, none⟩) n c] 37).one
  clear SR HC kB kD
  generalize w1.alloc (.cells #[.slice (some ⟨b, 0, none⟩) n c] 37) = W1 at *
  obtain ⟨⟨r0, r1, r2⟩, f0, f1, f2⟩ := kR.three
  obtain ⟨pf, pt, pz⟩ := pp
  dsimp only at e0 e1 e2
  go_wp2_with fail
  refine bodyPost_ret (v := .tuple #[pV (pf, pt, pz), .bool true]) (by simp [results, Tryd.results52, go_sem, r0, r1, r2]) rfl ⟨rfl, ?_⟩
  repeat (refine Below.setCell ?_ (by simp <;> omega) _)
  exact below_drewN hbA _
set_option maxRecDepth 8000 in
set_option maxHeartbeats 2000000 in
theorem periodAt_no (s e m r d : Int) (w : World) (hT : Tab w) (hR : runB s e m r d = false) :
    Calls Tryd.prog 52 #[boV s e m r, .int .i64 d] w fun x w' => x = .returned (.tuple #[pV (0, 0, false), .bool false]) ∧ Below w.heap.size w w' := by
  have HT := Lib.hid hT; clear hT
  have HPE := Lib.hid (periods_any s e m r)
  have hR' : ¬ (0 < (perL s e m r).length ∧ s ≤ d ∧ d < e) := fun k => by rw [runB_iff.2 k] at hR; cases hR
  clear hR
  obtain ⟨ps, hps⟩ : ∃ ps, ps = perL s e m r := ⟨_, rfl⟩
  rw [← hps] at hR' HPE
  clear hps
  have kB := ((Blk.new w #[.int .i64 s, .int .i64 e, .int .i64 m, .int .i64 r] 24).alloc (.cells #[.int .i64 d] 3)).alloc (.cells #[.int .i64 0, .int .i64 0, .bool false] 41)
  have kD := (Blk.new (w.alloc (.cells #[.int .i64 s, .int .i64 e, .int .i64 m, .int .i64 r] 24)) #[.int .i64 d] 3).alloc (.cells #[.int .i64 0, .int .i64 0, .bool false] 41)
  have kR := Blk.new ((w.alloc (.cells #[.int .i64 s, .int .i64 e, .int .i64 m, .int .i64 r] 24)).alloc (.cells #[.int .i64 d] 3)) #[.int .i64 0, .int .i64 0, .bool false] 41
  have hbA := (((Below.refl w.heap.size w).alloc (Nat.le_refl _) (.cells #[.int .i64 s, .int .i64 e, .int .i64 m, .int .i64 r] 24)).alloc (by simp) (.cells #[.int .i64 d] 3)).alloc (by simp; omega) (.cells #[.int .i64 0, .int .i64 0, .bool false] 41)
  simp only [World.size_alloc] at kB kD kR
  have HTA := Lib.hid (HT.out.below hbA HT.out.pos)
  by_cases hn0 : ps.length = 0
  all_goals
    go_enter Tryd.func52, Tryd.ntmps52
    go_wp2_with fail
    refine (HPE.out _ HTA.out).mono ?_
    rintro x w1 ⟨v, rfl, hr, -, hb1⟩
    obtain ⟨a, c, rfl⟩ := hr.rd.1
    replace kB := (kB.below hb1 kB.lt).alloc (.cells #[.slice a ps.length c] 37)
    replace kD := (kD.below hb1 kD.lt).alloc (.cells #[.slice a ps.length c] 37)
    replace kR := (kR.below hb1 kR.lt).alloc (.cells #[.slice a ps.length c] 37)
    replace hbA := hbA.trans (hb1.mono hbA.size)
    have hbs := hbA.size
    replace hbA := hbA.alloc hbs (.cells #[.slice a ps.length c] 37)
    clear hr hb1
    obtain ⟨c0, c1, c2, c3⟩ := kB.four
    have d0 := kD.one
    have l0 := (Blk.new w1 #[.slice a ps.length c] 37).one
    obtain ⟨⟨r0, r1, r2⟩, f0, f1, f2⟩ := kR.three
    clear kB kD kR
    generalize ps.length = n at *
  · subst hn0
    go_wp2_with fail
    refine bodyPost_ret (v := .tuple #[pV (0, 0, false), .bool false]) (by simp [results, Tryd.results52, go_sem, r0, r1, r2]) rfl ⟨rfl, ?_⟩
    repeat (refine Below.setCell ?_ (by simp <;> omega) _)
    exact hbA
  · have n0 : ((n : Int) == 0) = false := by simp; omega
    by_cases h1 : d < s
    · have h1' := decide_eq_true h1
      go_wp2_with fail
      refine bodyPost_ret (v := .tuple #[pV (0, 0, false), .bool false]) (by simp [results, Tryd.results52, go_sem, r0, r1, r2]) rfl ⟨rfl, ?_⟩
      repeat (refine Below.setCell ?_ (by simp <;> omega) _)
      exact hbA
    · have h1' := decide_eq_false h1
      have h2' : decide (e ≤ d) = true := decide_eq_true (by omega)
      go_wp2_with fail
      refine bodyPost_ret (v := .tuple #[pV (0, 0, false), .bool false]) (by simp [results, Tryd.results52, go_sem, r0, r1, r2]) rfl ⟨rfl, ?_⟩
      repeat (refine Below.setCell ?_ (by simp <;> omega) _)
      exact hbA
end Go.Proofs.YtgaeclfjmhpocaaDoor
