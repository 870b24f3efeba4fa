/- The period that runs, and the accrued interest of the program. -/
import Derived.Test.YtkdooncfchmkfaaDoorBnd
import Derived.Test.YtkdooncfchmkfaaDoorSchD
import Derived.OwnWalk
import Derived.Outline
import Derived.Test.YtkdooncfchmkfaaDoorDrawBond
import Derived.Test.YtkdooncfchmkfaaDoorZB
import Derived.Deep.RegionHeld3
namespace Go.Proofs.YtkdooncfchmkfaaDoor
open Go.RowKit
set_option maxHeartbeats 400000 in
theorem clo2_any (w : World) (i n cap b BD BL : Nat) (d t : Int) (hi : i < n) (hD : w.cell? ⟨BD, 0, none⟩ = some (.int .i64 d)) (hL : w.cell? ⟨BL, 0, none⟩ = some (.slice (some ⟨b, 0, none⟩) n cap))
    (ht : w.cell? ⟨b, i * 3 + 1, none⟩ = some (.int .i64 t)) :
    Calls Tryd.prog 56 #[.int .i64 i, .pointer (some ⟨BD, 0, none⟩), .pointer (some ⟨BL, 0, none⟩)] w fun x w' => x = .returned (.bool (decide (d < t))) ∧ ∃ q, w' = w.drewN q := by
  have hin : (i : Int) < n := by omega
  go_enter Tryd.func56, Tryd.ntmps56
  go_wp2_with fail
  go_quiet (fail)
  go_wp2_with fail
  go_ret
  exact ⟨rfl, _, rfl⟩
/-- The search for the first period that ends behind a day. -/
def IsK (ps : List Per) (d : Int) (k : Nat) : Prop := k ≤ ps.length ∧ ∀ h, h < ps.length → (d < (ps.getD h p0).2.1 ↔ k ≤ h)
set_option maxRecDepth 8000 in
set_option maxHeartbeats 1000000 in
theorem search_any (w : World) (b cap BD BL k : Nat) (d : Int) (ps : List Per) (hm : ps.length ≤ 40) (hk : IsK ps d k) (hD : w.cell? ⟨BD, 0, none⟩ = some (.int .i64 d)) (hL : w.cell? ⟨BL, 0, none⟩ = some (.slice (some ⟨b, 0, none⟩) ps.length cap))
    (hc : ∀ i, i < ps.length → w.cell? ⟨b, i * 3 + 1, none⟩ = some (.int .i64 (ps.getD i p0).2.1)) :
    Calls Tryd.prog 27 #[.int .i64 ps.length, .func (.func 56) #[] #[.pointer (some ⟨BD, 0, none⟩), .pointer (some ⟨BL, 0, none⟩)]] w fun x w' => x = .returned (.int .i64 k) ∧ ∃ q, w' = w.drewN q := by
  obtain ⟨n, hn⟩ : ∃ n, n = ps.length := ⟨_, rfl⟩
  have hkk := hk
  obtain ⟨k1, k2⟩ := hk
  rw [← hn] at hm hL hc k1 k2 ⊢
  have HK := Lib.hid k2
  have HC := Lib.hid hc
  have HD := Lib.hid hD
  have HL := Lib.hid hL
  clear hc k2 hkk hn hD hL
  go_enter Tryd.func27, Tryd.ntmps27
  go_wp2_with fail
  go_loopw [5, 6] (fun x y wr => ∃ i j : Nat, i ≤ k ∧ k ≤ j ∧ j ≤ n ∧ x = .int .i64 i ∧ y = .int .i64 j ∧ ∃ q, wr = w.drewN q) (fun x y _ => (intOf y - intOf x).toNat)
  case atStart => exact ⟨0, n, by omega, k1, Nat.le_refl _, rfl, rfl, 0, rfl⟩
  case round =>
    obtain ⟨i, j, hi, hj, hjn, rfl, rfl, q, rfl⟩ := hrel
    by_cases hlt : i < j
    · obtain ⟨h, eh, h1, h2⟩ : ∃ h : Nat, ((i : Int) + (j : Int)) / 2 = (h : Int) ∧ i ≤ h ∧ h < j := ⟨(i + j) / 2, by omega, by omega, by omega⟩
      have hq := HK.out h (by omega)
      have hto := HC.out h (by omega)
      have CL := Lib.hid (clo2_any (w.drewN q) h n cap b BD BL d (ps.getD h p0).2.1 (by omega) (by exact HD.out) (by exact HL.out) (by exact hto))
      clear hto
      generalize (ps.getD h p0).2.1 = t at CL hq
      by_cases c : d < t
      · have hkh := hq.1 c
        have CL2 := CL.out
        rw [decide_eq_true c] at CL2
        have CL3 := Lib.hid CL2
        clear CL2 CL c hq
        go_wp2_with fail
        refine CL3.out.mono ?_
        rintro x w1 ⟨rfl, q2, rfl⟩
        go_wp2_with fail
        go_roundw
        case rel => exact ⟨i, h, hi, hkh, by omega, rfl, rfl, ⟨_, rfl⟩⟩
        case measure => simp [intOf]; omega
      · have hkh : h < k := by
          rcases Nat.lt_or_ge h k with z | z
          · exact z
          · exact absurd (hq.2 z) c
        have CL2 := CL.out
        rw [decide_eq_false c] at CL2
        have CL3 := Lib.hid CL2
        clear CL2 CL c hq
        go_wp2_with fail
        refine CL3.out.mono ?_
        rintro x w1 ⟨rfl, q2, rfl⟩
        go_wp2_with fail
        go_roundw
        case rel => exact ⟨h + 1, j, by omega, hj, hjn, by simp, rfl, ⟨_, rfl⟩⟩
        case measure => simp [intOf]; omega
    · have hd : decide ((i : Int) < (j : Int)) = false := decide_eq_false (by omega)
      obtain rfl : i = k := by omega
      go_wp2_with fail
      go_ret
      exact ⟨rfl, q, rfl⟩
/-- The period of a bond that runs at a day. -/
noncomputable def runB (s e m r d : Int) : Bool := decide (0 < (perL s e m r).length ∧ s ≤ d ∧ d < e)
theorem runB_iff {s e m r d : Int} : runB s e m r d = true ↔ 0 < (perL s e m r).length ∧ s ≤ d ∧ d < e := by unfold runB; simp
/-- What is known of the period that runs. -/
theorem run_facts {s e m r d : Int} (h : runB s e m r d = true) : ∃ k : Nat, k < (perL s e m r).length ∧ IsK (perL s e m r) d k ∧ ((perL s e m r).getD k p0).1 ≤ d ∧ d < ((perL s e m r).getD k p0).2.1 ∧
    (∀ j, j < k → ¬ (((perL s e m r).getD j p0).1 ≤ d ∧ d < ((perL s e m r).getD j p0).2.1)) := by
  obtain ⟨h0, h1, h2⟩ := runB_iff.1 h
  have hne : perL s e m r ≠ [] := fun k => by rw [k] at h0; simp at h0
  have hp : perL s e m r = Sc.sch s e m := by
    unfold perL at hne ⊢
    split
    · rfl
    · rename_i c; rw [if_neg c] at hne; exact absurd rfl hne
  rw [hp] at hne h0 ⊢
  obtain ⟨ok, hN, hall⟩ := Sc.sch_pos hne
  have hlen : (Sc.sch s e m).length = Sc.N s e m := by rw [hall, Sc.all_len]
  rw [hlen] at h0 ⊢
  have hf : ∀ i, i < Sc.N s e m → ∃ f t : Int, ∃ b : Bool, (Sc.sch s e m).getD i p0 = (f, t, b) ∧ f < t ∧ (i = 0 → f = s) ∧ (i + 1 = Sc.N s e m → t = e) ∧ (0 < i → f = ((Sc.sch s e m).getD (i - 1) p0).2.1) := fun i hi => by
    obtain ⟨f, t, b, hg, hlt, -, -, -, q0, q1, q2⟩ := Sc.all_facts ok hN hi
    rw [hall]
    exact ⟨f, t, b, hg, hlt, q0, q1, fun q => (q2 q).2⟩
  have he : d < ((Sc.sch s e m).getD (Sc.N s e m - 1) p0).2.1 := by
    obtain ⟨f, t, b, hg, -, -, q, -⟩ := hf (Sc.N s e m - 1) (by omega)
    rw [hg]
    have := q (by omega)
    dsimp only
    omega
  unfold IsK
  rw [hlen]
  generalize Sc.N s e m = n at *
  generalize Sc.sch s e m = ps at *
  have lt : ∀ i, i < n → (ps.getD i p0).1 < (ps.getD i p0).2.1 := fun i hi => by
    obtain ⟨f, t, b, hg, q, -⟩ := hf i hi
    rw [hg]; exact q
  have co : ∀ i, i + 1 < n → (ps.getD (i + 1) p0).1 = (ps.getD i p0).2.1 := fun i hi => by
    obtain ⟨f, t, b, hg, -, -, -, q⟩ := hf (i + 1) hi
    have := q (by omega)
    rw [hg]; exact this
  have k0 : (ps.getD 0 p0).1 = s := by
    obtain ⟨f, t, b, hg, -, q, -⟩ := hf 0 h0
    rw [hg]; exact q rfl
  have up : ∀ j i, i ≤ j → j < n → (ps.getD i p0).2.1 ≤ (ps.getD j p0).2.1 := by
    intro j
    induction j with
    | zero => intro i a b; obtain rfl : i = 0 := by omega
              omega
    | succ j ih =>
      intro i a b
      rcases Nat.lt_or_ge i (j + 1) with c | c
      · have := ih i (by omega) (by omega)
        have := co j b
        have := lt (j + 1) b
        omega
      · obtain rfl : i = j + 1 := by omega
        omega
  have ex : ∀ j, j < n → d < (ps.getD j p0).2.1 → ∃ k, k ≤ j ∧ d < (ps.getD k p0).2.1 ∧ ∀ i, i < k → ¬ d < (ps.getD i p0).2.1 := by
    intro j
    induction j with
    | zero => intro _ c; exact ⟨0, Nat.le_refl _, c, fun i hi => by omega⟩
    | succ j ih =>
      intro hj c
      by_cases z : d < (ps.getD j p0).2.1
      · obtain ⟨k, a, b, c'⟩ := ih (by omega) z
        exact ⟨k, by omega, b, c'⟩
      · refine ⟨j + 1, Nat.le_refl _, c, fun i hi hz => z ?_⟩
        have := up j i (by omega) (by omega)
        omega
  obtain ⟨k, hk, hd, hb⟩ := ex (n - 1) (by omega) he
  refine ⟨k, by omega, ⟨by omega, fun h hh => ⟨fun c => ?_, fun c => ?_⟩⟩, ?_, hd, fun j hj c => hb j hj c.2⟩
  · rcases Nat.lt_or_ge h k with z | z
    · exact absurd c (hb h z)
    · exact z
  · have := up h k c hh
    omega
  · rcases Nat.eq_zero_or_pos k with z | z
    · rw [z, k0]; exact h1
    · have a := co (k - 1) (by omega)
      rw [show k - 1 + 1 = k by omega] at a
      have b := hb (k - 1) (by omega)
      omega
/-- Its index. -/
noncomputable def runK (s e m r d : Int) : Nat := if h : runB s e m r d = true then Classical.choose (run_facts h) else 0
theorem runK_facts {s e m r d : Int} (h : runB s e m r d = true) : runK s e m r d < (perL s e m r).length ∧ IsK (perL s e m r) d (runK s e m r d) ∧ ((perL s e m r).getD (runK s e m r d) p0).1 ≤ d ∧ d < ((perL s e m r).getD (runK s e m r d) p0).2.1 ∧
    (∀ j, j < runK s e m r d → ¬ (((perL s e m r).getD j p0).1 ≤ d ∧ d < ((perL s e m r).getD j p0).2.1)) := by
  unfold runK
  rw [dif_pos h]
  exact Classical.choose_spec (run_facts h)
theorem Blk.one {w : World} {b : Nat} {t : TypeId} {x : Value} (h : Blk w b t #[x]) : w.cell? ⟨b, 0, none⟩ = some x := by
  unfold Blk at h
  simp [World.cell?, h]
abbrev pV (p : Per) : Value := .agg #[.int .i64 p.1, .int .i64 p.2.1, .bool p.2.2]
abbrev boV (s e m r : Int) : Value := .agg #[.int .i64 s, .int .i64 e, .int .i64 m, .int .i64 r]
set_option maxRecDepth 8000 in
set_option maxHeartbeats 2000000 in
theorem periodAt_yes (s e m r d : Int) (w : World) (hT : Tab w) (hR : runB s e m r d = true) :
    Calls Tryd.prog 36 #[boV s e m r, .int .i64 d] w fun x w' => x = .returned (.tuple #[pV ((perL s e m r).getD (runK s e m r d) p0), .bool true]) ∧ Below w.heap.size w w' := by
  have HT := Lib.hid hT; clear hT
  have HF := Lib.hid (runK_facts hR)
  obtain ⟨h0, h1, h2⟩ := runB_iff.1 hR
  have h1' : decide (d < s) = false := decide_eq_false (by omega)
  have h2' : decide (e ≤ d) = false := decide_eq_false (by omega)
  have hl40 := perL_len s e m r
  have HPE := Lib.hid (periods_any s e m r)
  obtain ⟨hK, hIK, -, -, -⟩ := HF.out
  clear hR HF
  obtain ⟨k, hk⟩ : ∃ k, k = runK s e m r d := ⟨_, rfl⟩
  rw [← hk] at hK hIK ⊢
  clear hk
  obtain ⟨ps, hps⟩ : ∃ ps, ps = perL s e m r := ⟨_, rfl⟩
  rw [← hps] at hK hIK hl40 h0 HPE ⊢
  clear hps
  have HIK := Lib.hid hIK
  obtain ⟨pp, hpp⟩ : ∃ pp, pp = ps.getD k p0 := ⟨_, rfl⟩
  rw [← hpp]
  have HPP := Lib.hid hpp
  clear hpp hIK
  have kB := ((Blk.new w #[.int .i64 s, .int .i64 e, .int .i64 m, .int .i64 r] 27).alloc (.cells #[.int .i64 d] 3)).alloc (.cells #[.int .i64 0, .int .i64 0, .bool false] 58)
  have kD := (Blk.new (w.alloc (.cells #[.int .i64 s, .int .i64 e, .int .i64 m, .int .i64 r] 27)) #[.int .i64 d] 3).alloc (.cells #[.int .i64 0, .int .i64 0, .bool false] 58)
  have kR := Blk.new ((w.alloc (.cells #[.int .i64 s, .int .i64 e, .int .i64 m, .int .i64 r] 27)).alloc (.cells #[.int .i64 d] 3)) #[.int .i64 0, .int .i64 0, .bool false] 58
  have hbA := (((Below.refl w.heap.size w).alloc (Nat.le_refl _) (.cells #[.int .i64 s, .int .i64 e, .int .i64 m, .int .i64 r] 27)).alloc (by simp) (.cells #[.int .i64 d] 3)).alloc (by simp; omega) (.cells #[.int .i64 0, .int .i64 0, .bool false] 58)
  simp only [World.size_alloc] at kB kD kR
  have HTA := Lib.hid (HT.out.below hbA HT.out.pos)
  go_enter Tryd.func36, Tryd.ntmps36
  go_wp2_with fail
  refine (HPE.out _ HTA.out).mono ?_
  rintro x w1 ⟨v, rfl, hr, -, hb1⟩
  obtain ⟨b, c, rfl, hbl, hc⟩ := hr.rd.2 h0
  have HC := Lib.hid hc
  replace kB := kB.below hb1 kB.lt
  replace kD := kD.below hb1 kD.lt
  replace kR := kR.below hb1 kR.lt
  replace hbA := hbA.trans (hb1.mono hbA.size)
  clear hr hc hb1
  obtain ⟨n, hn⟩ : ∃ n, n = ps.length := ⟨_, rfl⟩
  rw [← hn] at HC h0 hK hl40 ⊢
  have HN := Lib.hid hn
  clear hn
  have n0 : ((n : Int) == 0) = false := by simp; omega
  obtain ⟨c0, c1, c2, c3⟩ := kB.four
  have d0 := kD.one
  have kd := kD.lt
  have kb := kB.lt
  go_wp2_with fail
  have kbL := hbl
  have hD1 : (w1.alloc (.cells #[.slice (some ⟨b, 0, none⟩) n c] 65)).cell? ⟨w.heap.size + 1, 0, none⟩ = some (.int .i64 d) := by rw [World.cell?_alloc_lt _ _ ⟨w.heap.size + 1, 0, none⟩ kd]; exact d0
  have hL1 := (Blk.new w1 #[.slice (some ⟨b, 0, none⟩) n c] 65).one
  have SR := search_any (w1.alloc (.cells #[.slice (some ⟨b, 0, none⟩) n c] 65)) b c (w.heap.size + 1) w1.heap.size k d ps (by rw [← HN.out]; exact hl40) HIK.out hD1 (by rw [← HN.out]; exact hL1) (fun i hi => by
    rw [World.cell?_alloc_lt _ _ ⟨b, i * 3 + 1, none⟩ hbl]; exact (HC.out i (by rw [HN.out]; exact hi)).2.1)
  rw [← HN.out] at SR
  obtain ⟨e0, e1, e2⟩ := HC.out k hK
  rw [← HPP.out] at e0 e1 e2
  clear hD1 hL1 d0 c0 c1 c2 c3
  refine SR.mono ?_
  rintro x w2 ⟨rfl, q, rfl⟩
  replace kR := kR.alloc (.cells #[.slice (some ⟨b, 0, none⟩) n c] 65)
  have hbs := hbA.size
  replace hbA := hbA.alloc hbs (.cells #[.slice (some ⟨b, 0, none⟩) n c] 65)
  replace e0 : (w1.alloc (.cells #[.slice (some ⟨b, 0, none⟩) n c] 65)).cell? ⟨b, k * 3, none⟩ = some (.int .i64 pp.1) := by rw [World.cell?_alloc_lt _ _ ⟨b, k * 3, none⟩ hbl]; exact e0
  replace e1 : (w1.alloc (.cells #[.slice (some ⟨b, 0, none⟩) n c] 65)).cell? ⟨b, k * 3 + 1, none⟩ = some (.int .i64 pp.2.1) := by rw [World.cell?_alloc_lt _ _ ⟨b, k * 3 + 1, none⟩ hbl]; exact e1
  replace e2 : (w1.alloc (.cells #[.slice (some ⟨b, 0, none⟩) n c] 65)).cell? ⟨b, k * 3 + 2, none⟩ = some (.bool pp.2.2) := by rw [World.cell?_alloc_lt _ _ ⟨b, k * 3 + 2, none⟩ hbl]; exact e2
  have hL2 := (Blk.new w1 #[.slice (some ⟨b, 0, none⟩) n c] 65).one
  clear SR HC kB kD
  generalize w1.alloc (.cells #[.slice (some ⟨b, 0, none⟩) n c] 65) = W1 at *
  obtain ⟨⟨r0, r1, r2⟩, f0, f1, f2⟩ := kR.three
  obtain ⟨pf, pt, pz⟩ := pp
  dsimp only at e0 e1 e2
  go_wp2_with fail
  refine bodyPost_ret (v := .tuple #[pV (pf, pt, pz), .bool true]) (by simp [results, Tryd.results36, go_sem, r0, r1, r2]) rfl ⟨rfl, ?_⟩
  repeat (refine Below.setCell ?_ (by simp <;> omega) _)
  exact below_drewN hbA _
set_option maxRecDepth 8000 in
set_option maxHeartbeats 2000000 in
theorem periodAt_no (s e m r d : Int) (w : World) (hT : Tab w) (hR : runB s e m r d = false) :
    Calls Tryd.prog 36 #[boV s e m r, .int .i64 d] w fun x w' => x = .returned (.tuple #[pV (0, 0, false), .bool false]) ∧ Below w.heap.size w w' := by
  have HT := Lib.hid hT; clear hT
  have HPE := Lib.hid (periods_any s e m r)
  have hR' : ¬ (0 < (perL s e m r).length ∧ s ≤ d ∧ d < e) := fun k => by rw [runB_iff.2 k] at hR; cases hR
  clear hR
  obtain ⟨ps, hps⟩ : ∃ ps, ps = perL s e m r := ⟨_, rfl⟩
  rw [← hps] at hR' HPE
  clear hps
  have kB := ((Blk.new w #[.int .i64 s, .int .i64 e, .int .i64 m, .int .i64 r] 27).alloc (.cells #[.int .i64 d] 3)).alloc (.cells #[.int .i64 0, .int .i64 0, .bool false] 58)
  have kD := (Blk.new (w.alloc (.cells #[.int .i64 s, .int .i64 e, .int .i64 m, .int .i64 r] 27)) #[.int .i64 d] 3).alloc (.cells #[.int .i64 0, .int .i64 0, .bool false] 58)
  have kR := Blk.new ((w.alloc (.cells #[.int .i64 s, .int .i64 e, .int .i64 m, .int .i64 r] 27)).alloc (.cells #[.int .i64 d] 3)) #[.int .i64 0, .int .i64 0, .bool false] 58
  have hbA := (((Below.refl w.heap.size w).alloc (Nat.le_refl _) (.cells #[.int .i64 s, .int .i64 e, .int .i64 m, .int .i64 r] 27)).alloc (by simp) (.cells #[.int .i64 d] 3)).alloc (by simp; omega) (.cells #[.int .i64 0, .int .i64 0, .bool false] 58)
  simp only [World.size_alloc] at kB kD kR
  have HTA := Lib.hid (HT.out.below hbA HT.out.pos)
  by_cases hn0 : ps.length = 0
  all_goals
    go_enter Tryd.func36, Tryd.ntmps36
    go_wp2_with fail
    refine (HPE.out _ HTA.out).mono ?_
    rintro x w1 ⟨v, rfl, hr, -, hb1⟩
    obtain ⟨a, c, rfl⟩ := hr.rd.1
    replace kB := (kB.below hb1 kB.lt).alloc (.cells #[.slice a ps.length c] 65)
    replace kD := (kD.below hb1 kD.lt).alloc (.cells #[.slice a ps.length c] 65)
    replace kR := (kR.below hb1 kR.lt).alloc (.cells #[.slice a ps.length c] 65)
    replace hbA := hbA.trans (hb1.mono hbA.size)
    have hbs := hbA.size
    replace hbA := hbA.alloc hbs (.cells #[.slice a ps.length c] 65)
    clear hr hb1
    obtain ⟨c0, c1, c2, c3⟩ := kB.four
    have d0 := kD.one
    have l0 := (Blk.new w1 #[.slice a ps.length c] 65).one
    obtain ⟨⟨r0, r1, r2⟩, f0, f1, f2⟩ := kR.three
    clear kB kD kR
    generalize ps.length = n at *
  · subst hn0
    go_wp2_with fail
    refine bodyPost_ret (v := .tuple #[pV (0, 0, false), .bool false]) (by simp [results, Tryd.results36, go_sem, r0, r1, r2]) rfl ⟨rfl, ?_⟩
    repeat (refine Below.setCell ?_ (by simp <;> omega) _)
    exact hbA
  · have n0 : ((n : Int) == 0) = false := by simp; omega
    by_cases h1 : d < s
    · have h1' := decide_eq_true h1
      go_wp2_with fail
      refine bodyPost_ret (v := .tuple #[pV (0, 0, false), .bool false]) (by simp [results, Tryd.results36, go_sem, r0, r1, r2]) rfl ⟨rfl, ?_⟩
      repeat (refine Below.setCell ?_ (by simp <;> omega) _)
      exact hbA
    · have h1' := decide_eq_false h1
      have h2' : decide (e ≤ d) = true := decide_eq_true (by omega)
      go_wp2_with fail
      refine bodyPost_ret (v := .tuple #[pV (0, 0, false), .bool false]) (by simp [results, Tryd.results36, go_sem, r0, r1, r2]) rfl ⟨rfl, ?_⟩
      repeat (refine Below.setCell ?_ (by simp <;> omega) _)
      exact hbA
noncomputable def accP (m r d : Int) (p : Per) : Int := Rt.near (cpnV m r p.1 p.2.1 p.2.2 * (d - p.1)) (p.2.1 - p.1)
/-- The accrued interest. -/
noncomputable def accV (s e m r d : Int) : Int := if runB s e m r d = true then accP m r d ((perL s e m r).getD (runK s e m r d) p0) else -1
/-- What is known of the period that runs. -/
theorem run_per {s e m r d : Int} (h : runB s e m r d = true) : (1 ≤ m ∧ m ≤ 12) ∧ (0 ≤ r ∧ r ≤ 3000) ∧ ∃ f t : Int, ∃ z : Bool, (perL s e m r).getD (runK s e m r d) p0 = (f, t, z) ∧ 0 ≤ f ∧ f < t ∧ t ≤ 36524 ∧ addV t (-m) < t ∧ f ≤ d ∧ d < t ∧ (0 ≤ cpnV m r f t z ∧ cpnV m r f t z ≤ 120000000) := by
  obtain ⟨hk, -, hf, ht, -⟩ := runK_facts h
  have hne : perL s e m r ≠ [] := fun k => by rw [k] at hk; simp at hk
  obtain ⟨⟨m0, m1⟩, ⟨r0, r1⟩, -, hpf⟩ := per_facts hne
  obtain ⟨f, t, z, hg, a0, a1, a2, hA⟩ := hpf _ hk
  rw [hg] at hf ht
  exact ⟨⟨m0, m1⟩, ⟨r0, r1⟩, f, t, z, hg, a0, a1, a2, hA, hf, ht, cpn_bd z m0 m1 r0 r1 a0 a1 a2 hA⟩
theorem mulc_bd {c x : Int} (c0 : 0 ≤ c) (c1 : c ≤ 120000000) (x0 : 0 ≤ x) (x1 : x ≤ 36524) : 0 ≤ c * x ∧ c * x ≤ 4382880000000 := by
  refine ⟨Int.mul_nonneg c0 x0, ?_⟩
  have := Int.mul_le_mul c1 x1 x0 (by omega)
  omega
abbrev SA (b p : Nat) (s e m r f t : Int) (z : Bool) (W : World) : Prop :=
  W.cell? ⟨b, 0, none⟩ = some (.int .i64 s) ∧ W.cell? ⟨b, 1, none⟩ = some (.int .i64 e) ∧ W.cell? ⟨b, 2, none⟩ = some (.int .i64 m) ∧ W.cell? ⟨b, 3, none⟩ = some (.int .i64 r) ∧
    W.cell? ⟨p, 0, none⟩ = some (.int .i64 f) ∧ W.cell? ⟨p, 1, none⟩ = some (.int .i64 t) ∧ W.cell? ⟨p, 2, none⟩ = some (.bool z)
structure KA (w : World) (p : Nat) (s e m r f t : Int) (z : Bool) (W : World) : Prop where
  b0 : W.cell? ⟨w.heap.size, 0, none⟩ = some (.int .i64 s)
  b1 : W.cell? ⟨w.heap.size, 1, none⟩ = some (.int .i64 e)
  b2 : W.cell? ⟨w.heap.size, 2, none⟩ = some (.int .i64 m)
  b3 : W.cell? ⟨w.heap.size, 3, none⟩ = some (.int .i64 r)
  q0 : W.cell? ⟨p, 0, none⟩ = some (.int .i64 f)
  q1 : W.cell? ⟨p, 1, none⟩ = some (.int .i64 t)
  q2 : W.cell? ⟨p, 2, none⟩ = some (.bool z)
  tab : Tab W
  bel : Below w.heap.size w W
theorem cellA_below {W W' : World} {b i : Nat} {v : Value} (h : W.cell? ⟨b, i, none⟩ = some v) (hb : Below W.heap.size W W') : W'.cell? ⟨b, i, none⟩ = some v :=
  (hb.cell (p := ⟨b, i, none⟩) (World.block_lt_of_cell? W _ h)).trans h
theorem KA.below {w W W' : World} {p : Nat} {s e m r f t : Int} {z : Bool} (k : KA w p s e m r f t z W) (hb : Below W.heap.size W W') : KA w p s e m r f t z W' :=
  ⟨cellA_below k.b0 hb, cellA_below k.b1 hb, cellA_below k.b2 hb, cellA_below k.b3 hb, cellA_below k.q0 hb, cellA_below k.q1 hb, cellA_below k.q2 hb, k.tab.below hb k.tab.pos, k.bel.trans (hb.mono k.bel.size)⟩
theorem KA.drew {w W : World} {p : Nat} {s e m r f t : Int} {z : Bool} (k : KA w p s e m r f t z W) : KA w p s e m r f t z W.drew :=
  ⟨k.b0, k.b1, k.b2, k.b3, k.q0, k.q1, k.q2, k.tab, k.bel.drew⟩
theorem KA.cells {w W : World} {p : Nat} {s e m r f t : Int} {z : Bool} (k : KA w p s e m r f t z W) : SA w.heap.size p s e m r f t z W :=
  ⟨k.b0, k.b1, k.b2, k.b3, k.q0, k.q1, k.q2⟩
end Go.Proofs.YtkdooncfchmkfaaDoor
