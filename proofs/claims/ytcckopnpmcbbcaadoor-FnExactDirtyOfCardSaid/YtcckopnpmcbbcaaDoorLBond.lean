/- Laws of bonds. -/
import Derived.Test.YtcckopnpmcbbcaaDoorDrawBond
import Derived.Test.YtcckopnpmcbbcaaDoorTot
namespace Go.Proofs.YtcckopnpmcbbcaaDoor
open Go.RowKit
/-- A bond drawn out of a law's input. -/
def DBn (w : World) (x : Ending) (w' : World) : Prop :=
  ∃ s e m r : Int, x = .returned (.agg #[.int .i64 s, .int .i64 e, .int .i64 m, .int .i64 r]) ∧ (0 ≤ s ∧ s ≤ 20000) ∧ (-2 ≤ e ∧ e ≤ 60000) ∧ (0 ≤ m ∧ m ≤ 12) ∧ (-1 ≤ r ∧ r ≤ 3001) ∧ Below w.heap.size w w'
set_option maxRecDepth 8000 in
set_option maxHeartbeats 1000000 in
theorem drawValidBond_any (w : World) (a : Option Addr) (len cap : Nat) (zs : List Int) (h : IsRow .u8 w a len cap zs) :
    Calls Tryd.prog 18 #[.slice a len cap] w (DBn w) := by
  have H := Lib.hid h; clear h
  have HB0 := Lib.hid ((Below.refl w.heap.size w).alloc (Nat.le_refl _) (.cells #[.int .i64 0, .int .i64 0, .int .i64 0, .int .i64 0] 24))
  have KR0 := Lib.hid (Blk.new w #[.int .i64 0, .int .i64 0, .int .i64 0, .int .i64 0] 24)
  have H1 := Lib.hid (isRow_below' H.out HB0.out)
  go_enter Tryd.func18, Tryd.ntmps18
  go_wp2_with fail
  refine (newReader_any _ _ _ _ _ H1.out).mono ?_
  rintro x w1 ⟨g, rfl, hg, hr, hb⟩
  have KR1 := Lib.hid (KR0.out.below hb KR0.out.lt)
  have HB1 := Lib.hid (HB0.out.trans (hb.mono HB0.out.size))
  have hg0 : w.heap.size < g := Nat.lt_of_lt_of_le KR0.out.lt hg
  clear hb
  go_wp2_with fail
  refine (anyBond_any _ _ _ hr (by omega)).mono ?_
  rintro x w2 ⟨s, e, m, r, rfl, hs, he, hm, hr', hrd, hg2⟩
  have KR2 := Lib.hid (KR1.out.grown hg2 (by omega))
  have HB2 := Lib.hid (HB1.out.grown hg2 HB1.out.size (fun j hj => by injection hj with hj; omega))
  obtain ⟨x0, x1, x2, x3⟩ := KR2.out.four
  obtain ⟨z0, z1, z2, z3⟩ := fourFz KR2.out
  clear hg2
  go_wp2_with fail
  have k2 := put4_blk KR2.out s e m r
  obtain ⟨r0', r1', r2', r3'⟩ := k2.four
  unfold put4 at r0' r1' r2' r3'
  refine bodyPost_ret (v := .agg #[.int .i64 s, .int .i64 e, .int .i64 m, .int .i64 r]) (by simp [results, Tryd.results18, go_sem, r0', r1', r2', r3']) rfl ⟨s, e, m, r, rfl, hs, he, hm, hr', ?_⟩
  exact (((HB2.out.setCell (Nat.le_refl _) _).setCell (Nat.le_refl _) _).setCell (Nat.le_refl _) _).setCell (Nat.le_refl _) _
set_option maxRecDepth 8000 in
set_option maxHeartbeats 2000000 in
theorem lawValidBond (a : Option Addr) (len cap : Nat) (zs : List Int) (w : World) (h : IsRow .u8 w a len cap zs) (hT : Tab w) :
    Calls Tryd.prog 3 #[.slice a len cap] w fun e w' => e = .returned (.bool true) ∧ Below w.heap.size w w' := by
  have H := Lib.hid h; clear h
  have HT := Lib.hid hT; clear hT
  by_cases hl : 1048576 < (len : Int)
  · go_enter Tryd.func3, Tryd.ntmps3
    go_wp2_with fail
    go_ret
    exact ⟨rfl, Below.refl _ _⟩
  · have hl' := decide_eq_false hl
    clear hl
    go_enter Tryd.func3, Tryd.ntmps3
    go_wp2_with fail
    refine (drawValidBond_any _ _ _ _ _ H.out).mono ?_
    rintro x w0 ⟨s, e, m, r, rfl, hs, he, hm, hr, hB0⟩
    have HI := Lib.hid (validBond_any s e m r)
    have HS := Lib.hid (sValidBond_any s e m r)
    have HF := Lib.hid (flowsOf_any s e m r)
    have HC := Lib.hid (sched_any s e m)
    have hfl := floL_len s e m r
    have hpl := perL_len s e m r
    have hvb : vbB s e m r = decide (0 < (perL s e m r).length) := rfl
    have HSch := Lib.hid (show 0 < (perL s e m r).length → Sc.sch s e m = perL s e m r from fun h => by
      unfold perL at h ⊢
      by_cases c : btw r 0 3000 = true
      · rw [if_pos c]
      · rw [if_neg c] at h; simp at h)
    have HT0 := Lib.hid (HT.out.below hB0 HT.out.pos)
    have HB := Lib.hid (hB0.alloc hB0.size (.cells #[.int .i64 s, .int .i64 e, .int .i64 m, .int .i64 r] 24))
    have KB := Lib.hid (Blk.new w0 #[.int .i64 s, .int .i64 e, .int .i64 m, .int .i64 r] 24)
    have HTA := Lib.hid (HT0.out.alloc (.cells #[.int .i64 s, .int .i64 e, .int .i64 m, .int .i64 r] 24))
    go_wp2_with fail
    refine (HI.out _ HTA.out).mono ?_
    rintro x w1 ⟨rfl, hb1⟩
    have K1 := Lib.hid (KB.out.below hb1 KB.out.lt)
    have HB1 := Lib.hid (HB.out.trans (hb1.mono HB.out.size))
    have HT1 := Lib.hid (HTA.out.below hb1 HTA.out.pos)
    clear hb1
    obtain ⟨c0, c1, c2, c3⟩ := K1.out.four
    go_wp2_with fail
    clear c0 c1 c2 c3
    refine (HF.out _ HT1.out).mono ?_
    rintro x w2 ⟨v, rfl, hrw, -, hb2⟩
    obtain ⟨⟨fa, fcp, rfl⟩, -⟩ := hrw.rd
    have K2 := Lib.hid (K1.out.below hb2 K1.out.lt)
    have HB2 := Lib.hid (HB1.out.trans (hb2.mono HB1.out.size))
    have HT2 := Lib.hid (HT1.out.below hb2 HT1.out.pos)
    clear hb2 hrw
    rw [hfl]
    obtain ⟨c0, c1, c2, c3⟩ := K2.out.four
    go_wp2_with fail
    clear c0 c1 c2 c3
    refine (HS.out _).mono ?_
    rintro x w3 ⟨rfl, hb3⟩
    have K3 := Lib.hid (K2.out.below hb3 K2.out.lt)
    have HB3 := Lib.hid (HB2.out.trans (hb3.mono HB2.out.size))
    have HT3 := Lib.hid (HT2.out.below hb3 HT2.out.pos)
    clear hb3
    obtain ⟨n, hn⟩ : ∃ n, n = (perL s e m r).length := ⟨_, rfl⟩
    rw [← hn] at hvb hpl ⊢
    have HN := Lib.hid hn
    clear hn hfl
    obtain ⟨c0, c1, c2, c3⟩ := K3.out.four
    by_cases h0 : 0 < n
    · rw [decide_eq_true h0] at hvb
      rw [hvb]
      have hsl : (Sc.sch s e m).length = n := by rw [HSch.out (by rw [← HN.out]; exact h0)]; exact HN.out.symm
      have HSL := Lib.hid hsl
      have e1 : decide (0 < (n : Int)) = true := decide_eq_true (by omega)
      have e2 : ((n : Int) == n) = true := by simp
      clear hsl hvb
      go_wp2_with fail
      clear c0 c1 c2 c3
      refine (HC.out _ HT3.out).mono ?_
      rintro x w4 ⟨v, rfl, hrw, -, hb4⟩
      obtain ⟨⟨fa, fcp, rfl⟩, -⟩ := hrw.rd
      have HB4 := Lib.hid (HB3.out.trans (hb4.mono HB3.out.size))
      clear hb4 hrw
      rw [HSL.out]
      go_wp2_with fail
      go_ret
      exact ⟨ret_bool (by simp), HB4.out⟩
    · rw [decide_eq_false h0] at hvb
      rw [hvb]
      have e1 : decide (0 < (n : Int)) = false := decide_eq_false (by omega)
      clear hvb
      go_wp2_with fail
      go_ret
      exact ⟨ret_bool (by simp), HB3.out⟩
end Go.Proofs.YtcckopnpmcbbcaaDoor
