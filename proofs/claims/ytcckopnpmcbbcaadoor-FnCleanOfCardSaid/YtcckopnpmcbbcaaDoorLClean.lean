/- The law of clean prices. -/
import Derived.Test.YtcckopnpmcbbcaaDoorLDirty
import Derived.Test.YtcckopnpmcbbcaaDoorAcc8
namespace Go.Proofs.YtcckopnpmcbbcaaDoor
open Go.RowKit
set_option maxRecDepth 8000 in
set_option maxHeartbeats 2000000 in
theorem drawClean_any (w : World) (a : Option Addr) (len cap : Nat) (zs : List Int) (h : IsRow .u8 w a len cap zs) :
    Calls Tryd.prog 41 #[.slice a len cap] w (DDirty w) := by
  have H := Lib.hid h; clear h
  have HB0 := Lib.hid ((Below.refl w.heap.size w).alloc (Nat.le_refl _) (.cells #[.int .i64 0, .int .i64 0, .int .i64 0, .int .i64 0] 24))
  have KR0 := Lib.hid (Blk.new w #[.int .i64 0, .int .i64 0, .int .i64 0, .int .i64 0] 24)
  have H1 := Lib.hid (isRow_below' H.out HB0.out)
  go_enter Tryd.func41, Tryd.ntmps41
  go_wp2_with fail
  refine (drawDirty_any _ _ _ _ _ H1.out).mono ?_
  rintro x w1 ⟨s, e, m, r, d, c, rfl, hs, he, hm, hr, hd, hc, hb⟩
  have KR1 := KR0.out.below hb KR0.out.lt
  have HB1 := HB0.out.trans (hb.mono HB0.out.size)
  obtain ⟨x0, x1, x2, x3⟩ := KR1.four
  obtain ⟨z0, z1, z2, z3⟩ := fourFz KR1
  clear hb
  go_wp2_with fail
  have k2 := put4_blk KR1 s e m r
  obtain ⟨r0', r1', r2', r3'⟩ := k2.four
  unfold put4 at r0' r1' r2' r3'
  refine bodyPost_ret (v := .tuple #[boV s e m r, .int .i64 d, .int .i64 c]) (by simp [results, Tryd.results41, go_sem, r0', r1', r2', r3']) rfl ⟨s, e, m, r, d, c, rfl, hs, he, hm, hr, hd, hc, ?_⟩
  repeat (refine Below.setCell ?_ (by simp) _)
  exact HB1
theorem cle_two (s e m r d c : Int) : (cleV s e m r d c = .tuple #[.int .i64 (c - accV s e m r d), .bool true] ∧ dirV s e m r d (c - accV s e m r d) = c) ∨ cleV s e m r d c = .tuple #[.int .i64 0, .bool false] := by
  cases h : cleB s e m r d c with
  | false => right; unfold cleV; rw [if_neg (by rw [h]; decide)]
  | true =>
    left
    refine ⟨by unfold cleV; rw [if_pos h], ?_⟩
    unfold cleB at h
    obtain ⟨hR, hb⟩ := Bool.and_eq_true_iff.1 h
    obtain ⟨b0, b1⟩ := btw_iff.1 hb
    unfold dirV
    rw [if_pos ⟨hR, btw_t (by omega) (by omega)⟩]
    omega
set_option maxRecDepth 8000 in
set_option maxHeartbeats 4000000 in
theorem lawCleanOf (a : Option Addr) (len cap : Nat) (zs : List Int) (w : World) (h : IsRow .u8 w a len cap zs) (hT : Tab w) :
    Calls Tryd.prog 13 #[.slice a len cap] w fun e w' => e = .returned (.bool true) ∧ Below w.heap.size w w' := by
  have H := Lib.hid h; clear h
  have HT := Lib.hid hT; clear hT
  by_cases hl : 1048576 < (len : Int)
  · go_enter Tryd.func13, Tryd.ntmps13
    go_wp2_with fail
    go_ret
    exact ⟨rfl, Below.refl _ _⟩
  · have hl' := decide_eq_false hl
    clear hl
    go_enter Tryd.func13, Tryd.ntmps13
    go_wp2_with fail
    refine (drawClean_any _ _ _ _ _ H.out).mono ?_
    rintro x w1 ⟨s, e, m, r, d, c, rfl, hs, he, hm, hr, hd, hc, hbA⟩
    have HI := Lib.hid (cleanOf_any s e m r d c)
    have HS := Lib.hid (sCleanOf_any s e m r d c)
    have kB := Blk.new w1 #[.int .i64 s, .int .i64 e, .int .i64 m, .int .i64 r] 24
    replace hbA := hbA.alloc hbA.size (.cells #[.int .i64 s, .int .i64 e, .int .i64 m, .int .i64 r] 24)
    rcases cle_two s e m r d c with ⟨hv, hdv⟩ | hv
    · have HD := Lib.hid (dirtyOf_any s e m r d (c - accV s e m r d))
      rw [hdv] at HD
      rw [hv] at HI HS
      clear hv hdv
      generalize c - accV s e m r d = q at *
      have d1 : (q != q) = false := by simp
      go_wp2_with fail
      refine (HI.out _ (HT.out.below hbA HT.out.pos)).mono ?_
      rintro x w2 ⟨rfl, hb2⟩
      replace kB := kB.below hb2 kB.lt
      replace hbA := hbA.trans (hb2.mono hbA.size)
      obtain ⟨c0, c1, c2, c3⟩ := kB.four
      go_wp2_with fail
      refine (HS.out _).mono ?_
      rintro x w3 ⟨rfl, hb3⟩
      replace kB := kB.below hb3 kB.lt
      replace hbA := hbA.trans (hb3.mono hbA.size)
      clear c0 c1 c2 c3
      obtain ⟨c0, c1, c2, c3⟩ := kB.four
      go_wp2_with fail
      refine (HD.out _ (HT.out.below hbA HT.out.pos)).mono ?_
      rintro x w4 ⟨rfl, hb4⟩
      replace hbA := hbA.trans (hb4.mono hbA.size)
      go_wp2_with fail
      go_ret
      exact ⟨ret_bool (by simp), hbA⟩
    · rw [hv] at HI HS
      clear hv
      go_wp2_with fail
      refine (HI.out _ (HT.out.below hbA HT.out.pos)).mono ?_
      rintro x w2 ⟨rfl, hb2⟩
      replace kB := kB.below hb2 kB.lt
      replace hbA := hbA.trans (hb2.mono hbA.size)
      obtain ⟨c0, c1, c2, c3⟩ := kB.four
      go_wp2_with fail
      refine (HS.out _).mono ?_
      rintro x w3 ⟨rfl, hb3⟩
      replace hbA := hbA.trans (hb3.mono hbA.size)
      go_wp2_with fail
      go_ret
      exact ⟨ret_bool (by simp), hbA⟩
end Go.Proofs.YtcckopnpmcbbcaaDoor
