/- The exact laws of accrued interest, dirty and clean prices. -/
import Derived.Test.YtcckopnpmcbbcaaDoorAccB
namespace Go.Proofs.YtcckopnpmcbbcaaDoor
open Go.RowKit
set_option maxRecDepth 8000 in
set_option maxHeartbeats 2000000 in
theorem exAccruedOf (s e m r d : Int) (w : World) (hT : Tab w) :
    Calls Tryd.prog 15 #[boV s e m r, .int .i64 d] w fun x w' => x = .returned (.bool true) ∧ Below w.heap.size w w' := by
  have HT := Lib.hid hT; clear hT
  have hbb : (accV s e m r d != accV s e m r d) = false := by simp
  have kL := Blk.new w #[.int .i64 s, .int .i64 e, .int .i64 m, .int .i64 r] 36
  have hbA := (Below.refl w.heap.size w).alloc (Nat.le_refl _) (.cells #[.int .i64 s, .int .i64 e, .int .i64 m, .int .i64 r] 36)
  go_enter Tryd.func15, Tryd.ntmps15
  go_wp2_with fail
  refine (toBond_any _ _ _ _ _).mono ?_
  rintro x w1 ⟨rfl, hb1⟩
  replace kL := kL.below hb1 kL.lt
  replace hbA := hbA.trans (hb1.mono hbA.size)
  go_wp2_with fail
  refine (sAccruedOf_any s e m r d _).mono ?_
  rintro x w2 ⟨rfl, hb2⟩
  replace kL := kL.below hb2 kL.lt
  replace hbA := hbA.trans (hb2.mono hbA.size)
  obtain ⟨c0, c1, c2, c3⟩ := kL.four
  go_wp2_with fail
  refine (toBond_any _ _ _ _ _).mono ?_
  rintro x w3 ⟨rfl, hb3⟩
  replace hbA := hbA.trans (hb3.mono hbA.size)
  clear c0 c1 c2 c3
  go_wp2_with fail
  refine (accruedOf_any s e m r d _ (HT.out.below hbA HT.out.pos)).mono ?_
  rintro x w4 ⟨rfl, hb4⟩
  replace hbA := hbA.trans (hb4.mono hbA.size)
  go_wp2_with fail
  go_ret
  exact ⟨rfl, hbA⟩
set_option maxRecDepth 8000 in
set_option maxHeartbeats 2000000 in
theorem exDirtyOf (s e m r d c : Int) (w : World) (hT : Tab w) :
    Calls Tryd.prog 16 #[boV s e m r, .int .i64 d, .int .i64 c] w fun x w' => x = .returned (.bool true) ∧ Below w.heap.size w w' := by
  have HT := Lib.hid hT; clear hT
  have hbb : (dirV s e m r d c != dirV s e m r d c) = false := by simp
  have kL := Blk.new w #[.int .i64 s, .int .i64 e, .int .i64 m, .int .i64 r] 36
  have hbA := (Below.refl w.heap.size w).alloc (Nat.le_refl _) (.cells #[.int .i64 s, .int .i64 e, .int .i64 m, .int .i64 r] 36)
  go_enter Tryd.func16, Tryd.ntmps16
  go_wp2_with fail
  refine (toBond_any _ _ _ _ _).mono ?_
  rintro x w1 ⟨rfl, hb1⟩
  replace kL := kL.below hb1 kL.lt
  replace hbA := hbA.trans (hb1.mono hbA.size)
  go_wp2_with fail
  refine (sDirtyOf_any s e m r d c _).mono ?_
  rintro x w2 ⟨rfl, hb2⟩
  replace kL := kL.below hb2 kL.lt
  replace hbA := hbA.trans (hb2.mono hbA.size)
  obtain ⟨c0, c1, c2, c3⟩ := kL.four
  go_wp2_with fail
  refine (toBond_any _ _ _ _ _).mono ?_
  rintro x w3 ⟨rfl, hb3⟩
  replace hbA := hbA.trans (hb3.mono hbA.size)
  clear c0 c1 c2 c3
  go_wp2_with fail
  refine (dirtyOf_any s e m r d c _ (HT.out.below hbA HT.out.pos)).mono ?_
  rintro x w4 ⟨rfl, hb4⟩
  replace hbA := hbA.trans (hb4.mono hbA.size)
  go_wp2_with fail
  go_ret
  exact ⟨rfl, hbA⟩
end Go.Proofs.YtcckopnpmcbbcaaDoor
