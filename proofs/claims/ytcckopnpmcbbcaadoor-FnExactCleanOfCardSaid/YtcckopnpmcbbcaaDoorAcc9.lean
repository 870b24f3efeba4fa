/- The exact law of clean prices. -/
import Derived.Test.YtcckopnpmcbbcaaDoorAcc8
namespace Go.Proofs.YtcckopnpmcbbcaaDoor
open Go.RowKit
set_option maxRecDepth 8000 in
set_option maxHeartbeats 2000000 in
theorem exCleanOf (s e m r d c : Int) (w : World) (hT : Tab w) :
    Calls Tryd.prog 17 #[boV s e m r, .int .i64 d, .int .i64 c] w fun x w' => x = .returned (.bool true) ∧ Below w.heap.size w w' := by
  have HT := Lib.hid hT; clear hT
  obtain ⟨p, q, hV⟩ : ∃ p q, cleV s e m r d c = .tuple #[.int .i64 p, .bool q] := by unfold cleV; split <;> exact ⟨_, _, rfl⟩
  have HV := Lib.hid hV
  clear hV
  have hpp : (p != p) = false := by simp
  have hqq : (q != q) = false := by simp
  have kL := Blk.new w #[.int .i64 s, .int .i64 e, .int .i64 m, .int .i64 r] 36
  have hbA := (Below.refl w.heap.size w).alloc (Nat.le_refl _) (.cells #[.int .i64 s, .int .i64 e, .int .i64 m, .int .i64 r] 36)
  go_enter Tryd.func17, Tryd.ntmps17
  go_wp2_with fail
  refine (toBond_any _ _ _ _ _).mono ?_
  rintro x w1 ⟨rfl, hb1⟩
  replace kL := kL.below hb1 kL.lt
  replace hbA := hbA.trans (hb1.mono hbA.size)
  go_wp2_with fail
  refine (sCleanOf_any s e m r d c _).mono ?_
  rw [HV.out]
  rintro x w2 ⟨rfl, hb2⟩
  replace kL := kL.below hb2 kL.lt
  replace hbA := hbA.trans (hb2.mono hbA.size)
  obtain ⟨c0, c1, c2, c3⟩ := kL.four
  go_wp2_with fail
  refine (toBond_any _ _ _ _ _).mono ?_
  rintro x w3 ⟨rfl, hb3⟩
  replace hbA := hbA.trans (hb3.mono hbA.size)
  clear c0 c1 c2 c3
  go_wp2_with fail
  refine (cleanOf_any s e m r d c _ (HT.out.below hbA HT.out.pos)).mono ?_
  rw [HV.out]
  rintro x w4 ⟨rfl, hb4⟩
  replace hbA := hbA.trans (hb4.mono hbA.size)
  go_wp2_with fail
  go_ret
  exact ⟨rfl, hbA⟩
end Go.Proofs.YtcckopnpmcbbcaaDoor
