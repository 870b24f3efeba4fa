/- Loans: the exact laws. -/
import Derived.Test.YtipmaepkhmnhjaaDoorRp2
namespace Go.Proofs.YtipmaepkhmnhjaaDoor
open Go.RowKit
set_option maxHeartbeats 1000000 in
theorem toRepo_any (c r f t h : Int) (w : World) :
    Calls Tryd.prog 29 #[rpV c r f t h] w fun e w' => e = .returned (rpV c r f t h) ∧ Below w.heap.size w w' := by
  go_enter Tryd.func29, Tryd.ntmps29
  go_wp2
  refine bodyPost_ret (v := rpV c r f t h) (by simp [results, Tryd.results29, go_sem]) rfl ⟨rfl, ?_⟩
  repeat (refine Below.setCell ?_ (by simp <;> omega) _)
  exact (((Below.refl _ _).alloc (Nat.le_refl _) _).alloc (by simp) _).alloc (by simp; omega) _
set_option maxHeartbeats 4000000 in
theorem exRepoInterest (c r f t h : Int) (w : World) (hT : Tab w) :
    Calls Tryd.prog 12 #[rpV c r f t h] w fun e w' => e = .returned (.bool true) ∧ Below w.heap.size w w' := by
  have HT := Lib.hid hT; clear hT
  have kA := Blk.new w (rpA c r f t h) 48
  have hbA := (Below.refl w.heap.size w).alloc (Nat.le_refl _) (.cells (rpA c r f t h) 48)
  obtain ⟨x0, x1, x2, x3, x4⟩ := kA.rp
  go_enter Tryd.func12, Tryd.ntmps12
  go_wp2_with fail
  refine (toRepo_any _ _ _ _ _ _).mono ?_
  rintro e w1 ⟨rfl, hb1⟩
  replace kA := kA.below hb1 kA.lt
  replace hbA := hbA.trans (hb1.mono hbA.size)
  clear hb1 x0 x1 x2 x3 x4
  obtain ⟨x0, x1, x2, x3, x4⟩ := kA.rp
  go_wp2_with fail
  refine (srpInt_any _ _ _ _ _ _).mono ?_
  rintro e w2 ⟨rfl, hb2⟩
  replace kA := kA.below hb2 kA.lt
  replace hbA := hbA.trans (hb2.mono hbA.size)
  clear hb2 x0 x1 x2 x3 x4
  obtain ⟨x0, x1, x2, x3, x4⟩ := kA.rp
  go_wp2_with fail
  refine (toRepo_any _ _ _ _ _ _).mono ?_
  rintro e w3 ⟨rfl, hb3⟩
  replace kA := kA.below hb3 kA.lt
  replace hbA := hbA.trans (hb3.mono hbA.size)
  clear hb3 x0 x1 x2 x3 x4
  go_wp2_with fail
  refine (rpInt_any _ _ _ _ _ _ (HT.out.below hbA HT.out.pos)).mono ?_
  rintro e w4 ⟨rfl, hb4⟩
  replace hbA := hbA.trans (hb4.mono hbA.size)
  have e1 : (Rp.int c r f t h != Rp.int c r f t h) = false := by simp
  go_wp2_with fail
  go_ret
  exact ⟨rfl, hbA⟩
end Go.Proofs.YtipmaepkhmnhjaaDoor
