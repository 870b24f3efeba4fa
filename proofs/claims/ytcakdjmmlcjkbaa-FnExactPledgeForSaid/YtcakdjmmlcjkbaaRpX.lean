/- Loans: the exact laws. -/
import Derived.Test.YtcakdjmmlcjkbaaRp2
namespace Go.Proofs.Ytcakdjmmlcjkbaa
open Go.RowKit
set_option maxHeartbeats 1000000 in
theorem toRepo_any (c r f t h : Int) (w : World) :
    Calls Try.prog 19 #[rpV c r f t h] w fun e w' => e = .returned (rpV c r f t h) ∧ Below w.heap.size w w' := by
  go_enter Try.func19, Try.ntmps19
  go_wp2
  refine bodyPost_ret (v := rpV c r f t h) (by simp [results, Try.results19, go_sem]) rfl ⟨rfl, ?_⟩
  repeat (refine Below.setCell ?_ (by simp <;> omega) _)
  exact (((Below.refl _ _).alloc (Nat.le_refl _) _).alloc (by simp) _).alloc (by simp; omega) _
set_option maxHeartbeats 4000000 in
theorem exPledgeFor (c r f t h p : Int) (w : World) :
    Calls Try.prog 6 #[rpV c r f t h, .int .i64 p] w fun e w' => e = .returned (.bool true) ∧ Below w.heap.size w w' := by
  skip
  have kA := Blk.new w (rpA c r f t h) 32
  have hbA := (Below.refl w.heap.size w).alloc (Nat.le_refl _) (.cells (rpA c r f t h) 32)
  obtain ⟨x0, x1, x2, x3, x4⟩ := kA.rp
  go_enter Try.func6, Try.ntmps6
  go_wp2_with fail
  refine (toRepo_any _ _ _ _ _ _).mono ?_
  rintro e w1 ⟨rfl, hb1⟩
  replace kA := kA.below hb1 kA.lt
  replace hbA := hbA.trans (hb1.mono hbA.size)
  clear hb1 x0 x1 x2 x3 x4
  obtain ⟨x0, x1, x2, x3, x4⟩ := kA.rp
  go_wp2_with fail
  refine (splg_any _ _ _ _ _ _ _).mono ?_
  rintro e w2 ⟨rfl, hb2⟩
  replace kA := kA.below hb2 kA.lt
  replace hbA := hbA.trans (hb2.mono hbA.size)
  clear hb2 x0 x1 x2 x3 x4
  obtain ⟨x0, x1, x2, x3, x4⟩ := kA.rp
  go_wp2_with fail
  refine (toRepo_any _ _ _ _ _ _).mono ?_
  rintro e w3 ⟨rfl, hb3⟩
  replace kA := kA.below hb3 kA.lt
  replace hbA := hbA.trans (hb3.mono hbA.size)
  clear hb3 x0 x1 x2 x3 x4
  go_wp2_with fail
  refine (plg_any _ _ _ _ _ _ _).mono ?_
  rintro e w4 ⟨rfl, hb4⟩
  replace hbA := hbA.trans (hb4.mono hbA.size)
  have e1 : (Rp.plg c r f t h p != Rp.plg c r f t h p) = false := by simp
  go_wp2_with fail
  go_ret
  exact ⟨rfl, hbA⟩
set_option maxHeartbeats 4000000 in
theorem exMarginCall (c r f t h p m : Int) (w : World) :
    Calls Try.prog 7 #[rpV c r f t h, .int .i64 p, .int .i64 m] w fun e w' => e = .returned (.bool true) ∧ Below w.heap.size w w' := by
  skip
  have kA := Blk.new w (rpA c r f t h) 32
  have hbA := (Below.refl w.heap.size w).alloc (Nat.le_refl _) (.cells (rpA c r f t h) 32)
  obtain ⟨x0, x1, x2, x3, x4⟩ := kA.rp
  go_enter Try.func7, Try.ntmps7
  go_wp2_with fail
  refine (toRepo_any _ _ _ _ _ _).mono ?_
  rintro e w1 ⟨rfl, hb1⟩
  replace kA := kA.below hb1 kA.lt
  replace hbA := hbA.trans (hb1.mono hbA.size)
  clear hb1 x0 x1 x2 x3 x4
  obtain ⟨x0, x1, x2, x3, x4⟩ := kA.rp
  go_wp2_with fail
  refine (smrg_any _ _ _ _ _ _ _ _).mono ?_
  rintro e w2 ⟨rfl, hb2⟩
  replace kA := kA.below hb2 kA.lt
  replace hbA := hbA.trans (hb2.mono hbA.size)
  clear hb2 x0 x1 x2 x3 x4
  obtain ⟨x0, x1, x2, x3, x4⟩ := kA.rp
  go_wp2_with fail
  refine (toRepo_any _ _ _ _ _ _).mono ?_
  rintro e w3 ⟨rfl, hb3⟩
  replace kA := kA.below hb3 kA.lt
  replace hbA := hbA.trans (hb3.mono hbA.size)
  clear hb3 x0 x1 x2 x3 x4
  go_wp2_with fail
  refine (mrg_any _ _ _ _ _ _ _ _).mono ?_
  rintro e w4 ⟨rfl, hb4⟩
  replace hbA := hbA.trans (hb4.mono hbA.size)
  have e1 : (Rp.mrg c r f t h p m != Rp.mrg c r f t h p m) = false := by simp
  go_wp2_with fail
  go_ret
  exact ⟨rfl, hbA⟩
end Go.Proofs.Ytcakdjmmlcjkbaa
