/- The exact law of the costs of late settlement. -/
import Derived.Test.YthlnmbnaimobgaaNt
import Derived.Test.YthlnmbnaimobgaaTrXNote
namespace Go.Proofs.Ythlnmbnaimobgaa
open Go.RowKit
set_option maxHeartbeats 4000000 in
theorem exFailCost (d m c x r : Int) (w : World) :
    Calls Try.prog 10 #[triV (d, m, c), .int .i64 x, .int .i64 r] w fun e w' => e = .returned (.bool true) ∧ Below w.heap.size w w' := by
  have kA := Blk.new w (triA (d, m, c)) 45
  have hbA := (Below.refl w.heap.size w).alloc (Nat.le_refl _) (.cells (triA (d, m, c)) 45)
  have IM := Lib.hid (fun W => fail_any (d, m, c) x r W)
  have SM := Lib.hid (fun W => sfail_any (d, m, c) x r W)
  have TM := Lib.hid (fun W => toNote_any (d, m, c) W)
  obtain ⟨⟨x0, x1, x2⟩, -⟩ := kA.three
  go_enter Try.func10, Try.ntmps10
  go_wp2_with fail
  refine (TM.out _).mono ?_
  rintro e w1 ⟨rfl, hb1⟩
  replace kA := kA.below hb1 kA.lt
  replace hbA := hbA.trans (hb1.mono hbA.size)
  clear hb1 x0 x1 x2
  obtain ⟨⟨x0, x1, x2⟩, -⟩ := kA.three
  go_wp2_with fail
  refine (SM.out _).mono ?_
  rintro e w2 ⟨rfl, hb2⟩
  replace kA := kA.below hb2 kA.lt
  replace hbA := hbA.trans (hb2.mono hbA.size)
  clear hb2 x0 x1 x2
  obtain ⟨⟨x0, x1, x2⟩, -⟩ := kA.three
  go_wp2_with fail
  refine (TM.out _).mono ?_
  rintro e w3 ⟨rfl, hb3⟩
  replace kA := kA.below hb3 kA.lt
  replace hbA := hbA.trans (hb3.mono hbA.size)
  clear hb3 x0 x1 x2
  go_wp2_with fail
  refine (IM.out _).mono ?_
  rintro e w4 ⟨rfl, hb4⟩
  replace hbA := hbA.trans (hb4.mono hbA.size)
  have e1 : (Nt.cost (d, m, c) x r != Nt.cost (d, m, c) x r) = false := by simp
  go_wp2_with fail
  go_ret
  exact ⟨rfl, hbA⟩
end Go.Proofs.Ythlnmbnaimobgaa
