/- The walk of the exact law of powers of ranges. -/
import Derived.Test.YtcoljkafbpnpnaaDoorRge
namespace Go.Proofs.YtcoljkafbpnpnaaDoor
open Go.RowKit
set_option maxHeartbeats 2000000 in
theorem exPowRange (a b n : Int) (w : World) (ea : Addr) (hS : Sen ea w) :
    Calls Tryd.prog 14 #[rV a b, .int .i64 n] w fun e w' => e = .returned (.bool true) ∧ Below w.heap.size w w' := by
  obtain ⟨p, q, r, hV⟩ := tvx_form (Rg.pow a b n)
  have hbb : (r != r) = false := by simp
  have HV := Lib.hid hV
  clear hV
  have kL := Blk.new w #[.int .i64 a, .int .i64 b] 36
  have hbA := (Below.refl w.heap.size w).alloc (Nat.le_refl _) (.cells #[.int .i64 a, .int .i64 b] 36)
  replace hS := hS.alloc (.cells #[.int .i64 a, .int .i64 b] 36)
  go_enter Tryd.func14, Tryd.ntmps14
  go_wp2_with fail
  refine (toRange_any _ _ _).mono ?_
  rintro e w1 ⟨rfl, hb1⟩
  replace kL := kL.below hb1 kL.lt
  replace hS := hS.below hb1 hS.pos
  replace hbA := hbA.trans (hb1.mono hbA.size)
  go_wp2_with fail
  refine (sPowRange_any _ _ _ _).mono ?_
  rw [HV.out]
  rintro e w2 ⟨rfl, hb2⟩
  replace kL := (kL.below hb2 kL.lt).alloc (.cells #[.int .i64 p, .int .i64 q] 24)
  replace hS := (hS.below hb2 hS.pos).alloc (.cells #[.int .i64 p, .int .i64 q] 24)
  replace hbA := hbA.trans (hb2.mono hbA.size)
  replace hbA := hbA.alloc hbA.size (.cells #[.int .i64 p, .int .i64 q] 24)
  have kW := Blk.new w2 #[.int .i64 p, .int .i64 q] 24
  obtain ⟨⟨x0, x1⟩, _, _⟩ := kL.two
  go_wp2_with fail
  refine (toRange_any _ _ _).mono ?_
  rintro e w3 ⟨rfl, hb3⟩
  replace hS := hS.below hb3 hS.pos
  replace hbA := hbA.trans (hb3.mono hbA.size)
  replace kW := kW.below hb3 kW.lt
  clear x0 x1 kL
  go_wp2_with fail
  refine (powRange_any ea _ _ _ _ hS).mono ?_
  rw [HV.out]
  rintro e w4 ⟨rfl, hb4⟩
  replace hbA := hbA.trans (hb4.mono hbA.size)
  replace hbA := hbA.alloc hbA.size (.cells #[.int .i64 p, .int .i64 q] 24)
  replace kW := (kW.below hb4 kW.lt).alloc (.cells #[.int .i64 p, .int .i64 q] 24)
  obtain ⟨⟨y0, y1⟩, _, _⟩ := kW.two
  go_wp2_with fail
  refine (eqRange_same p q _).mono ?_
  rintro e w5 ⟨rfl, hb5⟩
  go_wp2_with fail
  go_ret
  exact ⟨rfl, hbA.trans (hb5.mono hbA.size)⟩
end Go.Proofs.YtcoljkafbpnpnaaDoor
