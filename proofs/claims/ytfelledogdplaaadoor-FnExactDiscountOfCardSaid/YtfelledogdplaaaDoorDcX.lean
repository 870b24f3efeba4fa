/- The exact law of discounts. -/
import Derived.Test.YtfelledogdplaaaDoorDcE
namespace Go.Proofs.YtfelledogdplaaaDoor
open Go.RowKit
set_option maxHeartbeats 400000 in
theorem eqRangeD (p q : Int) (w : World) :
    Calls Tryd.prog 11 #[rV p q, rV p q] w fun e w' => e = .returned (.bool true) ∧ Below w.heap.size w w' := by
  have e1 : (p != p) = false := by simp
  have e2 : (q != q) = false := by simp
  go_enter Tryd.func11, Tryd.ntmps11
  go_wp2_with fail
  go_ret
  exact ⟨rfl, ((Below.refl _ _).alloc (Nat.le_refl _) _).alloc (by simp) _⟩
set_option maxRecDepth 8000 in
set_option maxHeartbeats 4000000 in
theorem exDiscountOf (y p d n : Int) (w : World) (ea : Addr) (hS : Sen ea w) :
    Calls Tryd.prog 6 #[.int .i64 y, .int .i64 p, .int .i64 d, .int .i64 n] w fun e w' => e = .returned (.bool true) ∧ Below w.heap.size w w' := by
  have SP := Lib.hid (fun W => sdisc_any y p d n W)
  have HS := Lib.hid (fun W (hW : Below w.heap.size w W) => hS.below hW hS.pos)
  have IM := Lib.hid (fun W hW => disc_any ea y p d n W hW)
  generalize (Dc.val y p d n).1 = L at SP IM
  generalize (Dc.val y p d n).2 = U at SP IM
  clear hS
  go_enter Tryd.func6, Tryd.ntmps6
  go_wp2_with fail
  refine (SP.out _).mono ?_
  rintro e w1 ⟨rfl, hb1⟩
  have HB1 := Lib.hid (hb1.alloc hb1.size (.cells #[.int .i64 L, .int .i64 U] 26))
  have K1 := Lib.hid (Blk.new w1 #[.int .i64 L, .int .i64 U] 26)
  clear hb1 SP
  go_wp2_with fail
  refine (IM.out _ (HS.out _ HB1.out)).mono ?_
  rintro e w2 ⟨rfl, hb2⟩
  have HB2 := Lib.hid (HB1.out.trans (hb2.mono HB1.out.size))
  have K2 := Lib.hid (K1.out.below hb2 K1.out.lt)
  have hlt := K2.out.lt
  obtain ⟨⟨a0, a1⟩, -, -⟩ := K2.out.two
  clear hb2 IM
  go_wp2_with fail
  refine (eqRangeD L U _).mono ?_
  rintro e w3 ⟨rfl, hb3⟩
  have HB3 := Lib.hid (HB2.out.alloc HB2.out.size (.cells #[.int .i64 L, .int .i64 U] 26))
  have HB4 := Lib.hid (HB3.out.trans (hb3.mono HB3.out.size))
  go_wp2_with fail
  go_ret
  exact ⟨rfl, HB4.out⟩
end Go.Proofs.YtfelledogdplaaaDoor
