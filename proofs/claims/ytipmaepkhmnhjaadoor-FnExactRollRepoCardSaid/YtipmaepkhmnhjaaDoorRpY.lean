/- Loans that are continued: the exact law. -/
import Derived.Test.YtipmaepkhmnhjaaDoorRpX
import Derived.Test.YtipmaepkhmnhjaaDoorKp
namespace Go.Proofs.YtipmaepkhmnhjaaDoor
open Go.RowKit
set_option maxHeartbeats 1000000 in
theorem eqRepo_same (c r f t h : Int) (w : World) :
    Calls Tryd.prog 32 #[rpV c r f t h, rpV c r f t h] w fun e w' => e = .returned (.bool true) ∧ Below w.heap.size w w' := by
  have e0 : ∀ x : Int, (x != x) = false := fun x => by simp
  have ec := e0 c
  have er := e0 r
  have ef := e0 f
  have et := e0 t
  have eh := e0 h
  clear e0
  go_enter Tryd.func32, Tryd.ntmps32
  go_wp2_with fail
  go_ret
  exact ⟨rfl, ((Below.refl _ _).alloc (Nat.le_refl _) _).alloc (by simp) _⟩
theorem Rp.rol_form (c r f t h u rate : Int) : ∃ a1 a2 a3 a4 a5 b, Rp.rol c r f t h u rate = .tuple #[rpV a1 a2 a3 a4 a5, .bool b] := by
  unfold Rp.rol
  split
  · exact ⟨_, _, _, _, _, _, rfl⟩
  · exact ⟨_, _, _, _, _, _, rfl⟩
set_option maxHeartbeats 4000000 in
theorem exRollRepo (c r f t h u rate : Int) (w : World) (hT : Tab w) :
    Calls Tryd.prog 13 #[rpV c r f t h, .int .i64 u, .int .i64 rate] w fun e w' => e = .returned (.bool true) ∧ Below w.heap.size w w' := by
  have HT := Lib.hid hT; clear hT
  obtain ⟨a1, a2, a3, a4, a5, b, hV⟩ := Rp.rol_form c r f t h u rate
  have SP := Lib.hid (fun W => show Calls Tryd.prog 30 #[rpV c r f t h, .int .i64 u, .int .i64 rate] W fun e w' => e = .returned (.tuple #[rpV a1 a2 a3 a4 a5, .bool b]) ∧ Below W.heap.size W w' from hV ▸ sroll_any c r f t h u rate W)
  have IM := Lib.hid (fun W hT => show Calls Tryd.prog 31 #[rpV c r f t h, .int .i64 u, .int .i64 rate] W fun e w' => e = .returned (.tuple #[rpV a1 a2 a3 a4 a5, .bool b]) ∧ Below W.heap.size W w' from hV ▸ roll_any c r f t h u rate W hT)
  clear hV
  have hbb : (b != b) = false := by simp
  have K0 := (Kp.refl w).new 48 (rpA c r f t h)
  obtain ⟨x0, x1, x2, x3, x4⟩ := K0.first.rp
  go_enter Tryd.func13, Tryd.ntmps13
  go_wp2_with fail
  refine (toRepo_any _ _ _ _ _ _).mono ?_
  rintro e w1 ⟨rfl, hb1⟩
  have K1 := K0.below hb1
  clear hb1 x0 x1 x2 x3 x4
  obtain ⟨x0, x1, x2, x3, x4⟩ := K1.first.rp
  go_wp2_with fail
  refine (SP.out _).mono ?_
  rintro e w2 ⟨rfl, hb2⟩
  have K2 := (K1.below hb2).new 45 (rpA a1 a2 a3 a4 a5)
  clear hb2 x0 x1 x2 x3 x4
  obtain ⟨x0, x1, x2, x3, x4⟩ := K2.second.rp
  go_wp2_with fail
  refine (toRepo_any _ _ _ _ _ _).mono ?_
  rintro e w3 ⟨rfl, hb3⟩
  have K3 := K2.below hb3
  clear hb3 x0 x1 x2 x3 x4
  go_wp2_with fail
  refine (IM.out _ (HT.out.below K3.1 HT.out.pos)).mono ?_
  rintro e w4 ⟨rfl, hb4⟩
  have K4 := (K3.below hb4).new 45 (rpA a1 a2 a3 a4 a5)
  clear hb4
  obtain ⟨x0, x1, x2, x3, x4⟩ := K4.first.rp
  obtain ⟨y0, y1, y2, y3, y4⟩ := K4.second.rp
  go_wp2_with fail
  refine (eqRepo_same _ _ _ _ _ _).mono ?_
  rintro e w5 ⟨rfl, hb5⟩
  have K5 := K4.below hb5
  go_wp2_with fail
  go_ret
  exact ⟨rfl, K5.1⟩
end Go.Proofs.YtipmaepkhmnhjaaDoor
