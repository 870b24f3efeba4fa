/- The head's words, read once: the first three. -/
import Derived.Test.YtkbojibgbmbmdaaRows
import Derived.ProofKit
import Derived.OpenShut
import Derived.ChangeOld
namespace Go.Proofs.Ytkbojibgbmbmdaa
open Go.ChangeShapes Go.WideShapes Go.ChangeAt Go.RowKit
theorem words_char (c : Char) (r : List Char) (h : c ≠ Char.ofNat 32) (w : List Char) (ws : List (List Char)) (hr : wordsSigns r = w :: ws) : wordsSigns (c :: r) = (c :: w) :: ws := by
  unfold wordsSigns
  split
  · rename_i e; cases e
  · rename_i e; injection e with e _; exact absurd e h
  · rename_i e; injection e with e1 e2; subst e1 e2; rw [hr]
theorem words_app : ∀ (w : List Char) (r : List Char), (w.all fun c => c != Char.ofNat 32) = true → wordsSigns (w ++ Char.ofNat 32 :: r) = w :: wordsSigns r
  | [], r, _ => rfl
  | c :: w, r, h => by
    rw [List.all_cons, Bool.and_eq_true] at h
    exact words_char c _ (by simpa using h.1) w _ (words_app w r h.2)
def headA : List Char := ([104, 97, 114, 110, 101, 115, 115] : List Nat).map Char.ofNat
def headB : List Char := ([54, 101, 49, 101, 51, 48, 56, 57, 48, 56, 55, 54, 102, 98, 97, 53, 101, 100, 57, 49, 56, 97, 101, 56, 48, 50, 51, 99, 100, 55, 56, 100, 99, 97, 100, 49, 97, 97, 99, 50, 97, 53, 52, 53, 53, 52, 99, 55, 50, 99, 51, 48, 50, 98, 57, 48, 56, 98, 101, 99, 99, 56, 100, 102] : List Nat).map Char.ofNat
def headC : List Char := ([99, 117, 116] : List Nat).map Char.ofNat
def headD : List Char := ([97, 116, 32, 108, 111, 111, 112, 46, 101, 120, 97, 109, 112, 108, 101, 47, 98, 111, 110, 100, 100, 101, 115, 107, 47, 108, 97, 119, 115, 46, 70, 110, 86, 97, 108, 105, 100, 84, 114, 97, 100, 101, 115, 32, 108, 111, 111, 112, 46, 101, 120, 97, 109, 112, 108, 101, 47, 98, 111, 110, 100, 100, 101, 115, 107, 47, 108, 97, 119, 115, 46, 70, 110, 80, 111, 115, 105, 116, 105, 111, 110, 65, 116, 32, 108, 111, 111, 112, 46, 101, 120, 97, 109, 112, 108, 101, 47, 98, 111, 110, 100, 100, 101, 115, 107, 47, 108, 97, 119, 115, 46, 70, 110, 76, 111, 116, 115, 79, 102, 32, 108, 111, 111, 112, 46, 101, 120, 97, 109, 112, 108, 101, 47, 98, 111, 110, 100, 100, 101, 115, 107, 47, 108, 97, 119, 115, 46, 70, 110, 71, 97, 105, 110, 79, 102, 32, 108, 111, 111, 112, 46, 101, 120, 97, 109, 112, 108, 101, 47, 98, 111, 110, 100, 100, 101, 115, 107, 47, 108, 97, 119, 115, 46, 70, 110, 71, 97, 105, 110, 79, 102, 70, 108, 97, 116, 32, 108, 111, 111, 112, 46, 101, 120, 97, 109, 112, 108, 101, 47, 98, 111, 110, 100, 100, 101, 115, 107, 47, 108, 97, 119, 115, 46, 70, 110, 76, 111, 116, 115, 79, 102, 65, 103, 97, 105, 110, 32, 108, 111, 111, 112, 46, 101, 120, 97, 109, 112, 108, 101, 47, 98, 111, 110, 100, 100, 101, 115, 107, 47, 108, 97, 119, 115, 46, 70, 110, 76, 111, 116, 115, 79, 102, 67, 108, 111, 115, 101, 32, 108, 111, 111, 112, 46, 101, 120, 97, 109, 112, 108, 101, 47, 98, 111, 110, 100, 100, 101, 115, 107, 47, 108, 97, 119, 115, 46, 70, 110, 69, 120, 97, 99, 116, 76, 111, 116, 115, 79, 102, 32, 108, 111, 111, 112, 46, 101, 120, 97, 109, 112, 108, 101, 47, 98, 111, 110, 100, 100, 101, 115, 107, 47, 108, 97, 119, 115, 46, 70, 110, 69, 120, 97, 99, 116, 71, 97, 105, 110, 79, 102, 32, 108, 111, 111, 112, 46, 101, 120, 97, 109, 112, 108, 101, 47, 98, 111, 110, 100, 100, 101, 115, 107, 47, 108, 97, 119, 115, 46, 70, 110, 69, 120, 97, 99, 116, 86, 97, 108, 105, 100, 84, 114, 97, 100, 101, 115, 32, 108, 111, 111, 112, 46, 101, 120, 97, 109, 112, 108, 101, 47, 98, 111, 110, 100, 100, 101, 115, 107, 47, 108, 97, 119, 115, 46, 70, 110, 69, 120, 97, 99, 116, 80, 111, 115, 105, 116, 105, 111, 110, 65, 116] : List Nat).map Char.ofNat
set_option maxRecDepth 100000 in
theorem headOf : Try.prog.initOrder = String.ofList (headA ++ Char.ofNat 32 :: (headB ++ Char.ofNat 32 :: (headC ++ Char.ofNat 32 :: headD))) := by kernel_rfl
set_option maxRecDepth 100000 in
theorem headList : wordsSigns Try.prog.initOrder.toList = headA :: headB :: headC :: wordsSigns headD := by
  rw [headOf, String.toList_ofList, words_app headA _ (by kernel_rfl), words_app headB _ (by kernel_rfl), words_app headC _ (by kernel_rfl)]
theorem make_of (P : Program) (h : wordsSigns P.initOrder.toList = headA :: headB :: headC :: wordsSigns headD) : P.make = some .cut := by unfold Program.make; rw [h]; kernel_rfl
theorem lifts_of (P : Program) (h : wordsSigns P.initOrder.toList = headA :: headB :: headC :: wordsSigns headD) : P.liftsFinal = false := by unfold Program.liftsFinal Program.headLifts; simp only [h]; kernel_rfl
theorem enter_of (P : Program) (h : wordsSigns P.initOrder.toList = headA :: headB :: headC :: wordsSigns headD) : P.mayEnter = (((!P.laysLater && !P.bearsReflect) && true) && P.doorFits []) := by unfold Program.mayEnter; rw [h]; kernel_rfl
theorem headMake : Try.prog.make = some .cut := make_of _ headList
theorem headLifts : Try.prog.liftsFinal = false := lifts_of _ headList
set_option maxRecDepth 100000 in
theorem headDoor : (((!Try.prog.laysLater && !Try.prog.bearsReflect) && true) && Try.prog.doorFits []) = true := by kernel_rfl
theorem headEnter : Try.prog.mayEnter = true := (enter_of _ headList).trans headDoor
end Go.Proofs.Ytkbojibgbmbmdaa
