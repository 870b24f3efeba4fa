/- The head's words, read once: the first three. -/
import Derived.Test.YtkdooncfchmkfaaDoorRows
import Derived.ProofKit
import Derived.OpenShut
import Derived.ChangeOld
namespace Go.Proofs.YtkdooncfchmkfaaDoor
open Go.ChangeShapes Go.WideShapes Go.ChangeAt Go.RowKit
theorem words_char (c : Char) (r : List Char) (h : c ≠ Char.ofNat 32) (w : List Char) (ws : List (List Char)) (hr : wordsSigns r = w :: ws) : wordsSigns (c :: r) = (c :: w) :: ws := by
  unfold wordsSigns
  split
  · rename_i e; cases e
  · rename_i e; injection e with e _; exact absurd e h
  · rename_i e; injection e with e1 e2; subst e1 e2; rw [hr]
theorem words_app : ∀ (w : List Char) (r : List Char), (w.all fun c => c != Char.ofNat 32) = true → wordsSigns (w ++ Char.ofNat 32 :: r) = w :: wordsSigns r
  | [], r, _ => rfl
  | c :: w, r, h => by
    rw [List.all_cons, Bool.and_eq_true] at h
    exact words_char c _ (by simpa using h.1) w _ (words_app w r h.2)
def headA : List Char := ([104, 97, 114, 110, 101, 115, 115] : List Nat).map Char.ofNat
def headB : List Char := ([101, 54, 56, 49, 55, 48, 52, 49, 52, 100, 100, 56, 52, 99, 48, 52, 97, 48, 55, 48, 52, 52, 50, 97, 51, 99, 52, 101, 100, 54, 100, 50, 97, 100, 56, 51, 51, 99, 100, 51, 98, 99, 54, 52, 102, 50, 54, 53, 48, 49, 55, 100, 100, 97, 101, 97, 52, 50, 52, 49, 53, 51, 53, 50] : List Nat).map Char.ofNat
def headC : List Char := ([99, 117, 116] : List Nat).map Char.ofNat
def headD : List Char := ([97, 116, 32, 108, 111, 111, 112, 46, 101, 120, 97, 109, 112, 108, 101, 47, 98, 111, 110, 100, 100, 101, 115, 107, 47, 108, 97, 119, 115, 46, 70, 110, 69, 120, 97, 99, 116, 80, 114, 105, 99, 101, 79, 102, 32, 108, 111, 111, 112, 46, 101, 120, 97, 109, 112, 108, 101, 47, 98, 111, 110, 100, 100, 101, 115, 107, 47, 108, 97, 119, 115, 46, 70, 110, 69, 120, 97, 99, 116, 89, 105, 101, 108, 100, 79, 102, 32, 108, 111, 111, 112, 46, 101, 120, 97, 109, 112, 108, 101, 47, 98, 111, 110, 100, 100, 101, 115, 107, 47, 108, 97, 119, 115, 46, 70, 110, 84, 111, 112, 89, 105, 101, 108, 100, 32, 108, 111, 111, 112, 46, 101, 120, 97, 109, 112, 108, 101, 47, 98, 111, 110, 100, 100, 101, 115, 107, 47, 108, 97, 119, 115, 46, 70, 110, 69, 120, 97, 99, 116, 82, 105, 115, 107, 79, 102, 32, 108, 111, 111, 112, 46, 101, 120, 97, 109, 112, 108, 101, 47, 98, 111, 110, 100, 100, 101, 115, 107, 47, 108, 97, 119, 115, 46, 70, 110, 76, 105, 102, 101, 79, 102, 32, 108, 111, 111, 112, 46, 101, 120, 97, 109, 112, 108, 101, 47, 98, 111, 110, 100, 100, 101, 115, 107, 47, 108, 97, 119, 115, 46, 70, 110, 76, 105, 102, 101, 79, 102, 90, 101, 114, 111, 32, 108, 111, 111, 112, 46, 101, 120, 97, 109, 112, 108, 101, 47, 98, 111, 110, 100, 100, 101, 115, 107, 47, 108, 97, 119, 115, 46, 70, 110, 69, 120, 97, 99, 116, 76, 105, 102, 101, 79, 102] : List Nat).map Char.ofNat
set_option maxRecDepth 100000 in
theorem headOf : Tryd.prog.initOrder = String.ofList (headA ++ Char.ofNat 32 :: (headB ++ Char.ofNat 32 :: (headC ++ Char.ofNat 32 :: headD))) := by kernel_rfl
set_option maxRecDepth 100000 in
theorem headList : wordsSigns Tryd.prog.initOrder.toList = headA :: headB :: headC :: wordsSigns headD := by
  rw [headOf, String.toList_ofList, words_app headA _ (by kernel_rfl), words_app headB _ (by kernel_rfl), words_app headC _ (by kernel_rfl)]
theorem make_of (P : Program) (h : wordsSigns P.initOrder.toList = headA :: headB :: headC :: wordsSigns headD) : P.make = some .cut := by unfold Program.make; rw [h]; kernel_rfl
theorem lifts_of (P : Program) (h : wordsSigns P.initOrder.toList = headA :: headB :: headC :: wordsSigns headD) : P.liftsFinal = false := by unfold Program.liftsFinal Program.headLifts; simp only [h]; kernel_rfl
theorem enter_of (P : Program) (h : wordsSigns P.initOrder.toList = headA :: headB :: headC :: wordsSigns headD) : P.mayEnter = (((!P.laysLater && !P.bearsReflect) && true) && P.doorFits []) := by unfold Program.mayEnter; rw [h]; kernel_rfl
theorem headMake : Tryd.prog.make = some .cut := make_of _ headList
theorem headLifts : Tryd.prog.liftsFinal = false := lifts_of _ headList
set_option maxRecDepth 100000 in
theorem headDoor : (((!Tryd.prog.laysLater && !Tryd.prog.bearsReflect) && true) && Tryd.prog.doorFits []) = true := by kernel_rfl
theorem headEnter : Tryd.prog.mayEnter = true := (enter_of _ headList).trans headDoor
end Go.Proofs.YtkdooncfchmkfaaDoor
