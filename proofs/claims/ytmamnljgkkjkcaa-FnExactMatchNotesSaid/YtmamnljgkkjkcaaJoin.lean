/- The head's words, read once: the first three. -/
import Derived.Test.YtmamnljgkkjkcaaRows
import Derived.ProofKit
import Derived.OpenShut
import Derived.ChangeOld
namespace Go.Proofs.Ytmamnljgkkjkcaa
open Go.ChangeShapes Go.WideShapes Go.ChangeAt Go.RowKit
theorem words_char (c : Char) (r : List Char) (h : c ≠ Char.ofNat 32) (w : List Char) (ws : List (List Char)) (hr : wordsSigns r = w :: ws) : wordsSigns (c :: r) = (c :: w) :: ws := by
  unfold wordsSigns
  split
  · rename_i e; cases e
  · rename_i e; injection e with e _; exact absurd e h
  · rename_i e; injection e with e1 e2; subst e1 e2; rw [hr]
theorem words_app : ∀ (w : List Char) (r : List Char), (w.all fun c => c != Char.ofNat 32) = true → wordsSigns (w ++ Char.ofNat 32 :: r) = w :: wordsSigns r
  | [], r, _ => rfl
  | c :: w, r, h => by
    rw [List.all_cons, Bool.and_eq_true] at h
    exact words_char c _ (by simpa using h.1) w _ (words_app w r h.2)
def headA : List Char := ([104, 97, 114, 110, 101, 115, 115] : List Nat).map Char.ofNat
def headB : List Char := ([102, 49, 56, 51, 55, 101, 57, 102, 49, 52, 101, 57, 97, 51, 97, 54, 56, 53, 57, 50, 101, 100, 51, 101, 99, 101, 56, 102, 101, 50, 48, 101, 51, 54, 102, 56, 49, 97, 56, 57, 97, 49, 100, 54, 100, 56, 102, 53, 51, 56, 49, 97, 49, 54, 56, 49, 48, 98, 50, 52, 48, 50, 57, 100] : List Nat).map Char.ofNat
def headC : List Char := ([99, 117, 116] : List Nat).map Char.ofNat
def headD : List Char := ([97, 116, 32, 108, 111, 111, 112, 46, 101, 120, 97, 109, 112, 108, 101, 47, 98, 111, 110, 100, 100, 101, 115, 107, 47, 108, 97, 119, 115, 46, 70, 110, 80, 111, 115, 116, 84, 114, 97, 100, 101, 115, 32, 108, 111, 111, 112, 46, 101, 120, 97, 109, 112, 108, 101, 47, 98, 111, 110, 100, 100, 101, 115, 107, 47, 108, 97, 119, 115, 46, 70, 110, 78, 101, 116, 80, 111, 115, 116, 115, 32, 108, 111, 111, 112, 46, 101, 120, 97, 109, 112, 108, 101, 47, 98, 111, 110, 100, 100, 101, 115, 107, 47, 108, 97, 119, 115, 46, 70, 110, 77, 97, 116, 99, 104, 78, 111, 116, 101, 115, 32, 108, 111, 111, 112, 46, 101, 120, 97, 109, 112, 108, 101, 47, 98, 111, 110, 100, 100, 101, 115, 107, 47, 108, 97, 119, 115, 46, 70, 110, 77, 97, 116, 99, 104, 78, 111, 116, 101, 115, 79, 112, 101, 110, 32, 108, 111, 111, 112, 46, 101, 120, 97, 109, 112, 108, 101, 47, 98, 111, 110, 100, 100, 101, 115, 107, 47, 108, 97, 119, 115, 46, 70, 110, 79, 112, 101, 110, 78, 111, 116, 101, 115, 32, 108, 111, 111, 112, 46, 101, 120, 97, 109, 112, 108, 101, 47, 98, 111, 110, 100, 100, 101, 115, 107, 47, 108, 97, 119, 115, 46, 70, 110, 77, 97, 116, 99, 104, 78, 111, 116, 101, 115, 83, 101, 108, 102, 32, 108, 111, 111, 112, 46, 101, 120, 97, 109, 112, 108, 101, 47, 98, 111, 110, 100, 100, 101, 115, 107, 47, 108, 97, 119, 115, 46, 70, 110, 69, 120, 97, 99, 116, 80, 111, 115, 116, 84, 114, 97, 100, 101, 115, 32, 108, 111, 111, 112, 46, 101, 120, 97, 109, 112, 108, 101, 47, 98, 111, 110, 100, 100, 101, 115, 107, 47, 108, 97, 119, 115, 46, 70, 110, 69, 120, 97, 99, 116, 78, 101, 116, 80, 111, 115, 116, 115, 32, 108, 111, 111, 112, 46, 101, 120, 97, 109, 112, 108, 101, 47, 98, 111, 110, 100, 100, 101, 115, 107, 47, 108, 97, 119, 115, 46, 70, 110, 69, 120, 97, 99, 116, 77, 97, 116, 99, 104, 78, 111, 116, 101, 115, 32, 108, 111, 111, 112, 46, 101, 120, 97, 109, 112, 108, 101, 47, 98, 111, 110, 100, 100, 101, 115, 107, 47, 108, 97, 119, 115, 46, 70, 110, 69, 120, 97, 99, 116, 79, 112, 101, 110, 78, 111, 116, 101, 115] : List Nat).map Char.ofNat
set_option maxRecDepth 100000 in
theorem headOf : Try.prog.initOrder = String.ofList (headA ++ Char.ofNat 32 :: (headB ++ Char.ofNat 32 :: (headC ++ Char.ofNat 32 :: headD))) := by kernel_rfl
set_option maxRecDepth 100000 in
theorem headList : wordsSigns Try.prog.initOrder.toList = headA :: headB :: headC :: wordsSigns headD := by
  rw [headOf, String.toList_ofList, words_app headA _ (by kernel_rfl), words_app headB _ (by kernel_rfl), words_app headC _ (by kernel_rfl)]
theorem make_of (P : Program) (h : wordsSigns P.initOrder.toList = headA :: headB :: headC :: wordsSigns headD) : P.make = some .cut := by unfold Program.make; rw [h]; kernel_rfl
theorem lifts_of (P : Program) (h : wordsSigns P.initOrder.toList = headA :: headB :: headC :: wordsSigns headD) : P.liftsFinal = false := by unfold Program.liftsFinal Program.headLifts; simp only [h]; kernel_rfl
theorem enter_of (P : Program) (h : wordsSigns P.initOrder.toList = headA :: headB :: headC :: wordsSigns headD) : P.mayEnter = (((!P.laysLater && !P.bearsReflect) && true) && P.doorFits []) := by unfold Program.mayEnter; rw [h]; kernel_rfl
theorem headMake : Try.prog.make = some .cut := make_of _ headList
theorem headLifts : Try.prog.liftsFinal = false := lifts_of _ headList
set_option maxRecDepth 100000 in
theorem headDoor : (((!Try.prog.laysLater && !Try.prog.bearsReflect) && true) && Try.prog.doorFits []) = true := by kernel_rfl
theorem headEnter : Try.prog.mayEnter = true := (enter_of _ headList).trans headDoor
end Go.Proofs.Ytmamnljgkkjkcaa
