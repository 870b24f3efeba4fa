/- The head's words, read once: the first three. -/
import Derived.Test.YtapalkohfhohhaaDoorRows
import Derived.ProofKit
import Derived.OpenShut
import Derived.ChangeOld
namespace Go.Proofs.YtapalkohfhohhaaDoor
open Go.ChangeShapes Go.WideShapes Go.ChangeAt Go.RowKit
theorem words_char (c : Char) (r : List Char) (h : c ≠ Char.ofNat 32) (w : List Char) (ws : List (List Char)) (hr : wordsSigns r = w :: ws) : wordsSigns (c :: r) = (c :: w) :: ws := by
  unfold wordsSigns
  split
  · rename_i e; cases e
  · rename_i e; injection e with e _; exact absurd e h
  · rename_i e; injection e with e1 e2; subst e1 e2; rw [hr]
theorem words_app : ∀ (w : List Char) (r : List Char), (w.all fun c => c != Char.ofNat 32) = true → wordsSigns (w ++ Char.ofNat 32 :: r) = w :: wordsSigns r
  | [], r, _ => rfl
  | c :: w, r, h => by
    rw [List.all_cons, Bool.and_eq_true] at h
    exact words_char c _ (by simpa using h.1) w _ (words_app w r h.2)
def headA : List Char := ([104, 97, 114, 110, 101, 115, 115] : List Nat).map Char.ofNat
def headB : List Char := ([52, 52, 50, 51, 97, 52, 49, 98, 57, 52, 51, 99, 55, 57, 97, 54, 50, 57, 52, 53, 51, 53, 97, 99, 50, 48, 56, 54, 57, 52, 102, 99, 53, 52, 55, 57, 53, 97, 55, 56, 52, 56, 52, 56, 98, 55, 51, 97, 98, 102, 54, 99, 53, 54, 102, 52, 102, 54, 98, 51, 50, 55, 100, 101] : List Nat).map Char.ofNat
def headC : List Char := ([99, 117, 116] : List Nat).map Char.ofNat
def headD : List Char := ([97, 116, 32, 108, 111, 111, 112, 46, 101, 120, 97, 109, 112, 108, 101, 47, 98, 111, 110, 100, 100, 101, 115, 107, 47, 108, 97, 119, 115, 46, 70, 110, 68, 97, 116, 101, 82, 111, 117, 110, 100, 84, 114, 105, 112, 32, 108, 111, 111, 112, 46, 101, 120, 97, 109, 112, 108, 101, 47, 98, 111, 110, 100, 100, 101, 115, 107, 47, 108, 97, 119, 115, 46, 70, 110, 68, 97, 116, 101, 67, 97, 110, 111, 110, 105, 99, 97, 108, 32, 108, 111, 111, 112, 46, 101, 120, 97, 109, 112, 108, 101, 47, 98, 111, 110, 100, 100, 101, 115, 107, 47, 108, 97, 119, 115, 46, 70, 110, 68, 97, 116, 101, 79, 114, 100, 101, 114, 32, 108, 111, 111, 112, 46, 101, 120, 97, 109, 112, 108, 101, 47, 98, 111, 110, 100, 100, 101, 115, 107, 47, 108, 97, 119, 115, 46, 70, 110, 66, 111, 110, 100, 82, 111, 117, 110, 100, 84, 114, 105, 112, 32, 108, 111, 111, 112, 46, 101, 120, 97, 109, 112, 108, 101, 47, 98, 111, 110, 100, 100, 101, 115, 107, 47, 108, 97, 119, 115, 46, 70, 110, 66, 111, 110, 100, 67, 97, 110, 111, 110, 105, 99, 97, 108, 32, 108, 111, 111, 112, 46, 101, 120, 97, 109, 112, 108, 101, 47, 98, 111, 110, 100, 100, 101, 115, 107, 47, 108, 97, 119, 115, 46, 70, 110, 84, 111, 112, 84, 101, 120, 116, 32, 108, 111, 111, 112, 46, 101, 120, 97, 109, 112, 108, 101, 47, 98, 111, 110, 100, 100, 101, 115, 107, 47, 108, 97, 119, 115, 46, 70, 110, 69, 120, 97, 99, 116, 70, 111, 114, 109, 97, 116, 68, 97, 116, 101, 32, 108, 111, 111, 112, 46, 101, 120, 97, 109, 112, 108, 101, 47, 98, 111, 110, 100, 100, 101, 115, 107, 47, 108, 97, 119, 115, 46, 70, 110, 69, 120, 97, 99, 116, 80, 97, 114, 115, 101, 68, 97, 116, 101, 32, 108, 111, 111, 112, 46, 101, 120, 97, 109, 112, 108, 101, 47, 98, 111, 110, 100, 100, 101, 115, 107, 47, 108, 97, 119, 115, 46, 70, 110, 69, 120, 97, 99, 116, 70, 111, 114, 109, 97, 116, 66, 111, 110, 100, 32, 108, 111, 111, 112, 46, 101, 120, 97, 109, 112, 108, 101, 47, 98, 111, 110, 100, 100, 101, 115, 107, 47, 108, 97, 119, 115, 46, 70, 110, 69, 120, 97, 99, 116, 80, 97, 114, 115, 101, 66, 111, 110, 100] : List Nat).map Char.ofNat
set_option maxRecDepth 100000 in
theorem headOf : Tryd.prog.initOrder = String.ofList (headA ++ Char.ofNat 32 :: (headB ++ Char.ofNat 32 :: (headC ++ Char.ofNat 32 :: headD))) := by kernel_rfl
set_option maxRecDepth 100000 in
theorem headList : wordsSigns Tryd.prog.initOrder.toList = headA :: headB :: headC :: wordsSigns headD := by
  rw [headOf, String.toList_ofList, words_app headA _ (by kernel_rfl), words_app headB _ (by kernel_rfl), words_app headC _ (by kernel_rfl)]
theorem make_of (P : Program) (h : wordsSigns P.initOrder.toList = headA :: headB :: headC :: wordsSigns headD) : P.make = some .cut := by unfold Program.make; rw [h]; kernel_rfl
theorem lifts_of (P : Program) (h : wordsSigns P.initOrder.toList = headA :: headB :: headC :: wordsSigns headD) : P.liftsFinal = false := by unfold Program.liftsFinal Program.headLifts; simp only [h]; kernel_rfl
theorem enter_of (P : Program) (h : wordsSigns P.initOrder.toList = headA :: headB :: headC :: wordsSigns headD) : P.mayEnter = (((!P.laysLater && !P.bearsReflect) && true) && P.doorFits []) := by unfold Program.mayEnter; rw [h]; kernel_rfl
theorem headMake : Tryd.prog.make = some .cut := make_of _ headList
theorem headLifts : Tryd.prog.liftsFinal = false := lifts_of _ headList
set_option maxRecDepth 100000 in
theorem headDoor : (((!Tryd.prog.laysLater && !Tryd.prog.bearsReflect) && true) && Tryd.prog.doorFits []) = true := by kernel_rfl
theorem headEnter : Tryd.prog.mayEnter = true := (enter_of _ headList).trans headDoor
end Go.Proofs.YtapalkohfhohhaaDoor
