/- Whether notes can be matched, in the program. -/
import Derived.Test.YtmamnljgkkjkcaaAvNote
namespace Go.Proofs.Ytmamnljgkkjkcaa
open Go Go.RowKit
/-- Whether notes can be matched with a tolerance. -/
def Mn.okB (a b : List Tri) (tol : Int) : Bool := (btw a.length 0 10 && a.all Mn.one) && ((btw b.length 0 10 && b.all Mn.one) && btw tol 0 50000)
set_option maxHeartbeats 800000 in
theorem vmatch_any (w : World) (va vb : Value) (a b : List Tri) (tol : Int) (ha : R3o w va a) (hb : R3o w vb b) (la : a.length ≤ 9223372036854775807) (lb : b.length ≤ 9223372036854775807) :
    Calls Try.prog 67 #[va, vb, .int .i64 tol] w fun x w' => x = .returned (.bool (Mn.okB a b tol)) ∧ Below w.heap.size w w' := by
  have HX := Lib.hid (av_Note w va a 0 10 ha la)
  have HY := Lib.hid (fun W (h : Below w.heap.size w W) => av_Note W vb b 0 10 (hb.below h (Nat.le_refl _)) lb)
  obtain ⟨⟨x, c, rfl⟩, -⟩ := ha
  obtain ⟨⟨y, c', rfl⟩, -⟩ := hb
  cases h0 : (btw a.length 0 10 && a.all Mn.one) with
  | false =>
    have E := Lib.hid (show Mn.okB a b tol = false by unfold Mn.okB; rw [h0]; rfl)
    go_enter Try.func67, Try.ntmps67
    go_wp2_with fail
    refine HX.out.mono ?_
    rw [h0]
    rintro e w1 ⟨rfl, h1⟩
    go_wp2_with fail
    go_ret
    exact ⟨ret_bool E.out.symm, h1⟩
  | true =>
    cases h2 : (btw b.length 0 10 && b.all Mn.one) with
    | false =>
      have E := Lib.hid (show Mn.okB a b tol = false by unfold Mn.okB; rw [h0, h2]; rfl)
      go_enter Try.func67, Try.ntmps67
      go_wp2_with fail
      refine HX.out.mono ?_
      rw [h0]
      rintro e w1 ⟨rfl, h1⟩
      go_wp2_with fail
      refine (HY.out _ h1).mono ?_
      rw [h2]
      rintro e w2 ⟨rfl, h3⟩
      go_wp2_with fail
      go_ret
      exact ⟨ret_bool E.out.symm, h1.trans (h3.mono h1.size)⟩
    | true =>
      have E := Lib.hid (show Mn.okB a b tol = btw tol 0 50000 by unfold Mn.okB; rw [h0, h2]; rfl)
      go_enter Try.func67, Try.ntmps67
      go_wp2_with fail
      refine HX.out.mono ?_
      rw [h0]
      rintro e w1 ⟨rfl, h1⟩
      go_wp2_with fail
      refine (HY.out _ h1).mono ?_
      rw [h2]
      rintro e w2 ⟨rfl, h3⟩
      go_wp2_with fail
      refine (vprN_any _ _).mono ?_
      rintro e w3 ⟨rfl, rfl⟩
      go_wp2_with fail
      go_ret
      exact ⟨ret_bool E.out.symm, h1.trans (h3.mono h1.size)⟩
end Go.Proofs.Ytmamnljgkkjkcaa
