/- Weights: which are valid. -/
import Derived.Test.YtgkldgljebhcgaaPrA
namespace Go.Proofs.Ytgkldgljebhcgaa
open Go.RowKit
def wtB (n : Int) : Bool := btw n 0 1000
def Cw.pre (xs : List Int) : Bool := btw xs.length 1 8 && xs.all wtB
def Cw.ok (xs : List Int) : Bool := Cw.pre xs && (xs.sum == 1000)
theorem Cw.at {xs : List Int} (h : xs.all wtB = true) {i : Nat} (hi : i < xs.length) : 0 ≤ xs.getD i 0 ∧ xs.getD i 0 ≤ 1000 := btw_iff.1 (allB_at 0 h hi)
theorem Cw.hold {xs : List Int} (h : xs.all wtB = true) : xs.all holdB = true := List.all_eq_true.2 fun x hx => by
  have := btw_iff.1 (List.all_eq_true.1 h x hx)
  exact btw_iff.2 (by omega)
theorem Cw.small {xs : List Int} (h : xs.all wtB = true) : Small xs := fun i hi => by have := Cw.at h hi; omega
theorem Cw.parts {xs : List Int} (h : Cw.ok xs = true) : 1 ≤ xs.length ∧ xs.length ≤ 8 ∧ xs.all wtB = true ∧ xs.sum = 1000 := by
  unfold Cw.ok Cw.pre at h
  rw [Bool.and_eq_true, Bool.and_eq_true, btw_iff] at h
  exact ⟨by omega, by omega, h.1.2, eq_of_beq h.2⟩
set_option maxHeartbeats 400000 in
theorem wt1_any (p : Int) (w : World) : Calls Try.prog 32 #[.int .i64 p] w fun e w' => e = .returned (.bool (wtB p)) ∧ Below w.heap.size w w' := by
  have E := Lib.hid (show wtB p = btw p 0 1000 from rfl)
  go_enter Try.func32, Try.ntmps32
  go_wp2_with fail
  refine (between_any _ _ _ _).mono ?_
  rintro e w' ⟨rfl, rfl⟩
  go_wp2_with fail
  go_ret
  exact ⟨ret_bool E.out.symm, Below.refl _ _⟩
end Go.Proofs.Ytgkldgljebhcgaa
