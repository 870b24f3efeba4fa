/- An insertion sort of numbers by a comparison of the call's own (slices.SortStableFunc at few elements). -/
import Derived.Test.YtgkldgljebhcgaaI1
import Derived.Test.YtgkldgljebhcgaaSrP
import Derived.Test.YtgkldgljebhcgaaMinMax
namespace Go.Proofs.Ytgkldgljebhcgaa
open Go.RowKit
set_option maxHeartbeats 400000 in
theorem isNaN_any (n : Int) (w : World) : Calls Try.prog 49 #[.int .i64 n] w fun e w' => e = .returned (.bool false) ∧ w = w' := by
  have hn : (n != n) = false := by simp
  go_enter Try.func49, Try.ntmps49
  go_wp2_with fail
  go_ret
  exact ⟨rfl, rfl⟩
set_option maxHeartbeats 800000 in
theorem compare_any (a b : Int) (w : World) : Calls Try.prog 47 #[.int .i64 a, .int .i64 b] w fun e w' => e = .returned (.int .i64 (cmpI a b)) ∧ w = w' := by
  by_cases h : a < b
  · have E := Lib.hid (show cmpI a b = -1 from if_pos h)
    go_enter Try.func47, Try.ntmps47
    go_wp2_with (go_at_call 49; refine (isNaN_any _ _).mono ?_; rintro e w' ⟨rfl, rfl⟩)
    go_ret
    exact ⟨ret_int E.out.symm, rfl⟩
  · by_cases h2 : b < a
    · have E := Lib.hid (show cmpI a b = 1 by unfold cmpI; rw [if_neg h, if_pos h2])
      go_enter Try.func47, Try.ntmps47
      go_wp2_with (go_at_call 49; refine (isNaN_any _ _).mono ?_; rintro e w' ⟨rfl, rfl⟩)
      go_ret
      exact ⟨ret_int E.out.symm, rfl⟩
    · have E := Lib.hid (show cmpI a b = 0 by unfold cmpI; rw [if_neg h, if_neg h2])
      go_enter Try.func47, Try.ntmps47
      go_wp2_with (go_at_call 49; refine (isNaN_any _ _).mono ?_; rintro e w' ⟨rfl, rfl⟩)
      go_ret
      exact ⟨ret_int E.out.symm, rfl⟩
theorem quietS {P : Program} {f : FuncId} {args : Array Value} {w : World} {n : Nat} {v : Value}
    (h : Calls P f args (w.drewN n) fun e w' => e = .returned v ∧ w.drewN n = w') : Calls P f args (w.drewN n) fun e w'' => e = .returned v ∧ ∃ m, w'' = w.drewN m :=
  h.mono fun _ _ ⟨he, hm⟩ => ⟨he, n, hm.symm⟩
/-- The row of the numbers, and the box that the comparison holds. -/
def SrK (w : World) (q b off n cap : Nat) (rs : List Int) : Prop :=
  w.cell? ⟨q, 0, none⟩ = some (.slice (some ⟨b, off, none⟩) n cap) ∧ ∀ i, i < n → w.cell? ⟨b, off + i, none⟩ = some (.int .i64 (rs.getD i 0))
set_option maxHeartbeats 800000 in
theorem cloG_any (w : World) (q b off n cap : Nat) (rs : List Int) (i k : Nat) (hi : i < n) (hk : k < n) (h : SrK w q b off n cap rs) :
    Calls Try.prog 46 #[.int .i64 i, .int .i64 k, .pointer (some ⟨q, 0, none⟩)] w fun e w' => e = .returned (.int .i64 (Sr.cmp rs i k)) ∧ ∃ m, w' = w.drewN m := by
  obtain ⟨h0, hc⟩ := h
  have c0 := hc i hi
  have c1 := hc k hk
  have hii : (i : Int) < n := by omega
  have hkk : (k : Int) < n := by omega
  have E := Lib.hid (show Sr.cmp rs i k = cmpI (rs.getD k 0) (rs.getD i 0) from rfl)
  clear hc
  generalize rs.getD i 0 = x at c0 E
  generalize rs.getD k 0 = y at c1 E
  have C := Lib.hid (fun W => compare_any y x W)
  go_enter Try.func46, Try.ntmps46
  go_wp2_with fail
  go_quiet ((go_at_call 47; with_reducible exact quietS (C.out _)))
  go_wp2_with fail
  go_ret
  exact ⟨ret_int E.out.symm, _, rfl⟩
end Go.Proofs.Ytgkldgljebhcgaa
