/- The walks of the calendar's model, fourth part. -/
import Derived.Test.YtgjiogdekihhdaaDoorSpec3
namespace Go.Proofs.YtgjiogdekihhdaaDoor
open Go.RowKit
set_option maxHeartbeats 400000 in
theorem sDateOf_yes (n : Int) (w : World) (hd : dayB n = true) :
    Calls Tryd.prog 28 #[.int .i64 n] w fun e w' => e = .returned (.tuple #[.agg #[.int .i64 (Cal.Y n), .int .i64 (Cal.M n), .int .i64 (Cal.D n)], .bool true]) ∧ Below w.heap.size w w' := by
  have n1 := btw_iff.1 hd
  obtain ⟨n0, n1⟩ := n1
  unfold dayB at hd
  go_enter Tryd.func28, Tryd.ntmps28
  go_wp2_with (first | (go_at_call 39; refine (inRange_any _ _ _ _).mono ?_; rintro e w' ⟨rfl, rfl⟩) | (go_at_call 47; refine (sDateOf_any _ _ n0 n1).mono ?_; rintro e wx ⟨rfl, hbx⟩; have hb3 : Below (w.heap.size + 1) (w.alloc (.cells #[.int .i64 0, .int .i64 0, .int .i64 0] 28)) wx := (by simpa using hbx); obtain ⟨⟨x0, x1, x2⟩, ⟨z0, z1, z2⟩, hsx⟩ := new3 hb3))
  refine bodyPost_ret (v := .tuple #[.agg #[.int .i64 (Cal.Y n), .int .i64 (Cal.M n), .int .i64 (Cal.D n)], .bool true]) (by simp [results, Tryd.results28, go_sem, x0, x1, x2]) rfl ⟨rfl, ?_⟩
  exact ((((Below.refl _ _).alloc (Nat.le_refl _) _).trans (hb3.mono (by omega))).setCell (by simp) _).setCell (by simp) _ |>.setCell (by simp) _
set_option maxHeartbeats 400000 in
theorem sAddMonths_top (n k : Int) (w : World) :
    Calls Tryd.prog 31 #[.int .i64 n, .int .i64 k] w fun e w' => e = .returned (.int .i64 (addV n k)) ∧ Below w.heap.size w w' := by
  cases hd : dayB n with
  | false =>
    have E := Lib.hid (addV_no1 (k := k) hd)
    unfold dayB at hd
    go_enter Tryd.func31, Tryd.ntmps31
    go_wp2_with (go_at_call 39; refine (inRange_any _ _ _ _).mono ?_; rintro e w' ⟨rfl, rfl⟩)
    go_ret
    exact ⟨ret_int E.out.symm, Below.refl _ _⟩
  | true =>
    have n1 := btw_iff.1 hd
    obtain ⟨n0, n1⟩ := n1
    cases hk : btw k (-600) 600 with
    | false =>
      have E := Lib.hid (addV_no2 (n := n) hk)
      unfold dayB at hd
      go_enter Tryd.func31, Tryd.ntmps31
      go_wp2_with (go_at_call 39; refine (inRange_any _ _ _ _).mono ?_; rintro e w' ⟨rfl, rfl⟩)
      go_ret
      exact ⟨ret_int E.out.symm, Below.refl _ _⟩
    | true =>
      have k1 := btw_iff.1 hk
      obtain ⟨k0, k1⟩ := k1
      unfold dayB at hd
      go_enter Tryd.func31, Tryd.ntmps31
      go_wp2_with (first | (go_at_call 39; refine (inRange_any _ _ _ _).mono ?_; rintro e w' ⟨rfl, rfl⟩) | (go_at_call 48; refine (sAddMonths_yes _ _ _ n0 n1 k0 k1).mono ?_; rintro e wx ⟨rfl, hbx⟩))
      go_ret
      exact ⟨rfl, hbx⟩
end Go.Proofs.YtgjiogdekihhdaaDoor
