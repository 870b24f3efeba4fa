/- Bids sorted from the smallest yield on: the sort of the library at few elements. -/
import Derived.Test.YtgiejiiiokdbpaaSrB
namespace Go.Proofs.Ytgiejiiiokdbpaa
open Go.RowKit
set_option maxRecDepth 20000 in
set_option maxHeartbeats 2000000 in
theorem len64_any (n : Nat) (h : n ≤ 8) (w : World) : Calls Try.prog 117 #[.int .u64 n] w fun e w' => (∃ k : Int, e = .returned (.int .i64 k)) ∧ w = w' := by
  have key : n = 0 ∨ n = 1 ∨ n = 2 ∨ n = 3 ∨ n = 4 ∨ n = 5 ∨ n = 6 ∨ n = 7 ∨ n = 8 := by omega
  rcases key with rfl | rfl | rfl | rfl | rfl | rfl | rfl | rfl | rfl
  all_goals
    go_enter Try.func117, Try.ntmps117
    go_wp2_with fail
    go_ret
    exact ⟨⟨_, rfl⟩, rfl⟩
set_option maxHeartbeats 800000 in
theorem len_any (n : Nat) (h : n ≤ 8) (w : World) : Calls Try.prog 106 #[.int .u64 n] w fun e w' => (∃ k : Int, e = .returned (.int .i64 k)) ∧ w = w' := by
  have HL := Lib.hid (len64_any n h w)
  go_enter Try.func106, Try.ntmps106
  go_wp2_with fail
  refine HL.out.mono ?_
  rintro e w1 ⟨⟨k, rfl⟩, rfl⟩
  go_wp2_with fail
  go_ret
  exact ⟨⟨_, rfl⟩, rfl⟩
set_option maxHeartbeats 2000000 in
theorem pdqB_any (w : World) (B ob oc : Nat) (lim : Int) (xs : List Pr) (hrow : TRow2 42 w B (.slice (some ⟨ob, 0, none⟩) xs.length oc) xs) (l0 : 1 ≤ xs.length) (l1 : xs.length ≤ 12) :
    Calls Try.prog 105 #[.slice (some ⟨ob, 0, none⟩) xs.length oc, .int .i64 0, .int .i64 xs.length, .int .i64 lim, .func (.func 92) #[] #[]] w (SbPost w B ob xs.length oc (Bs.srt xs (xs.length - 1))) := by
  have HI := Lib.hid (insB_any w B ob oc xs hrow l0 (by omega))
  clear hrow
  generalize Bs.srt xs (xs.length - 1) = out at HI ⊢
  generalize xs.length = n at *
  have h1 : (n : Int) ≤ 12 := by omega
  go_enter Try.func105, Try.ntmps105
  go_wp2_with fail
  refine wp_loop_rounds 1 ?_
  rw [rounds_succ]
  go_wp2_with fail
  refine HI.out.mono ?_
  rintro e w1 ⟨rfl, hF, hg⟩
  go_wp2_with fail
  go_end0
  exact ⟨rfl, hF, hg⟩
set_option maxHeartbeats 800000 in
theorem sortB_any (w : World) (B ob oc : Nat) (xs : List Pr) (hrow : TRow2 42 w B (.slice (some ⟨ob, 0, none⟩) xs.length oc) xs) (l0 : 1 ≤ xs.length) (l1 : xs.length ≤ 8) :
    Calls Try.prog 100 #[.slice (some ⟨ob, 0, none⟩) xs.length oc, .func (.func 92) #[] #[]] w (SbPost w B ob xs.length oc (Bs.srt xs (xs.length - 1))) := by
  have HI := Lib.hid (fun lim => pdqB_any w B ob oc lim xs hrow l0 (by omega))
  clear hrow
  generalize Bs.srt xs (xs.length - 1) = out at HI ⊢
  generalize xs.length = n at *
  have HL := Lib.hid (len_any n l1 w)
  go_enter Try.func100, Try.ntmps100
  go_wp2_with fail
  refine HL.out.mono ?_
  rintro e w1 ⟨⟨k, rfl⟩, rfl⟩
  go_wp2_with fail
  refine (HI.out k).mono ?_
  rintro e w1 ⟨rfl, hF, hg⟩
  go_wp2_with fail
  go_end0
  exact ⟨rfl, hF, hg⟩
end Go.Proofs.Ytgiejiiiokdbpaa
