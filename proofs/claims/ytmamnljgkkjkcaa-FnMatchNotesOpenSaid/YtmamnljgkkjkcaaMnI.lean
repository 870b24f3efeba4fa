/- Whether a number is in a list, in the model. -/
import Derived.Test.YtmamnljgkkjkcaaMnZ
namespace Go.Proofs.Ytmamnljgkkjkcaa
open Go Go.RowKit
theorem isIn_any (w : World) (v : Value) (xs : List Int) (z : Int) (hv : R1o w v xs) (hl : xs.length ≤ 100) :
    Calls Try.prog 74 #[v, .int .i64 z] w fun e w' => e = .returned (.bool (decide (z ∈ xs))) ∧ w = w' := by
  have HX := Lib.hid hv
  obtain ⟨⟨a, c, rfl⟩, -⟩ := hv
  go_enter Try.func74, Try.ntmps74
  go_wp2_with fail
  have HL := Lib.hid hl
  go_loopw [5] (fun x wl => ∃ k : Nat, k ≤ xs.length ∧ x = .int .i64 k ∧ Hid (z ∉ xs.take k) ∧ Hid (w = wl)) (fun x _ => xs.length - (intOf x).toNat)
  case atStart => exact ⟨0, Nat.zero_le _, rfl, Lib.hid (by simp), Lib.hid rfl⟩
  case round =>
    obtain ⟨k, hk, rfl, HN, HW⟩ := hrel
    obtain rfl := HW.out
    by_cases hlt : k < xs.length
    · obtain ⟨b, off, c', e, hbl, hc⟩ := HX.out.2 (by omega)
      simp only [Value.slice.injEq, true_and] at e
      obtain ⟨rfl, rfl⟩ := e
      have c0 := hc k hlt
      clear hc
      have hi0 : (0 : Int) ≤ k := by omega
      have hi1 : (k : Int) < xs.length := by omega
      have ht : xs.take (k + 1) = xs.take k ++ [xs.getD k 0] := by
        rw [List.take_add_one, List.getElem?_eq_getElem hlt, List.getD_eq_getElem?_getD, List.getElem?_eq_getElem hlt]; rfl
      have hmem : xs.getD k 0 ∈ xs := by
        rw [List.getD_eq_getElem?_getD, List.getElem?_eq_getElem hlt]
        exact List.getElem_mem hlt
      generalize xs.getD k 0 = y at c0 ht hmem
      by_cases hz : z = y
      · subst hz
        have hd : (z == z) = true := by simp
        have HM := Lib.hid hmem
        clear ht hmem
        go_wp2_with fail
        go_ret
        exact ⟨ret_bool (decide_eq_true HM.out).symm, rfl⟩
      · have hd : (y == z) = false := by simpa using fun h : y = z => hz h.symm
        have HT := Lib.hid ht
        clear ht hmem
        go_wp2_with fail
        go_roundw
        case rel => exact ⟨k + 1, hlt, by go_num, Lib.hid (by rw [HT.out]; intro h; rcases List.mem_append.1 h with h | h; exact HN.out h; exact hz (by simpa using h)), (by first | exact Lib.hid rfl | exact Lib.hid trivial)⟩
        case measure => simp [intOf] <;> omega
    · obtain rfl : k = xs.length := by omega
      go_wp2_with fail
      go_ret
      have h := HN.out
      rw [List.take_length] at h
      exact ⟨ret_bool (decide_eq_false h).symm, rfl⟩
theorem distM_any (n : Int) (w : World) (h0 : -1000000000 ≤ n) (h1 : n ≤ 1000000000) : Calls Try.prog 56 #[.int .i64 n] w fun e w' => e = .returned (.int .i64 (Mn.ab n)) ∧ w = w' := by
  unfold Mn.ab
  by_cases h : n < 0
  · rw [if_pos h]
    have h' := decide_eq_true h
    have W1 : IntKind.i64.wrap (-n) = -n := IntWalk.i64_in _ (by omega)
    go_enter Try.func56, Try.ntmps56
    go_wp2_with fail
    go_ret
    exact ⟨rfl, rfl⟩
  · rw [if_neg h]
    have h' := decide_eq_false h
    go_enter Try.func56, Try.ntmps56
    go_wp2_with fail
    go_ret
    exact ⟨rfl, rfl⟩
end Go.Proofs.Ytmamnljgkkjkcaa
