/- Whether a number is in a list, in the program. -/
import Derived.Test.YtmamnljgkkjkcaaMnX
namespace Go.Proofs.Ytmamnljgkkjkcaa
open Go Go.RowKit
theorem idxM_any (w : World) (v : Value) (xs : List Int) (z : Int) (hv : R1o w v xs) (hl : xs.length ≤ 100) :
    Calls Try.prog 97 #[v, .int .i64 z] w fun e w' => ∃ q : Int, e = .returned (.int .i64 q) ∧ (q ≥ 0 ↔ z ∈ xs) ∧ w = w' := by
  have HX := Lib.hid hv
  obtain ⟨⟨a, c, rfl⟩, -⟩ := hv
  go_enter Try.func97, Try.ntmps97
  go_wp2_with fail
  have HL := Lib.hid hl
  go_loopw [8] (fun x wl => ∃ k : Nat, k ≤ xs.length ∧ x = .int .i64 k ∧ Hid (z ∉ xs.take k) ∧ Hid (w = wl)) (fun x _ => xs.length - (intOf x).toNat)
  case atStart => exact ⟨0, Nat.zero_le _, rfl, Lib.hid (by simp), Lib.hid rfl⟩
  case round =>
    obtain ⟨k, hk, rfl, HN, HW⟩ := hrel
    obtain rfl := HW.out
    by_cases hlt : k < xs.length
    · obtain ⟨b, off, c', e, hbl, hc⟩ := HX.out.2 (by omega)
      simp only [Value.slice.injEq, true_and] at e
      obtain ⟨rfl, rfl⟩ := e
      have c0 := hc k hlt
      clear hc
      have hi0 : (0 : Int) ≤ k := by omega
      have hi1 : (k : Int) < xs.length := by omega
      have ht : xs.take (k + 1) = xs.take k ++ [xs.getD k 0] := by
        rw [List.take_add_one, List.getElem?_eq_getElem hlt, List.getD_eq_getElem?_getD, List.getElem?_eq_getElem hlt]; rfl
      have hmem : xs.getD k 0 ∈ xs := by
        rw [List.getD_eq_getElem?_getD, List.getElem?_eq_getElem hlt]
        exact List.getElem_mem hlt
      generalize xs.getD k 0 = y at c0 ht hmem
      by_cases hz : z = y
      · subst hz
        have hd : (z == z) = true := by simp
        have HM := Lib.hid hmem
        clear ht hmem
        go_wp2_with fail
        go_ret
        exact ⟨k, rfl, ⟨fun _ => HM.out, fun _ => hi0⟩, rfl⟩
      · have hd : (z == y) = false := by simpa using hz
        have HT := Lib.hid ht
        clear ht hmem
        go_wp2_with fail
        go_roundw
        case rel => exact ⟨k + 1, hlt, by go_num, Lib.hid (by rw [HT.out]; intro h; rcases List.mem_append.1 h with h | h; exact HN.out h; exact hz (by simpa using h)), (by first | exact Lib.hid rfl | exact Lib.hid trivial)⟩
        case measure => simp [intOf] <;> omega
    · obtain rfl : k = xs.length := by omega
      go_wp2_with fail
      go_ret
      have h := HN.out
      rw [List.take_length] at h
      exact ⟨-1, rfl, ⟨fun h0 => by omega, fun h1 => absurd h1 h⟩, rfl⟩
theorem contM_any (w : World) (v : Value) (xs : List Int) (z : Int) (hv : R1o w v xs) (hl : xs.length ≤ 100) :
    Calls Try.prog 73 #[v, .int .i64 z] w fun e w' => e = .returned (.bool (decide (z ∈ xs))) ∧ w = w' := by
  have HX := Lib.hid (idxM_any w v xs z hv hl)
  obtain ⟨⟨a, c, rfl⟩, -⟩ := hv
  go_enter Try.func73, Try.ntmps73
  go_wp2_with fail
  refine HX.out.mono ?_
  rintro e w1 ⟨q, rfl, hq, rfl⟩
  have HQ := Lib.hid (show decide (q ≥ 0) = decide (z ∈ xs) from decide_eq_decide.2 hq)
  go_wp2_with fail
  go_ret
  first | exact ⟨rfl, rfl⟩ | exact ⟨ret_bool HQ.out, rfl⟩
end Go.Proofs.Ytmamnljgkkjkcaa
