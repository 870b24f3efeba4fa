/- Holdings: which are valid, and their sum, on both sides. -/
import Derived.Test.YtgkldgljebhcgaaI1
import Derived.Test.YtgkldgljebhcgaaPrM
namespace Go.Proofs.Ytgkldgljebhcgaa
open Go.RowKit
def holdB (n : Int) : Bool := btw n 0 9999
def Ho.ok (xs : List Int) : Bool := btw xs.length 1 8 && xs.all holdB
theorem Ho.parts {xs : List Int} (h : Ho.ok xs = true) : 1 ≤ xs.length ∧ xs.length ≤ 8 ∧ xs.all holdB = true := by
  unfold Ho.ok at h
  rw [Bool.and_eq_true, btw_iff] at h
  exact ⟨by omega, by omega, h.2⟩
theorem Ho.at {xs : List Int} (h : xs.all holdB = true) {i : Nat} (hi : i < xs.length) : 0 ≤ xs.getD i 0 ∧ xs.getD i 0 ≤ 9999 := btw_iff.1 (allB_at 0 h hi)
theorem Ho.mem {xs : List Int} (h : xs.all holdB = true) : ∀ x ∈ xs, 0 ≤ x ∧ x ≤ 9999 := fun x hx => btw_iff.1 (List.all_eq_true.1 h x hx)
theorem Ho.take_bd {xs : List Int} (h : xs.all holdB = true) : ∀ i : Nat, i ≤ xs.length → 0 ≤ (xs.take i).sum ∧ (xs.take i).sum ≤ 9999 * (i : Int)
  | 0, _ => by simp
  | i + 1, hi => by
    have ih := Ho.take_bd h i (by omega)
    have o := Ho.at h (show i < xs.length by omega)
    rw [take_snoc1 (by omega), List.sum_append]
    simp only [List.sum_cons, List.sum_nil]
    omega
theorem Ho.sum_bd {xs : List Int} (h : xs.all holdB = true) (hl : xs.length ≤ 8) : 0 ≤ xs.sum ∧ xs.sum ≤ 79992 := by
  have := Ho.take_bd h xs.length (Nat.le_refl _)
  rw [List.take_length] at this
  omega
set_option maxHeartbeats 400000 in
theorem hold1_any (p : Int) (w : World) : Calls Try.prog 44 #[.int .i64 p] w fun e w' => e = .returned (.bool (holdB p)) ∧ Below w.heap.size w w' := by
  have E := Lib.hid (show holdB p = btw p 0 9999 from rfl)
  go_enter Try.func44, Try.ntmps44
  go_wp2_with fail
  refine (between_any _ _ _ _).mono ?_
  rintro e w' ⟨rfl, rfl⟩
  go_wp2_with fail
  go_ret
  exact ⟨ret_bool E.out.symm, Below.refl _ _⟩
/-- Numbers that can be summed up. -/
def Small (xs : List Int) : Prop := ∀ i, i < xs.length → -1000000000000 ≤ xs.getD i 0 ∧ xs.getD i 0 ≤ 1000000000000
theorem Small.take {xs : List Int} (h : Small xs) : ∀ i : Nat, i ≤ xs.length → -1000000000000 * (i : Int) ≤ (xs.take i).sum ∧ (xs.take i).sum ≤ 1000000000000 * (i : Int)
  | 0, _ => by simp
  | i + 1, hi => by
    have ih := Small.take h i (by omega)
    have o := h i (by omega)
    rw [take_snoc1 (by omega), List.sum_append]
    simp only [List.sum_cons, List.sum_nil]
    omega
set_option maxHeartbeats 800000 in
theorem sumInts_any (w : World) (v : Value) (xs : List Int) (hv : R1o w v xs) (hl : xs.length ≤ 1000) (hx : Small xs) :
    Calls Try.prog 33 #[v] w fun e w' => e = .returned (.int .i64 xs.sum) ∧ w = w' := by
  obtain ⟨⟨a, cap, rfl⟩, h1⟩ := hv
  have H := Lib.hid h1; clear h1
  have HX := Lib.hid hx
  have HS := Lib.hid (Small.take hx)
  clear hx
  have hm : (xs.length : Int) ≤ 1000 := by omega
  go_enter Try.func33, Try.ntmps33
  go_wp2_with fail
  go_loop [3, 8] (fun o y => ∃ k : Nat, k ≤ xs.length ∧ y = .int .i64 k ∧ o = .int .i64 (xs.take k).sum) (fun _ y => xs.length - (intOf y).toNat)
  case atStart => exact ⟨0, Nat.zero_le _, rfl, by simp⟩
  case round =>
    obtain ⟨k, hk, rfl, rfl⟩ := hrel
    obtain ⟨s0, s1⟩ := HS.out k hk
    by_cases hlt : k < xs.length
    · obtain ⟨b, off, c, e, hbb, hc⟩ := H.out (by omega)
      simp only [Value.slice.injEq, true_and] at e
      obtain ⟨rfl, rfl⟩ := e
      have c0 := hc k hlt
      clear hc
      obtain ⟨x0, x1⟩ := HX.out k hlt
      have HT := Lib.hid (show (xs.take (k + 1)).sum = (xs.take k).sum + xs.getD k 0 by rw [take_snoc1 hlt, List.sum_append]; simp)
      generalize xs.getD k 0 = x at c0 x0 x1 HT
      generalize (xs.take k).sum = S at *
      go_wp2_with fail
      go_round
      case rel => exact ⟨k + 1, by omega, by go_num, by rw [HT.out]⟩
      case measure => simp [intOf] <;> omega
    · have E2 : xs.take k = xs := List.take_of_length_le (by omega)
      rw [E2]
      clear E2
      go_wp2_with fail
      go_ret
      exact ⟨rfl, rfl⟩
end Go.Proofs.Ytgkldgljebhcgaa
