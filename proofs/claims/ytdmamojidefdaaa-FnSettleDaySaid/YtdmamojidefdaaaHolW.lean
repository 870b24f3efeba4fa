/- Days in ascending order, for lists of holidays. -/
import Derived.Test.YtdmamojidefdaaaAvHDay
namespace Go.Proofs.Ytdmamojidefdaaa
open Go.RowKit
theorem belowH {B : Nat} {a w : World} (h : Below B a w) (n : Nat) : Below B a (w.drewN n) := ⟨h.os, h.tape, h.output, h.size, h.block⟩
def Ed.asc (es : List Int) : Bool := (List.range (es.length - 1)).all fun i => decide (es.getD i 0 < es.getD (i + 1) 0)
theorem Ed.asc_iff {es : List Int} : Ed.asc es = true ↔ ∀ i, i + 1 < es.length → es.getD i 0 < es.getD (i + 1) 0 := by
  unfold Ed.asc
  rw [List.all_eq_true]
  constructor
  · intro h i hi
    exact of_decide_eq_true (h i (List.mem_range.2 (by omega)))
  · intro h i hi
    exact decide_eq_true (h i (by have := List.mem_range.1 hi; omega))
theorem Ed.asc_bad {es : List Int} {i : Nat} (hi : i + 1 < es.length) (h : es.getD (i + 1) 0 ≤ es.getD i 0) : Ed.asc es = false := by
  cases e : Ed.asc es with
  | false => rfl
  | true => have := Ed.asc_iff.1 e i hi; omega
set_option maxHeartbeats 1000000 in
theorem asc_any (w : World) (v : Value) (es : List Int) (most : Int) (hv : R1o w v es) (hm : es.length ≤ 9223372036854775806) :
    Calls Try.prog 26 #[v, .int .i64 most] w fun x w' => x = .returned (.bool (btw es.length 0 most && (es.all hdayB && Ed.asc es))) ∧ Below w.heap.size w w' := by
  have HX := Lib.hid (av_HDay w v es 0 most hv (by omega))
  have HV := Lib.hid hv
  obtain ⟨⟨a, c, rfl⟩, -⟩ := hv
  cases h0 : btw es.length 0 most && es.all hdayB with
  | false =>
    have E := Lib.hid (show (btw es.length 0 most && (es.all hdayB && Ed.asc es)) = false by rw [← Bool.and_assoc, h0]; rfl)
    go_enter Try.func26, Try.ntmps26
    go_wp2_with fail
    refine HX.out.mono ?_
    rintro e w1 ⟨rfl, hb1⟩
    rw [h0]
    go_wp2_with fail
    go_ret
    exact ⟨ret_bool E.out.symm, hb1⟩
  | true =>
    have E := Lib.hid (show (btw es.length 0 most && (es.all hdayB && Ed.asc es)) = Ed.asc es by rw [← Bool.and_assoc, h0]; rfl)
    go_enter Try.func26, Try.ntmps26
    go_wp2_with fail
    refine HX.out.mono ?_
    rintro e w1 ⟨rfl, hb1⟩
    rw [h0]
    have HV1 := Lib.hid (HV.out.below hb1 (Nat.le_refl _))
    have HB1 := Lib.hid hb1
    clear h0 hb1 HX
    go_wp2_with fail
    go_loopw [5] (fun x wr => ∃ k : Nat, k ≤ es.length ∧ x = .int .i64 ((k : Int) + 1) ∧ Hid (∀ j, j < k → j + 1 < es.length → es.getD j 0 < es.getD (j + 1) 0) ∧ ∃ m, wr = w1.drewN m) (fun x _ => es.length + 1 - (intOf x).toNat)
    case atStart => exact ⟨0, Nat.zero_le _, by go_num, Lib.hid (fun j hj => by omega), 0, rfl⟩
    case round =>
      obtain ⟨k, hk, rfl, HH, m, rfl⟩ := hrel
      by_cases hlt : k + 1 < es.length
      · obtain ⟨b, off, d', e, hbl, hc⟩ := HV1.out.2 (by omega)
        simp only [Value.slice.injEq, true_and] at e
        obtain ⟨rfl, rfl⟩ := e
        have c0 := hc k (by omega)
        have c1 := hc (k + 1) hlt
        clear hc
        have hlt1 : (k : Int) + 1 < es.length := by omega
        have hlt2 : (k : Int) < es.length := by omega
        have HB := Lib.hid (fun (h : es.getD (k + 1) 0 ≤ es.getD k 0) => Ed.asc_bad hlt h)
        have HG : Hid (es.getD k 0 < es.getD (k + 1) 0 → ∀ j, j < k + 1 → j + 1 < es.length → es.getD j 0 < es.getD (j + 1) 0) := Lib.hid (fun h j hj hj2 => by
          rcases Nat.lt_or_ge j k with q | q
          · exact HH.out j q hj2
          · obtain rfl : j = k := by omega
            exact h)
        generalize es.getD k 0 = x at c0 HB HG
        generalize es.getD (k + 1) 0 = y at c1 HB HG
        clear hlt
        by_cases hle : y ≤ x
        · have E2 := Lib.hid (HB.out hle)
          go_wp2_with fail
          go_quiet (fail)
          go_wp2_with fail
          go_ret
          exact ⟨ret_bool (by rw [E.out, E2.out]), belowH (belowH HB1.out _) _⟩
        · have E2 := Lib.hid (HG.out (by omega))
          go_wp2_with fail
          go_quiet (fail)
          go_wp2_with fail
          go_roundw
          case rel => exact ⟨k + 1, by omega, by go_num, E2, _, (by first | exact World.drewN_drewN _ _ _ | rfl)⟩
          case measure => simp [intOf]; omega
      · have HF := Lib.hid (show Ed.asc es = true from Ed.asc_iff.2 fun j hj => HH.out j (by omega) hj)
        have hlt1 : ¬ (k : Int) + 1 < es.length := by omega
        go_wp2_with fail
        go_ret
        exact ⟨ret_bool (by rw [E.out, HF.out]), belowH HB1.out _⟩
theorem Ed.hol (xs : List Int) : (btw xs.length 0 12 && (xs.all hdayB && Ed.asc xs)) = Biz.holB xs := by
  cases h : Biz.holB xs with
  | true =>
    have hh := Biz.holB_iff.1 h
    rw [btw_t (by omega) (by have := hh.1; omega), Ed.asc_iff.2 hh.2.1, Bool.and_true, Bool.true_and]
    exact allB_take hdayB 0 (i := xs.length) (fun j hj => btw_iff.2 (hh.2.2 j hj)) rfl
  | false =>
    cases e : (btw xs.length 0 12 && (xs.all hdayB && Ed.asc xs)) with
    | false => rfl
    | true =>
      rw [Bool.and_eq_true, Bool.and_eq_true, btw_iff] at e
      have := Biz.holB_iff.2 ⟨by omega, Ed.asc_iff.1 e.2.2, fun i hi => btw_iff.1 (allB_at 0 e.2.1 hi)⟩
      rw [h] at this; cases this
end Go.Proofs.Ytdmamojidefdaaa
