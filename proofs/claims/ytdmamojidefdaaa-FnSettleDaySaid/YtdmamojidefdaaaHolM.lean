/- The laws' functions on rows of numbers; draws; the exact laws of business days. -/
import Derived.Test.YtdmamojidefdaaaHolL
import Derived.OwnWalk
namespace Go.Proofs.Ytdmamojidefdaaa
open Go.RowKit
set_option maxHeartbeats 400000 in
/-- A copy of numbers. -/
def Copy (xs : List Int) (w : World) (e : Ending) (w' : World) : Prop := ∃ b cap, e = .returned (.slice (some ⟨b, 0, none⟩) xs.length cap) ∧ Ints w' w'.heap.size (some ⟨b, 0, none⟩) xs ∧ Below w.heap.size w w'
theorem made_ints (n : Nat) : (madeCells (Value.int .i64 0).cells (n * 1)).toList = (List.replicate n (0 : Int)).map (Value.int .i64) := by
  rw [Nat.mul_one]
  show (madeCells #[.int .i64 0] n).toList = _
  rw [toList_madeCells_one]; simp
theorem copy_step {xs : List Int} {k : Nat} (hk : k < xs.length) : (xs.take k ++ List.replicate (xs.length - k) 0).set k (xs.getD k 0) = xs.take (k + 1) ++ List.replicate (xs.length - (k + 1)) 0 := by
  obtain ⟨m, hm⟩ : ∃ m, xs.length - k = m + 1 := ⟨xs.length - k - 1, by omega⟩
  rw [hm, show xs.length - (k + 1) = m by omega, List.replicate_succ, take_snocD hk, List.set_append_right _ _ (by simp; omega)]
  simp [Nat.min_eq_left (Nat.le_of_lt hk)]
set_option maxHeartbeats 800000 in
theorem toIntS_any (w : World) (B : Nat) (a : Option Addr) (cap : Nat) (xs : List Int) (h : Ints w B a xs) (hB : B ≤ w.heap.size) (hl : xs.length ≤ 1048576) :
    Calls Try.prog 10 #[.slice a xs.length cap] w (Copy xs w) := by
  have H := Lib.hid h; clear h
  have hm : (xs.length : Int) ≤ 1048576 := by omega
  obtain ⟨i0, hi, hz0, hz1, hz2⟩ := info_parts infoInt
  go_enter Try.func10, Try.ntmps10
  go_wp2_with (at_make; refine wpList_make_full _ rfl _ _ 23 rfl w.heap.size 3 i0 (.int .i64 0) 1 Try.underlying23 hi hz0 hz1 .i64 .i64 _ _ xs.length rfl rfl rfl rfl (by rw [hz2]; omega) (by unfold maxLen; omega) (by omega) ?_; intro w1 hown hgrow)
  rw [made_ints] at hown
  have hb1 : Below w.heap.size w w1 := (Below.refl _ _).grown hgrow (Nat.le_refl _) (fun j hj => by cases hj)
  have HO := Lib.hid hown; clear hown hgrow
  go_loopw [4] (fun i wr => ∃ k : Nat, k ≤ xs.length ∧ i = .int .i64 k ∧ wr.ownsRow w.heap.size 3 1 (.slice (some ⟨w.heap.size, 0, none⟩) xs.length xs.length) xs.length ((xs.take k ++ List.replicate (xs.length - k) 0).map (Value.int .i64)) ∧ Below w.heap.size w wr) (fun i _ => xs.length - (intOf i).toNat)
  case atStart => exact ⟨0, Nat.zero_le _, rfl, by simpa using HO.out, hb1⟩
  case round =>
    obtain ⟨k, hk, rfl, hown, hb⟩ := hrel
    by_cases hlt : k < xs.length
    · obtain ⟨b, off, rfl, hbb, hc⟩ := H.out (by omega)
      have hck : wr.cell? ⟨b, off + k, none⟩ = some (.int .i64 (xs.getD k 0)) := (hb.cell (p := ⟨b, off + k, none⟩) (by show b < w.heap.size; omega)).trans (hc k hlt)
      clear hc
      obtain ⟨x, hx⟩ : ∃ x, x = xs.getD k 0 := ⟨_, rfl⟩
      rw [← hx] at hck
      have HX := Lib.hid hx; clear hx
      have hdst : ∃ v, wr.cell? ⟨w.heap.size, k, none⟩ = some v := by
        rw [hown.cellAt k (by omega)]
        have : k < ((xs.take k ++ List.replicate (xs.length - k) 0).map (Value.int .i64)).length := by simp; omega
        exact ⟨_, List.getElem?_eq_getElem this⟩
      obtain ⟨v, hdst⟩ := hdst
      have hfr := hown.frozenAt k
      have HS := Lib.hid (hown.stored k (.int .i64 x))
      clear hown
      go_wp2_with fail
      go_roundw
      case rel =>
        refine ⟨k + 1, by omega, by go_num, ?_, hb.setCell (Nat.le_refl _) _⟩
        have := HS.out.1
        rw [← List.map_set, HX.out, copy_step hlt] at this
        rw [HX.out]
        exact this
      case measure => simp [intOf]; omega
    · have HO2 := Lib.hid hown; clear hown
      go_wp2_with fail
      go_ret
      refine ⟨w.heap.size, xs.length, rfl, ?_, hb⟩
      have := HO2.out
      rw [List.take_of_length_le (by omega), show xs.length - k = 0 by omega] at this
      simp only [List.replicate_zero, List.append_nil] at this
      exact (show Own wr w.heap.size _ xs from ⟨this, by simp⟩).ints
set_option maxHeartbeats 800000 in
theorem eqIntS_same (w : World) (B C : Nat) (a c : Option Addr) (cap cap2 : Nat) (xs : List Int) (h : Ints w B a xs) (h2 : Ints w C c xs) (hl : xs.length ≤ 1048576) :
    Calls Try.prog 11 #[.slice a xs.length cap, .slice c xs.length cap2] w fun e w' => e = .returned (.bool true) ∧ ∃ m, w' = w.drewN m := by
  have H := Lib.hid h; clear h
  have H2 := Lib.hid h2; clear h2
  have hm : (xs.length : Int) ≤ 1048576 := by omega
  have hne : ((xs.length : Int) != (xs.length : Int)) = false := by simp
  go_enter Try.func11, Try.ntmps11
  go_wp2_with fail
  go_loopw [5] (fun i wr => ∃ k : Nat, k ≤ xs.length ∧ i = .int .i64 k ∧ ∃ m, wr = w.drewN m) (fun i _ => xs.length - (intOf i).toNat)
  case atStart => exact ⟨0, Nat.zero_le _, rfl, 0, rfl⟩
  case round =>
    obtain ⟨k, hk, rfl, m, rfl⟩ := hrel
    by_cases hlt : k < xs.length
    · obtain ⟨b, off, rfl, _, hc⟩ := H.out (by omega)
      obtain ⟨b2, off2, rfl, _, hc2⟩ := H2.out (by omega)
      have hck := hc k hlt
      have hck2 := hc2 k hlt
      clear hc hc2
      obtain ⟨x, hx⟩ : ∃ x, x = xs.getD k 0 := ⟨_, rfl⟩
      rw [← hx] at hck hck2
      have hx2 : (x != x) = false := by simp
      clear hx
      go_wp2_with fail
      go_quiet (fail)
      go_wp2_with fail
      go_roundw
      case rel => exact ⟨k + 1, by omega, by go_num, _, (by first | exact World.drewN_drewN _ _ _ | rfl)⟩
      case measure => simp [intOf]; omega
    · go_wp2_with fail
      go_ret
      exact ⟨rfl, _, rfl⟩
end Go.Proofs.Ytdmamojidefdaaa
