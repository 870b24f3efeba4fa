/- The laws of business days over drawn inputs. -/
import Derived.Test.YtdmamojidefdaaaHolX
namespace Go.Proofs.Ytdmamojidefdaaa
open Go.RowKit
/-- Holidays and a day. -/
def DHol1 (w : World) (e : Ending) (w' : World) : Prop :=
  ∃ a cap xs, ∃ n : Int, e = .returned (.tuple #[.slice a xs.length cap, .int .i64 n]) ∧ Ints w' w'.heap.size a xs ∧ xs.length ≤ 100 ∧ (xs.length ≤ cap ∧ cap ≤ maxLen) ∧ (-1 ≤ n ∧ n ≤ 36525) ∧ Below w.heap.size w w'
/-- Holidays and two numbers. -/
def DHol2 (w : World) (e : Ending) (w' : World) : Prop :=
  ∃ a cap xs, ∃ n m : Int, e = .returned (.tuple #[.slice a xs.length cap, .int .i64 n, .int .i64 m]) ∧ Ints w' w'.heap.size a xs ∧ xs.length ≤ 100 ∧ (-2 ≤ n ∧ n ≤ 50000) ∧ (-10 ≤ m ∧ m ≤ 50000) ∧ Below w.heap.size w w'
set_option maxHeartbeats 400000 in
theorem drawAddB_any (w : World) (a : Option Addr) (len cap : Nat) (zs : List Int) (h : IsRow .u8 w a len cap zs) :
    Calls Try.prog 12 #[.slice a len cap] w (DHol2 w) := by
  have H := Lib.hid h; clear h
  go_enter Try.func12, Try.ntmps12
  go_wp2_with fail
  refine (newReader_any _ _ _ _ _ H.out).mono ?_
  rintro e w1 ⟨g, rfl, hg, hr, hb⟩
  go_wp2_with fail
  refine (anyDay_any _ _ _ hr (by omega)).mono ?_
  rintro e w2 ⟨n, rfl, hn, hr2, hk⟩
  go_wp2_with fail
  refine (anyHol_any _ _ _ _ hr2 (by omega) (by omega) (by omega)).mono ?_
  rintro e w3 ⟨a3, c3, xs, rfl, hi, hl, hc, hr3, hk3⟩
  have HI := Lib.hid hi; clear hi hc
  go_wp2_with fail
  refine (one_any (-1) 31 _ g _ w3.heap.size _ _ (hr3.alloc _) (by omega) (heap_alloc_new w3 _) (by have := hr3.lt; omega) (by decide) (by decide) (by decide) 8 8 (by rfl)).mono ?_
  rintro e w4 ⟨m, rfl, hm, hr4, hk4⟩
  have HI4 := Lib.hid ((HI.out.alloc _).kept hk4)
  go_wp2_with fail
  go_ret3
  exact ⟨a3, c3, xs, n, m, rfl, HI4.out.ints, hl, by omega, by omega, below_grown hb (grown_trans (grown_trans hk hk3) (grown_trans (grown_alloc (grown_refl _ _) _) hk4)) hg⟩
theorem ints_nil (w : World) : Ints w w.heap.size none [] := fun h => by simp at h
theorem isBizV_nil {n : Int} (h0 : 0 ≤ n) (h1 : n ≤ 36524) : isBizV [] n = decide (n % 7 < 5) := by rw [isBizV_t Biz.hol_nil (btw_t h0 h1), Biz.biz_nil_iff]
theorem isBizV_parts {xs : List Int} {n : Int} (h : isBizV xs n = true) : Biz.holB xs = true ∧ (0 ≤ n ∧ n ≤ 36524) ∧ Biz.biz xs n = true := by
  unfold isBizV at h
  simp at h
  exact ⟨h.1, btw_iff.1 h.2.1, h.2.2⟩
end Go.Proofs.Ytdmamojidefdaaa
