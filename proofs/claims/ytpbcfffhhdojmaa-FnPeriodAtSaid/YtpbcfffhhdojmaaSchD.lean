/- Draws of schedules; comparing schedules. -/
import Derived.Test.YtpbcfffhhdojmaaSchT
namespace Go.Proofs.Ytpbcfffhhdojmaa
open Go.RowKit
theorem isRow_below' {k : IntKind} {w w' : World} {a : Option Addr} {len cap : Nat} {zs : List Int} (h : IsRow k w a len cap zs) (hb : Below w.heap.size w w') : IsRow k w' a len cap zs := by
  rcases h with h | ⟨x, e, h1, h2, h3, h4, h5⟩
  · exact .inl h
  · exact .inr ⟨x, e, h1, h2, h3, fun i hi => (hb.cell (p := x.add i) (World.block_lt_of_cell? w _ (h4 i hi))).trans (h4 i hi), h5⟩
/-- Three numbers drawn. -/
def DSc (w : World) (x : Ending) (w' : World) : Prop :=
  ∃ s e m : Int, x = .returned (.tuple #[.int .i64 s, .int .i64 e, .int .i64 m]) ∧ (-1 ≤ s ∧ s ≤ 36525) ∧ (-2 ≤ e ∧ e ≤ 60000) ∧ (0 ≤ m ∧ m ≤ 12) ∧ Below w.heap.size w w'
set_option maxHeartbeats 400000 in
theorem anyMonths_any (w : World) (g p : Nat) (h : Rdr w g p) (hp : p ≤ 900000) :
    Calls Try.prog 21 #[.pointer (some ⟨g, 0, none⟩)] w (Drawn 0 12 1 w g p) := by
  have hgl := h.lt
  go_enter Try.func21, Try.ntmps21
  go_wp2_with fail
  refine (one_any 0 12 _ g p w.heap.size _ _ (h.alloc _) (by omega) (heap_alloc_new w _) (by omega) (by decide) (by decide) (by decide) 8 8 (by rfl)).mono ?_
  rintro e w2 ⟨v, rfl, hv, hr2, hg2⟩
  go_wp2_with fail
  go_ret
  exact ⟨v, rfl, hv, hr2, grown_trans (grown_alloc (grown_refl _ _) _) hg2⟩
set_option maxHeartbeats 1000000 in
theorem drawSch_any (w : World) (a : Option Addr) (len cap : Nat) (zs : List Int) (h : IsRow .u8 w a len cap zs) :
    Calls Try.prog 12 #[.slice a len cap] w (DSc w) := by
  have H := Lib.hid h; clear h
  go_enter Try.func12, Try.ntmps12
  go_wp2_with fail
  refine (newReader_any _ _ _ _ _ H.out).mono ?_
  rintro x w1 ⟨g, rfl, hg, hr, hb⟩
  go_wp2_with fail
  refine (anyDay_any _ _ _ hr (by omega)).mono ?_
  rintro x w2 ⟨s, rfl, ⟨s0, s1⟩, hr2, hk2⟩
  go_wp2_with fail
  refine (anyMonths_any _ _ _ hr2 (by omega)).mono ?_
  rintro x w3 ⟨m, rfl, hm, hr3, hk3⟩
  go_wp2_with fail
  refine (one_any 0 20000 _ g _ w3.heap.size _ _ (hr3.alloc _) (by omega) (heap_alloc_new w3 _) (by have := hr3.lt; omega) (by decide) (by decide) (by decide) 9 9 (by rfl)).mono ?_
  rintro x w4 ⟨d, rfl, ⟨d0, d1⟩, hr4, hk4⟩
  have hG := grown_trans (grown_trans hk2 hk3) (grown_trans (grown_alloc (grown_refl _ _) _) hk4)
  go_wp2_with fail
  refine (pick_any _ _ _ _ hr4 (by omega) (by omega) (by omega)).mono ?_
  rintro x w5 ⟨v, rfl, ⟨hv, _⟩, hr5, hg5⟩
  obtain ⟨v0, v1⟩ := hv (by omega)
  have hG5 := grown_trans hG hg5
  by_cases c0 : v = 0
  · subst c0
    cases c1 : btw s 0 36524 with
    | false =>
      have C1 := Lib.hid (inRC' c1)
      clear c1
      go_wp2_with fail
      refine (C1.out _).mono ?_
      rintro x w6 ⟨rfl, rfl⟩
      go_wp2_with fail
      go_ret3
      exact ⟨s, s + d, m, rfl, by omega, by omega, hm, below_grown hb hG5 hg⟩
    | true =>
      have C1 := Lib.hid (inRC' c1)
      obtain ⟨s2, s3⟩ := btw_iff.1 c1
      clear c1
      go_wp2_with fail
      refine (C1.out _).mono ?_
      rintro x w6 ⟨rfl, rfl⟩
      go_wp2_with fail
      refine (pick_any _ _ _ _ hr5 (by omega) (by omega) (by omega)).mono ?_
      rintro x w6 ⟨u, rfl, ⟨hu, _⟩, hr6, hg6⟩
      obtain ⟨u0, u1⟩ := hu (by omega)
      have hG6 := grown_trans hG5 hg6
      go_wp2_with fail
      refine (sAddMonths_yes _ _ _ s2 s3 (by omega) (by omega)).mono ?_
      rintro x w7 ⟨rfl, hb7⟩
      have hA := addV_bd s (12 * (1 + u))
      go_wp2_with fail
      go_ret3
      exact ⟨s, addV s (12 * (1 + u)), m, rfl, by omega, by omega, hm, below_grown hb (grown_trans hG6 (grown_below hb7)) hg⟩
  · have c1 : (v == 0) = false := by simp [c0]
    go_wp2_with fail
    go_ret3
    exact ⟨s, s + d, m, rfl, by omega, by omega, hm, below_grown hb hG5 hg⟩
namespace Sc
theorem sch_pos {s e m : Int} (h : sch s e m ≠ []) : okB s e m = true ∧ N s e m ≤ 40 ∧ sch s e m = all s e m := by
  unfold sch at h ⊢
  by_cases c : okB s e m = true ∧ N s e m ≤ 40
  · exact ⟨c.1, c.2, if_pos c⟩
  · rw [if_neg c] at h; exact absurd rfl h
/-- What is known of the periods of a schedule. -/
theorem all_facts {s e m : Int} (h : okB s e m = true) (hn : N s e m ≤ 40) {i : Nat} (hi : i < N s e m) :
    ∃ f t : Int, ∃ b : Bool, (all s e m).getD i (0, 0, false) = (f, t, b) ∧ f < t ∧ (-1 ≤ f ∧ f ≤ 36524) ∧ (-1 ≤ t ∧ t ≤ 36524) ∧ t = S e m (N s e m - 1 - i) ∧ (i = 0 → f = s) ∧ (i + 1 = N s e m → t = e) ∧
      (0 < i → b = true ∧ f = ((all s e m).getD (i - 1) (0, 0, false)).2.1) := by
  have k := isN h
  obtain ⟨⟨s0, se, e1⟩, hm⟩ := okB_iff.1 h
  obtain ⟨m0, m1⟩ := mon_bd hm
  rw [all_get hi]
  have g1 := k.gt (N s e m - i - 1) (by omega)
  have hlt := S_lt (e := e) (m := m) (j := N s e m - i - 1) (k := N s e m - i) m0 (by omega) (by omega) (by have := km_bd hm (k := N s e m - i - 1) (by omega); omega)
  have b1 := S_bd e m (N s e m - i)
  have b2 := S_bd e m (N s e m - i - 1)
  refine ⟨max (S e m (N s e m - i)) s, S e m (N s e m - i - 1), decide (s ≤ S e m (N s e m - i)), rfl, by omega, by omega, b2, by rw [show N s e m - 1 - i = N s e m - i - 1 by omega], fun hz => ?_, fun hz => ?_, fun hz => ?_⟩
  · subst hz
    have := k.le (by omega)
    rw [show N s e m - 0 = N s e m from rfl]; omega
  · rw [show N s e m - i - 1 = 0 by omega, S_zero (by omega) e1]
  · have g2 := k.gt (N s e m - i) (by omega)
    rw [all_get (show i - 1 < N s e m by omega)]
    refine ⟨decide_eq_true (by omega), ?_⟩
    show max (S e m (N s e m - i)) s = S e m (N s e m - (i - 1) - 1)
    rw [show N s e m - (i - 1) - 1 = N s e m - i by omega]; omega
end Sc
end Go.Proofs.Ytpbcfffhhdojmaa
