/- The walks of the model's functions of ratios. -/
import Derived.Test.YtejhicnejjiaaaaRw6
namespace Go.Proofs.Ytejhicnejjiaaaa
open Go.RowKit
set_option maxHeartbeats 400000 in
theorem distance_any (a : Int) (w : World) (h0 : -100000000000000 ≤ a) (h1 : a ≤ 100000000000000) :
    Calls Try.prog 52 #[.int .i64 a] w fun e w' => e = .returned (.int .i64 (a.natAbs : Int)) ∧ w = w' := by
  by_cases hn : a < 0
  · have HE := Lib.hid (show -a = (a.natAbs : Int) by omega)
    go_enter Try.func52, Try.ntmps52
    go_wp2_with fail
    go_ret
    exact ⟨ret_int HE.out, rfl⟩
  · have HE := Lib.hid (show a = (a.natAbs : Int) by omega)
    have hn' := decide_eq_false hn
    go_enter Try.func52, Try.ntmps52
    go_wp2_with fail
    go_ret
    exact ⟨ret_int HE.out, rfl⟩
theorem g_natAbs (a b : Int) : Rt.g (a.natAbs : Int) b = Rt.g a b := by
  rcases Int.natAbs_eq a with h | h
  · rw [← h]
  · have : (a.natAbs : Int) = -a := by omega
    rw [this, Rt.g_neg]
theorem divisor_abs (a b : Int) (w : World) (h0 : -100000000000000 ≤ a) (h1 : a ≤ 100000000000000) (hb : 0 ≤ b) (hb2 : b ≤ 100000000000000) :
    Calls Try.prog 51 #[.int .i64 (a.natAbs : Int), .int .i64 b] w fun e w' => e = .returned (.int .i64 (Rt.g a b)) ∧ w = w' := by
  have := divisor_any (a.natAbs : Int) b w (by omega) (by omega) hb hb2
  rw [g_natAbs] at this
  exact this
set_option maxHeartbeats 400000 in
theorem sLowest_any (n d : Int) (w : World) (hd : 1 ≤ d) (h0 : -10000000000000 ≤ n) (h1 : n ≤ 10000000000000) (h2 : d ≤ 10000000000000) :
    Calls Try.prog 38 #[.int .i64 n, .int .i64 d] w fun e w' => e = .returned (.agg #[.int .i64 (Rt.ln n d), .int .i64 (Rt.ld n d)]) ∧ Below w.heap.size w w' := by
  obtain ⟨⟨a0, a1⟩, ⟨b0, b1⟩, ⟨c0, c1⟩⟩ := q_bd hd h0 h1 h2
  have e1 := Rt.ln_tdiv n d
  have e2 : d / Rt.g n d = Rt.ld n d := rfl
  have e3 : d.tdiv (Rt.g n d) = Rt.ld n d := by rw [Int.tdiv_eq_ediv_of_nonneg (by omega)]; rfl
  have cd : ∀ W : World, Calls Try.prog 51 #[.int .i64 (n.natAbs : Int), .int .i64 d] W fun e w' => e = .returned (.int .i64 (Rt.g n d)) ∧ W = w' := fun W => divisor_abs n d W (by omega) (by omega) (by omega) (by omega)
  generalize Rt.g n d = g at *
  generalize Rt.ln n d = p at *
  generalize Rt.ld n d = q at *
  have CD := Lib.hid cd
  clear cd
  have f1 : IntKind.i64.wrap p = p := IntWalk.i64_in _ (by omega)
  have f2 : IntKind.i64.wrap q = q := IntWalk.i64_in _ (by omega)
  have f3 : (g == 0) = false := by simp; omega
  go_enter Try.func38, Try.ntmps38
  go_wp2_with (first | (go_at_call 52; refine (distance_any _ _ (by omega) (by omega)).mono ?_; rintro e w2 ⟨rfl, rfl⟩) | (go_at_call 51; refine (CD.out _).mono ?_; rintro e w2 ⟨rfl, rfl⟩))
  go_region
  all_goals go_wp2_with fail
  all_goals
    refine bodyPost_ret (v := .agg #[.int .i64 p, .int .i64 q]) (by simp [results, Try.results38, go_sem]) rfl ⟨rfl, ?_⟩
    exact ((Below.refl _ _).alloc (Nat.le_refl _) _).drew
set_option maxHeartbeats 400000 in
theorem sValid_any (n d : Int) (w : World) :
    Calls Try.prog 42 #[.agg #[.int .i64 n, .int .i64 d]] w fun e w' => e = .returned (.bool (vrB n d)) ∧ Below w.heap.size w w' := by
  cases h1 : btw d 1 2000000 with
  | false =>
    have E := Lib.hid (show vrB n d = false by unfold vrB termsB; rw [h1]; simp)
    have c1 : ∀ W : World, Calls Try.prog 37 #[.int .i64 d, .int .i64 1, .int .i64 2000000] W fun e w' => e = .returned (.bool false) ∧ W = w' := fun W => by
      have := inRange_any d 1 2000000 W; rw [h1] at this; exact this
    have C1 := Lib.hid c1
    clear c1 h1
    go_enter Try.func42, Try.ntmps42
    go_wp2_with fail
    go_quiet ((go_at_call 37; exact quiet_left (C1.out _)))
    go_wp2_with fail
    go_ret
    exact ⟨ret_bool E.out.symm, below_drewN ((Below.refl _ _).alloc (Nat.le_refl _) _) _⟩
  | true =>
    have c1 : ∀ W : World, Calls Try.prog 37 #[.int .i64 d, .int .i64 1, .int .i64 2000000] W fun e w' => e = .returned (.bool true) ∧ W = w' := fun W => by
      have := inRange_any d 1 2000000 W; rw [h1] at this; exact this
    have C1 := Lib.hid c1
    cases h2 : btw n (-2000000) 2000000 with
    | false =>
      have E := Lib.hid (show vrB n d = false by unfold vrB termsB; rw [h2]; simp)
      have c2 : ∀ W : World, Calls Try.prog 37 #[.int .i64 n, .int .i64 (-2000000), .int .i64 2000000] W fun e w' => e = .returned (.bool false) ∧ W = w' := fun W => by
        have := inRange_any n (-2000000) 2000000 W; rw [h2] at this; exact this
      have C2 := Lib.hid c2
      clear c1 c2 h1 h2
      go_enter Try.func42, Try.ntmps42
      go_wp2_with fail
      go_quiet ((first | (go_at_call 37; with_reducible exact quiet_left (C1.out _)) | (go_at_call 37; with_reducible exact quiet_left (C2.out _))))
      go_wp2_with fail
      go_ret
      exact ⟨ret_bool E.out.symm, below_drewN ((Below.refl _ _).alloc (Nat.le_refl _) _) _⟩
    | true =>
      have E := Lib.hid (show vrB n d = (Rt.g n d == 1) by unfold vrB termsB; rw [h1, h2]; rfl)
      have c2 : ∀ W : World, Calls Try.prog 37 #[.int .i64 n, .int .i64 (-2000000), .int .i64 2000000] W fun e w' => e = .returned (.bool true) ∧ W = w' := fun W => by
        have := inRange_any n (-2000000) 2000000 W; rw [h2] at this; exact this
      have C2 := Lib.hid c2
      have b1 := btw_iff.1 h1
      have b2 := btw_iff.1 h2
      obtain ⟨b1, b1'⟩ := b1
      obtain ⟨b2, b2'⟩ := b2
      clear c1 c2 h1 h2
      go_enter Try.func42, Try.ntmps42
      go_wp2_with fail
      go_quiet ((first | (go_at_call 37; with_reducible exact quiet_left (C1.out _)) | (go_at_call 37; with_reducible exact quiet_left (C2.out _)) | (go_at_call 52; exact quiet_left (distance_any _ _ (by omega) (by omega))) | (go_at_call 51; exact quiet_left (divisor_abs _ _ _ (by omega) (by omega) (by omega) (by omega)))))
      go_wp2_with fail
      go_ret
      exact ⟨ret_bool E.out.symm, below_drewN ((Below.refl _ _).alloc (Nat.le_refl _) _) _⟩
theorem vr_low {n d : Int} (hd : 1 ≤ d) : vrB (Rt.ln n d) (Rt.ld n d) = termsB (Rt.ln n d) (Rt.ld n d) := by
  unfold vrB
  rw [Rt.g_one (Rt.gcd_lo (n := n) (d := d) (by omega))]
  simp
def chkV (p q : Int) : Value := if vrB p q = true then .tuple #[.agg #[.int .i64 p, .int .i64 q], .bool true] else .tuple #[.agg #[.int .i64 0, .int .i64 0], .bool false]
theorem chk_low {n d : Int} (hd : 1 ≤ d) : chkV (Rt.ln n d) (Rt.ld n d) = lowV n d := by unfold chkV lowV; rw [vr_low hd]
set_option maxHeartbeats 400000 in
theorem checked_any (p q : Int) (w : World) :
    Calls Try.prog 43 #[.agg #[.int .i64 p, .int .i64 q]] w fun e w' => e = .returned (chkV p q) ∧ Below w.heap.size w w' := by
  have kB := (Blk.new w #[.int .i64 p, .int .i64 q] 26).alloc (.cells #[.int .i64 0, .int .i64 0] 26)
  have kR := Blk.new (w.alloc (.cells #[.int .i64 p, .int .i64 q] 26)) #[.int .i64 0, .int .i64 0] 26
  have hbA := ((Below.refl w.heap.size w).alloc (Nat.le_refl _) (.cells #[.int .i64 p, .int .i64 q] 26)).alloc (by simp) (.cells #[.int .i64 0, .int .i64 0] 26)
  simp only [World.size_alloc] at kR
  cases hv : vrB p q with
  | false =>
    have E := Lib.hid (show chkV p q = .tuple #[.agg #[.int .i64 0, .int .i64 0], .bool false] by unfold chkV; rw [if_neg (by rw [hv]; decide)])
    go_enter Try.func43, Try.ntmps43
    go_wp2_with fail
    refine (sValid_any _ _ _).mono ?_
    rintro e w1 ⟨rfl, hb1⟩
    replace kR := kR.below hb1 (by simp)
    replace hbA := hbA.trans (hb1.mono hbA.size)
    obtain ⟨⟨r0, r1⟩, f0, f1⟩ := kR.two
    clear kB
    go_wp2_with fail
    refine bodyPost_ret (v := .tuple #[.agg #[.int .i64 0, .int .i64 0], .bool false]) (by simp [results, Try.results43, go_sem, r0, r1]) rfl ⟨by rw [E.out], ?_⟩
    exact (hbA.setCell (by simp) _).setCell (by simp) _
  | true =>
    have E := Lib.hid (show chkV p q = .tuple #[.agg #[.int .i64 p, .int .i64 q], .bool true] by unfold chkV; rw [if_pos hv])
    go_enter Try.func43, Try.ntmps43
    go_wp2_with fail
    refine (sValid_any _ _ _).mono ?_
    rintro e w1 ⟨rfl, hb1⟩
    replace kR := kR.below hb1 (by simp)
    replace kB := kB.below hb1 (by simp; omega)
    replace hbA := hbA.trans (hb1.mono hbA.size)
    obtain ⟨⟨r0, r1⟩, f0, f1⟩ := kR.two
    obtain ⟨⟨x0, x1⟩, _, _⟩ := kB.two
    go_wp2_with fail
    refine bodyPost_ret (v := .tuple #[.agg #[.int .i64 p, .int .i64 q], .bool true]) (by simp [results, Try.results43, go_sem, r0, r1]) rfl ⟨by rw [E.out], ?_⟩
    exact (hbA.setCell (by simp) _).setCell (by simp) _
end Go.Proofs.Ytejhicnejjiaaaa
