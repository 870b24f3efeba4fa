/- The walks of shares, and of the model's rounding and making. -/
import Derived.Test.YtejhicnejjiaaaaRs2
namespace Go.Proofs.Ytejhicnejjiaaaa
open Go.RowKit
def shareV (x n d : Int) : Value := if btw x (-1000000000) 1000000000 = true ∧ vrB n d = true ∧ btw n 0 d = true then .tuple #[.int .i64 (Rt.near (x * n) d), .bool true] else .tuple #[.int .i64 0, .bool false]
set_option maxHeartbeats 400000 in
theorem sFloored_any (a b : Int) (w : World) (h0 : -2000000000000000000 ≤ a) (h1 : a ≤ 2000000000000000000) (h2 : 1 ≤ b) (h3 : b ≤ 1000000000000000000) :
    Calls Try.prog 54 #[.int .i64 a, .int .i64 b] w fun e w' => e = .returned (.int .i64 (a / b)) ∧ w = w' := by
  obtain ⟨q0, q1⟩ := tdiv_bd (b := b) h0 h1
  have r0 := Int.lt_tmod_of_pos a (show 0 < b by omega)
  have r1 := Int.tmod_lt_of_pos a (show 0 < b by omega)
  have e0 : (b == 0) = false := by simp; omega
  by_cases hm : a.tmod b < 0
  · have HE := Lib.hid (floor_neg h2 hm)
    have f1 : IntKind.i64.wrap (a.tdiv b) = a.tdiv b := IntWalk.i64_in _ (by omega)
    go_enter Try.func54, Try.ntmps54
    go_wp2_with fail
    go_ret
    exact ⟨ret_int HE.out, rfl⟩
  · have HE := Lib.hid (floor_pos (a := a) h2 (by omega))
    have hm' := decide_eq_false hm
    have f1 : IntKind.i64.wrap (a.tdiv b) = a.tdiv b := IntWalk.i64_in _ (by omega)
    go_enter Try.func54, Try.ntmps54
    go_wp2_with fail
    go_ret
    exact ⟨ret_int HE.out, rfl⟩
set_option maxHeartbeats 400000 in
theorem sNearest_any (a b : Int) (w : World) (h0 : -900000000000000000 ≤ a) (h1 : a ≤ 900000000000000000) (h2 : 1 ≤ b) (h3 : b ≤ 100000000000000000) :
    Calls Try.prog 49 #[.int .i64 a, .int .i64 b] w fun e w' => e = .returned (.int .i64 (Rt.near a b)) ∧ w = w' := by
  go_enter Try.func49, Try.ntmps49
  go_wp2_with (go_at_call 54; refine (sFloored_any _ _ _ (by omega) (by omega) (by omega) (by omega)).mono ?_; rintro e w2 ⟨rfl, rfl⟩)
  go_ret
  exact ⟨rfl, rfl⟩
set_option maxHeartbeats 400000 in
theorem vamountR_any (n : Int) (w : World) : Calls Try.prog 46 #[.int .i64 n] w fun e w' => e = .returned (.bool (btw n (-1000000000) 1000000000)) ∧ w = w' := by
  go_enter Try.func46, Try.ntmps46
  go_wp2_with fail
  refine (between_any _ _ _ _).mono ?_
  rintro e w' ⟨rfl, rfl⟩
  go_wp2_with fail
  go_ret
  exact ⟨rfl, rfl⟩
set_option maxHeartbeats 1000000 in
theorem share_any (x n d : Int) (w : World) :
    Calls Try.prog 28 #[.int .i64 x, .agg #[.int .i64 n, .int .i64 d]] w fun e w' => e = .returned (shareV x n d) ∧ Below w.heap.size w w' := by
  have kA := Blk.new w #[.int .i64 n, .int .i64 d] 26
  have hbA := (Below.refl w.heap.size w).alloc (Nat.le_refl _) (.cells #[.int .i64 n, .int .i64 d] 26)
  cases h1 : btw x (-1000000000) 1000000000 with
  | false =>
    have E := Lib.hid (show shareV x n d = .tuple #[.int .i64 0, .bool false] by unfold shareV; rw [if_neg (by simp [h1])])
    go_enter Try.func28, Try.ntmps28
    go_wp2_with fail
    refine (vamountR_any _ _).mono ?_
    rintro e w1 ⟨rfl, rfl⟩
    rw [h1]
    go_wp2_with fail
    go_ret2
    exact ⟨by rw [E.out]; rfl, hbA⟩
  | true =>
    have c1 : ∀ W : World, Calls Try.prog 46 #[.int .i64 x] W fun e w' => e = .returned (.bool true) ∧ W = w' := fun W => by
      have := vamountR_any x W; rw [h1] at this; exact this
    have C1 := Lib.hid c1; clear c1
    have xb := btw_iff.1 h1
    obtain ⟨xb0, xb1⟩ := xb
    cases hv : vrB n d with
    | false =>
      have E := Lib.hid (show shareV x n d = .tuple #[.int .i64 0, .bool false] by unfold shareV; rw [if_neg (by simp [hv])])
      clear h1
      go_enter Try.func28, Try.ntmps28
      go_wp2_with fail
      refine (C1.out _).mono ?_
      rintro e w1 ⟨rfl, rfl⟩
      go_wp2_with fail
      refine (valid_any _ _ _).mono ?_
      rintro e w1 ⟨rfl, hb1⟩
      go_wp2_with fail
      go_ret2
      exact ⟨by rw [E.out]; rfl, hbA.trans (hb1.mono hbA.size)⟩
    | true =>
      have q1 := vrB_iff.1 hv
      obtain ⟨g1, g2, g3, g4, _⟩ := q1
      cases h2 : btw n 0 d with
      | false =>
        have E := Lib.hid (show shareV x n d = .tuple #[.int .i64 0, .bool false] by unfold shareV; rw [if_neg (by simp [h2])])
        clear h1
        go_enter Try.func28, Try.ntmps28
        go_wp2_with fail
        refine (C1.out _).mono ?_
        rintro e w1 ⟨rfl, rfl⟩
        go_wp2_with fail
        refine (valid_any _ _ _).mono ?_
        rintro e w1 ⟨rfl, hb1⟩
        replace kA := kA.below hb1 (by simp)
        replace hbA := hbA.trans (hb1.mono hbA.size)
        obtain ⟨⟨x0, x1⟩, _, _⟩ := kA.two
        go_wp2_with (go_at_call 47; refine (between_any _ _ _ _).mono ?_; rintro e w2 ⟨rfl, rfl⟩)
        go_ret2
        exact ⟨by rw [E.out]; rfl, hbA⟩
      | true =>
        have E := Lib.hid (show shareV x n d = .tuple #[.int .i64 (Rt.near (x * n) d), .bool true] by unfold shareV; rw [if_pos ⟨h1, hv, h2⟩])
        have p0 := mul_bd (a := x) (b := n) (A := 1000000000) (B := 2000000) (by omega) (by omega) (by omega) (by omega)
        obtain ⟨p0a, p0b⟩ := p0
        clear h1
        go_enter Try.func28, Try.ntmps28
        go_wp2_with fail
        refine (C1.out _).mono ?_
        rintro e w1 ⟨rfl, rfl⟩
        go_wp2_with fail
        refine (valid_any _ _ _).mono ?_
        rintro e w1 ⟨rfl, hb1⟩
        replace kA := kA.below hb1 (by simp)
        replace hbA := hbA.trans (hb1.mono hbA.size)
        obtain ⟨⟨x0, x1⟩, _, _⟩ := kA.two
        go_wp2_with (first | (go_at_call 47; refine (between_any _ _ _ _).mono ?_; rintro e w2 ⟨rfl, rfl⟩) | (go_at_call 48; refine (rounded_any _ _ _ (by omega) (by omega) (by omega) (by omega)).mono ?_; rintro e w2 ⟨rfl, rfl⟩))
        go_ret2
        exact ⟨by rw [E.out]; rfl, hbA⟩
set_option maxHeartbeats 1000000 in
theorem sShare_any (x n d : Int) (w : World) :
    Calls Try.prog 29 #[.int .i64 x, .agg #[.int .i64 n, .int .i64 d]] w fun e w' => e = .returned (shareV x n d) ∧ Below w.heap.size w w' := by
  have kA := Blk.new w #[.int .i64 n, .int .i64 d] 26
  have hbA := (Below.refl w.heap.size w).alloc (Nat.le_refl _) (.cells #[.int .i64 n, .int .i64 d] 26)
  cases h1 : btw x (-1000000000) 1000000000 with
  | false =>
    have E := Lib.hid (show shareV x n d = .tuple #[.int .i64 0, .bool false] by unfold shareV; rw [if_neg (by simp [h1])])
    go_enter Try.func29, Try.ntmps29
    go_wp2_with (go_at_call 37; refine (inRange_any _ _ _ _).mono ?_; rintro e w1 ⟨rfl, rfl⟩)
    go_ret2
    exact ⟨by rw [E.out]; rfl, hbA⟩
  | true =>
    have c1 : ∀ W : World, Calls Try.prog 37 #[.int .i64 x, .int .i64 (-1000000000), .int .i64 1000000000] W fun e w' => e = .returned (.bool true) ∧ W = w' := fun W => by
      have := inRange_any x (-1000000000) 1000000000 W; rw [h1] at this; exact this
    have C1 := Lib.hid c1; clear c1
    have xb := btw_iff.1 h1
    obtain ⟨xb0, xb1⟩ := xb
    cases hv : vrB n d with
    | false =>
      have E := Lib.hid (show shareV x n d = .tuple #[.int .i64 0, .bool false] by unfold shareV; rw [if_neg (by simp [hv])])
      clear h1
      go_enter Try.func29, Try.ntmps29
      go_wp2_with fail
      refine (C1.out _).mono ?_
      rintro e w1 ⟨rfl, rfl⟩
      go_wp2_with fail
      refine (sValid_any _ _ _).mono ?_
      rintro e w1 ⟨rfl, hb1⟩
      go_wp2_with fail
      go_ret2
      exact ⟨by rw [E.out]; rfl, hbA.trans (hb1.mono hbA.size)⟩
    | true =>
      have q1 := vrB_iff.1 hv
      obtain ⟨g1, g2, g3, g4, _⟩ := q1
      cases h2 : btw n 0 d with
      | false =>
        have E := Lib.hid (show shareV x n d = .tuple #[.int .i64 0, .bool false] by unfold shareV; rw [if_neg (by simp [h2])])
        clear h1
        go_enter Try.func29, Try.ntmps29
        go_wp2_with fail
        refine (C1.out _).mono ?_
        rintro e w1 ⟨rfl, rfl⟩
        go_wp2_with fail
        refine (sValid_any _ _ _).mono ?_
        rintro e w1 ⟨rfl, hb1⟩
        replace kA := kA.below hb1 (by simp)
        replace hbA := hbA.trans (hb1.mono hbA.size)
        obtain ⟨⟨x0, x1⟩, _, _⟩ := kA.two
        go_wp2_with (go_at_call 37; refine (inRange_any _ _ _ _).mono ?_; rintro e w2 ⟨rfl, rfl⟩)
        go_ret2
        exact ⟨by rw [E.out]; rfl, hbA⟩
      | true =>
        have E := Lib.hid (show shareV x n d = .tuple #[.int .i64 (Rt.near (x * n) d), .bool true] by unfold shareV; rw [if_pos ⟨h1, hv, h2⟩])
        have p0 := mul_bd (a := x) (b := n) (A := 1000000000) (B := 2000000) (by omega) (by omega) (by omega) (by omega)
        obtain ⟨p0a, p0b⟩ := p0
        clear h1
        go_enter Try.func29, Try.ntmps29
        go_wp2_with fail
        refine (C1.out _).mono ?_
        rintro e w1 ⟨rfl, rfl⟩
        go_wp2_with fail
        refine (sValid_any _ _ _).mono ?_
        rintro e w1 ⟨rfl, hb1⟩
        replace kA := kA.below hb1 (by simp)
        replace hbA := hbA.trans (hb1.mono hbA.size)
        obtain ⟨⟨x0, x1⟩, _, _⟩ := kA.two
        go_wp2_with (first | (go_at_call 37; refine (inRange_any _ _ _ _).mono ?_; rintro e w2 ⟨rfl, rfl⟩) | (go_at_call 49; refine (sNearest_any _ _ _ (by omega) (by omega) (by omega) (by omega)).mono ?_; rintro e w2 ⟨rfl, rfl⟩))
        go_ret2
        exact ⟨by rw [E.out]; rfl, hbA⟩
set_option maxHeartbeats 400000 in
theorem sMake_any (n d : Int) (w : World) :
    Calls Try.prog 17 #[.int .i64 n, .int .i64 d] w fun e w' => e = .returned (makeV n d) ∧ Below w.heap.size w w' := by
  have kR := Blk.new w #[.int .i64 0, .int .i64 0] 26
  have hbA := (Below.refl w.heap.size w).alloc (Nat.le_refl _) (.cells #[.int .i64 0, .int .i64 0] 26)
  cases ht : termsB n d with
  | false =>
    have E := Lib.hid (show makeV n d = .tuple #[.agg #[.int .i64 0, .int .i64 0], .bool false] by unfold makeV; rw [if_neg (by rw [ht]; decide)])
    cases h1 : btw n (-2000000) 2000000 with
    | false =>
      clear kR ht
      go_enter Try.func17, Try.ntmps17
      go_wp2_with (go_at_call 37; refine (inRange_any _ _ _ _).mono ?_; rintro e w2 ⟨rfl, rfl⟩)
      exact bodyPost_ret (v := .tuple #[.agg #[.int .i64 0, .int .i64 0], .bool false]) (by simp [results, Try.results17, go_sem]) rfl ⟨by rw [E.out], hbA⟩
    | true =>
      have h2 : btw d 1 2000000 = false := by
        unfold termsB at ht; rw [h1] at ht; simpa using ht
      clear kR ht
      go_enter Try.func17, Try.ntmps17
      go_wp2_with (go_at_call 37; refine (inRange_any _ _ _ _).mono ?_; rintro e w2 ⟨rfl, rfl⟩)
      exact bodyPost_ret (v := .tuple #[.agg #[.int .i64 0, .int .i64 0], .bool false]) (by simp [results, Try.results17, go_sem]) rfl ⟨by rw [E.out], hbA⟩
  | true =>
    have E := Lib.hid (show makeV n d = .tuple #[.agg #[.int .i64 (Rt.ln n d), .int .i64 (Rt.ld n d)], .bool true] by unfold makeV; rw [if_pos ht])
    have tb := termsB_iff.1 ht
    obtain ⟨t1, t2, t3, t4⟩ := tb
    have h1 := btw_t t1 t2
    have h2 := btw_t t3 t4
    go_enter Try.func17, Try.ntmps17
    go_wp2_with (go_at_call 37; refine (inRange_any _ _ _ _).mono ?_; rintro e w2 ⟨rfl, rfl⟩)
    refine (sLowest_any _ _ _ t3 (by omega) (by omega) (by omega)).mono ?_
    rintro e w2 ⟨rfl, hb2⟩
    replace kR := kR.below hb2 kR.lt
    replace hbA := hbA.trans (hb2.mono hbA.size)
    obtain ⟨⟨r0, r1⟩, f0, f1⟩ := kR.two
    go_wp2_with fail
    refine bodyPost_ret (v := .tuple #[.agg #[.int .i64 (Rt.ln n d), .int .i64 (Rt.ld n d)], .bool true]) (by simp [results, Try.results17, go_sem, r0, r1]) rfl ⟨by rw [E.out], ?_⟩
    exact (hbA.setCell (by simp) _).setCell (by simp) _
end Go.Proofs.Ytejhicnejjiaaaa
