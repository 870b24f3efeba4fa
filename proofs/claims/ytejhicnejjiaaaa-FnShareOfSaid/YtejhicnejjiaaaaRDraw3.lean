/- The draw of shares, and its law. -/
import Derived.Test.YtejhicnejjiaaaaRLaw3
namespace Go.Proofs.Ytejhicnejjiaaaa
open Go.RowKit
/-- An amount and a ratio drawn out of a law's input. -/
def DrawnS (w : World) (e : Ending) (w' : World) : Prop :=
  ∃ x n d : Int, e = .returned (.tuple #[.int .i64 x, .agg #[.int .i64 n, .int .i64 d]]) ∧ (-2000000000 ≤ x ∧ x ≤ 2000000000 ∧ -3000000 ≤ n ∧ n ≤ 3000000 ∧ -3000000 ≤ d ∧ d ≤ 3000000) ∧ Below w.heap.size w w'
set_option maxHeartbeats 1000000 in
theorem drawShare_any (w : World) (a : Option Addr) (len cap : Nat) (zs : List Int) (h : IsRow .u8 w a len cap zs) :
    Calls Try.prog 27 #[.slice a len cap] w (DrawnS w) := by
  have H := Lib.hid (IsRow_alloc h (.cells #[.int .i64 0, .int .i64 0] 26)); clear h
  go_enter Try.func27, Try.ntmps27
  go_wp2_with fail
  refine (newReader_any _ _ _ _ _ H.out).mono ?_
  rintro e w1 ⟨g, rfl, hg, hr, hb⟩
  have kR : Blk w1 w.heap.size 26 #[.int .i64 0, .int .i64 0] := (Blk.new w _ _).below hb (by simp)
  simp only [World.size_alloc] at hg
  replace hb := ((Below.refl w.heap.size w).alloc (Nat.le_refl _) (.cells #[.int .i64 0, .int .i64 0] 26)).trans (hb.mono (by simp))
  have hgR : w.heap.size ≠ g := by omega
  go_wp2_with fail
  refine (one_any (-2000000000) 2000000000 _ g _ w1.heap.size _ _ (hr.alloc _) (by omega) (heap_alloc_new w1 _) (by have := hr.lt; omega) (by decide) (by decide) (by decide) 8 8 (by rfl)).mono ?_
  rintro e w2 ⟨x, rfl, hx, hr2, hg2⟩
  replace kR := (kR.alloc _).grown hg2 hgR
  replace hb := below_grown (hb.alloc hb.size _) hg2 (by omega)
  go_wp2_with fail
  refine (anyRatio_any _ _ _ hr2 (by omega)).mono ?_
  rintro e w3 ⟨n, d, rfl, ⟨t1, t2, t3, t4⟩, hr3, hg3⟩
  replace kR := kR.grown hg3 hgR
  replace hb := below_grown hb hg3 (by omega)
  have kD := Blk.new w3 #[.int .i64 n, .int .i64 d] 26
  have hgD : w3.heap.size ≠ g := by have := hr3.lt; omega
  have hRD : w.heap.size < w3.heap.size := kR.lt
  have hr3' := hr3.alloc (.cells #[.int .i64 n, .int .i64 d] 26)
  replace kR := kR.alloc (.cells #[.int .i64 n, .int .i64 d] 26)
  replace hb := hb.alloc hb.size (.cells #[.int .i64 n, .int .i64 d] 26)
  clear hr hr2 hg2 hg3 hr3
  go_wp2_with fail
  refine (pick_any _ _ _ _ hr3' (by omega) (by omega) (by omega)).mono ?_
  rintro e w4 ⟨v, rfl, ⟨hv, _⟩, hr4, hg4⟩
  obtain ⟨v0, v1⟩ := hv (by omega)
  replace kR := kR.grown hg4 hgR
  replace kD := kD.grown hg4 hgD
  replace hb := below_grown hb hg4 (by omega)
  clear hr3' hg4 hv
  by_cases c0 : 0 < v
  · go_wp2_with fail
    refine (pick_any _ _ _ _ hr4 (by omega) (by omega) (by omega)).mono ?_
    rintro e w5 ⟨u, rfl, ⟨hu, _⟩, hr5, hg5⟩
    obtain ⟨u0, u1⟩ := hu (by omega)
    replace kR := kR.grown hg5 hgR
    replace kD := kD.grown hg5 hgD
    replace hb := below_grown hb hg5 (by omega)
    go_wp2_with fail
    refine (pick_any _ _ _ _ hr5 (by omega) (by omega) (by omega)).mono ?_
    rintro e w6 ⟨z, rfl, ⟨hz, _⟩, hr6, hg6⟩
    obtain ⟨z0, z1⟩ := hz (by omega)
    replace kR := kR.grown hg6 hgR
    replace kD := kD.grown hg6 hgD
    replace hb := below_grown hb hg6 (by omega)
    go_wp2_with fail
    have lb := low_bd (n := z) (d := 1 + u) (by omega) (by omega) (by omega) (by omega)
    refine (sLowest_any _ _ _ (by omega) (by omega) (by omega) (by omega)).mono ?_
    rintro e w7 ⟨rfl, hb7⟩
    generalize Rt.ln z (1 + u) = aa at *
    generalize Rt.ld z (1 + u) = bb at *
    replace kR := kR.below hb7 kR.lt
    replace kD := kD.below hb7 kD.lt
    replace hb := hb.trans (hb7.mono hb.size)
    obtain ⟨⟨r0, r1⟩, q0, q1⟩ := kR.two
    obtain ⟨⟨x0, x1⟩, f0, f1⟩ := kD.two
    clear hg5 hg6 hr4 hr5 hr6 kR kD hu hz
    have hs := hb.size
    have s0 : ((w7.setCell ⟨w3.heap.size, 0, none⟩ (.int .i64 aa)).setCell ⟨w3.heap.size, 1, none⟩ (.int .i64 bb)).cell? ⟨w.heap.size, 0, none⟩ = some (.int .i64 0) := by rw [World.cell?_setCell_other _ _ _ _ (by intro e; injection e; omega), World.cell?_setCell_other _ _ _ _ (by intro e; injection e; omega)]; exact r0
    have s1 : ((w7.setCell ⟨w3.heap.size, 0, none⟩ (.int .i64 aa)).setCell ⟨w3.heap.size, 1, none⟩ (.int .i64 bb)).cell? ⟨w.heap.size, 1, none⟩ = some (.int .i64 0) := by rw [World.cell?_setCell_other _ _ _ _ (by intro e; injection e; omega), World.cell?_setCell_other _ _ _ _ (by intro e; injection e; omega)]; exact r1
    go_wp2_with fail
    go_region
    all_goals go_wp2_with fail
    all_goals
      refine bodyPost_ret (v := .tuple #[.int .i64 x, .agg #[.int .i64 aa, .int .i64 bb]]) (by simp [results, Try.results27, go_sem, s0, s1]) rfl ⟨x, aa, bb, rfl, ⟨by omega, by omega, by omega, by omega, by omega, by omega⟩, ?_⟩
      repeat (first | refine Below.drew ?_ | refine Below.setCell ?_ (by first | (simp; done) | (simp; omega)) _)
      exact hb
  · have c0' := decide_eq_false c0
    obtain ⟨⟨r0, r1⟩, q0, q1⟩ := kR.two
    obtain ⟨⟨x0, x1⟩, f0, f1⟩ := kD.two
    clear kR kD hr4
    have hs := hb.size
    go_wp2_with fail
    go_region
    all_goals go_wp2_with fail
    all_goals
      refine bodyPost_ret (v := .tuple #[.int .i64 x, .agg #[.int .i64 n, .int .i64 d]]) (by simp [results, Try.results27, go_sem, r0, r1]) rfl ⟨x, n, d, rfl, ⟨by omega, by omega, by omega, by omega, by omega, by omega⟩, ?_⟩
      repeat (first | refine Below.drew ?_ | refine Below.setCell ?_ (by first | (simp; done) | (simp; omega)) _)
      exact hb
theorem shareV_cases (x n d : Int) : (vrB n d = true ∧ -1000000000 ≤ x ∧ x ≤ 1000000000 ∧ 0 ≤ n ∧ n ≤ d ∧ shareV x n d = .tuple #[.int .i64 (Rt.near (x * n) d), .bool true]) ∨ shareV x n d = .tuple #[.int .i64 0, .bool false] := by
  unfold shareV
  by_cases h : btw x (-1000000000) 1000000000 = true ∧ vrB n d = true ∧ btw n 0 d = true
  · rw [if_pos h]
    have h1 := btw_iff.1 h.1
    have h2 := btw_iff.1 h.2.2
    exact .inl ⟨h.2.1, h1.1, h1.2, h2.1, h2.2, rfl⟩
  · rw [if_neg h]; exact .inr rfl
theorem near_id (x : Int) : Rt.near (x * 1) 1 = x := by unfold Rt.near; omega
theorem near_zero (x : Int) : Rt.near (x * 0) 1 = 0 := by unfold Rt.near; omega
theorem share_one {x : Int} (h0 : -1000000000 ≤ x) (h1 : x ≤ 1000000000) : shareV x 1 1 = .tuple #[.int .i64 x, .bool true] := by
  unfold shareV
  rw [if_pos ⟨btw_t h0 h1, by decide, by decide⟩, near_id]
theorem share_none {x : Int} (h0 : -1000000000 ≤ x) (h1 : x ≤ 1000000000) : shareV x 0 1 = .tuple #[.int .i64 0, .bool true] := by
  unfold shareV
  rw [if_pos ⟨btw_t h0 h1, by decide, by decide⟩, near_zero]
theorem vrB_rest {n d : Int} (h : vrB n d = true) (h0 : 0 ≤ n) (h1 : n ≤ d) : vrB (d - n) d = true := by
  have v := vrB_iff.1 h
  rw [vrB_iff]
  refine ⟨by have := v.2.2.1; omega, by have := v.2.2.2.1; omega, v.2.2.1, v.2.2.2.1, ?_⟩
  have g := v.2.2.2.2
  unfold Rt.g at g ⊢
  have e : Int.gcd (d - n) d = Int.gcd n d := by
    rw [← Int.neg_gcd, show -(d - n) = n - d by omega, Int.gcd_sub_self_left]
  rw [e]; exact g
theorem share_rest {x n d : Int} (h : vrB n d = true) (h0 : -1000000000 ≤ x) (h1 : x ≤ 1000000000) (h2 : 0 ≤ n) (h3 : n ≤ d) : shareV x (d - n) d = .tuple #[.int .i64 (Rt.near (x * (d - n)) d), .bool true] := by
  unfold shareV
  rw [if_pos ⟨btw_t h0 h1, vrB_rest h h2 h3, btw_t (by omega) (by omega)⟩]
theorem near_sum {x n d : Int} (hd : 1 ≤ d) : -1 ≤ Rt.near (x * n) d + Rt.near (x * (d - n)) d - x ∧ Rt.near (x * n) d + Rt.near (x * (d - n)) d - x ≤ 1 := by
  have e : x * (d - n) = x * d - x * n := by rw [Int.mul_sub]
  unfold Rt.near
  rw [e]
  generalize hm : x * n = m
  have q1 := Int.mul_ediv_add_emod (2 * m + d) (2 * d)
  have q2 := Int.mul_ediv_add_emod (2 * (x * d - m) + d) (2 * d)
  have r1 := Int.emod_nonneg (2 * m + d) (show 2 * d ≠ 0 by omega)
  have r2 := Int.emod_lt_of_pos (2 * m + d) (show 0 < 2 * d by omega)
  have r3 := Int.emod_nonneg (2 * (x * d - m) + d) (show 2 * d ≠ 0 by omega)
  have r4 := Int.emod_lt_of_pos (2 * (x * d - m) + d) (show 0 < 2 * d by omega)
  generalize (2 * m + d) / (2 * d) = a at *
  generalize (2 * (x * d - m) + d) / (2 * d) = b at *
  generalize (2 * m + d) % (2 * d) = r at *
  generalize (2 * (x * d - m) + d) % (2 * d) = s at *
  -- 2d(a + b - x) = 2d - r - s
  have k : 2 * d * (a + b - x) = 2 * d - r - s := by
    have e1 : 2 * d * (a + b - x) = 2 * d * a + 2 * d * b - 2 * (x * d) := by rw [Int.mul_sub, Int.mul_add, Int.mul_assoc 2 d x, Int.mul_comm d x]
    rw [e1]; omega
  constructor
  · rcases Int.lt_or_le (a + b - x) (-1) with h | h
    · have : 2 * d * (a + b - x) ≤ 2 * d * (-2) := Int.mul_le_mul_of_nonneg_left (by omega) (by omega)
      omega
    · exact h
  · rcases Int.lt_or_le 1 (a + b - x) with h | h
    · have : 2 * d * 2 ≤ 2 * d * (a + b - x) := Int.mul_le_mul_of_nonneg_left (by omega) (by omega)
      omega
    · exact h
theorem near_bd {x n d : Int} (hd : 1 ≤ d) (h0 : -1000000000 ≤ x) (h1 : x ≤ 1000000000) (h2 : 0 ≤ n) (h3 : n ≤ d) : -2000000000 ≤ Rt.near (x * n) d ∧ Rt.near (x * n) d ≤ 2000000000 := by
  have e := mul_bd (a := x) (b := n) (A := 1000000000) (B := d) (by omega) (by omega) (by omega) (by omega)
  unfold Rt.near
  generalize x * n = m at *
  have q1 := Int.mul_ediv_add_emod (2 * m + d) (2 * d)
  have r1 := Int.emod_nonneg (2 * m + d) (show 2 * d ≠ 0 by omega)
  have r2 := Int.emod_lt_of_pos (2 * m + d) (show 0 < 2 * d by omega)
  generalize (2 * m + d) / (2 * d) = a at *
  generalize (2 * m + d) % (2 * d) = r at *
  constructor
  · rcases Int.lt_or_le a (-2000000000) with h | h
    · have : 2 * d * a ≤ 2 * d * (-2000000001) := Int.mul_le_mul_of_nonneg_left (by omega) (by omega)
      omega
    · exact h
  · rcases Int.lt_or_le 2000000000 a with h | h
    · have : 2 * d * 2000000001 ≤ 2 * d * a := Int.mul_le_mul_of_nonneg_left (by omega) (by omega)
      omega
    · exact h
set_option maxHeartbeats 400000 in
theorem abs_neg (n : Int) (w : World) (h : n < 0) (h0 : -100000000000000 ≤ n) : Calls Try.prog 30 #[.int .i64 n] w fun e w' => e = .returned (.int .i64 (-n)) ∧ w = w' := by
  go_enter Try.func30, Try.ntmps30
  go_wp2
  go_ret
  exact ⟨rfl, rfl⟩
set_option maxHeartbeats 400000 in
theorem abs_pos (n : Int) (w : World) (h : ¬ n < 0) (_h0 : n ≤ 100000000000000) : Calls Try.prog 30 #[.int .i64 n] w fun e w' => e = .returned (.int .i64 n) ∧ w = w' := by
  go_enter Try.func30, Try.ntmps30
  go_wp2
  go_ret
  exact ⟨rfl, rfl⟩
set_option maxHeartbeats 4000000 in
theorem lawShareOf (a : Option Addr) (len cap : Nat) (zs : List Int) (w : World) (h : IsRow .u8 w a len cap zs) :
    Calls Try.prog 7 #[.slice a len cap] w fun e w' => e = .returned (.bool true) ∧ Below w.heap.size w w' := by
  have H := Lib.hid h; clear h
  by_cases hl : 1048576 < (len : Int)
  · go_enter Try.func7, Try.ntmps7
    go_wp2_with fail
    go_ret
    exact ⟨rfl, Below.refl _ _⟩
  · have hl' := decide_eq_false hl
    clear hl
    go_enter Try.func7, Try.ntmps7
    go_wp2_with fail
    refine (drawShare_any _ _ _ _ _ H.out).mono ?_
    rintro e w1 ⟨x, n, d, rfl, ⟨x0, x1, n0, n1, d0, d1⟩, hbA⟩
    rcases shareV_cases x n d with ⟨hv, b0, b1, b2, b3, hV⟩ | hV
    · have HV := Lib.hid hV
      have H1 := Lib.hid (share_one b0 b1)
      have H2 := Lib.hid (share_none b0 b1)
      have H3 := Lib.hid (share_rest hv b0 b1 b2 b3)
      have hdp := den_pos hv
      have hsum := near_sum (x := x) (n := n) hdp
      obtain ⟨u1, u2⟩ := hsum
      have nb1 : -2000000000 ≤ Rt.near (x * n) d ∧ Rt.near (x * n) d ≤ 2000000000 := near_bd hdp b0 b1 b2 b3
      have nb2 : -2000000000 ≤ Rt.near (x * (d - n)) d ∧ Rt.near (x * (d - n)) d ≤ 2000000000 := near_bd hdp b0 b1 (by omega) (by omega)
      clear hV hv
      generalize Rt.near (x * n) d = s at *
      generalize Rt.near (x * (d - n)) d = t at *
      obtain ⟨nb1a, nb1b⟩ := nb1
      obtain ⟨nb2a, nb2b⟩ := nb2
      go_wp2_with fail
      have kA := Blk.new w1 #[.int .i64 n, .int .i64 d] 26
      replace hbA := hbA.alloc hbA.size (.cells #[.int .i64 n, .int .i64 d] 26)
      refine (share_any _ _ _ _).mono ?_
      rw [HV.out]
      rintro e w2 ⟨rfl, hb2⟩
      replace kA := kA.below hb2 kA.lt
      replace hbA := hbA.trans (hb2.mono hbA.size)
      obtain ⟨⟨x_kA, y_kA⟩, _, _⟩ := kA.two
      have lt_kA := kA.lt
      have hs_ := hbA.size
      go_wp2_with fail
      clear x_kA y_kA lt_kA hs_
      refine (sShare_any _ _ _ _).mono ?_
      rw [HV.out]
      rintro e w3 ⟨rfl, hb3⟩
      replace kA := kA.below hb3 kA.lt
      replace hbA := hbA.trans (hb3.mono hbA.size)
      obtain ⟨⟨x_kA, y_kA⟩, _, _⟩ := kA.two
      have lt_kA := kA.lt
      have hs_ := hbA.size
      go_wp2_with fail
      clear x_kA y_kA lt_kA hs_
      refine (share_any _ _ _ _).mono ?_
      rw [H1.out]
      rintro e w4 ⟨rfl, hb4⟩
      replace kA := kA.below hb4 kA.lt
      replace hbA := hbA.trans (hb4.mono hbA.size)
      obtain ⟨⟨x_kA, y_kA⟩, _, _⟩ := kA.two
      have lt_kA := kA.lt
      have hs_ := hbA.size
      go_wp2_with fail
      clear x_kA y_kA lt_kA hs_
      refine (share_any _ _ _ _).mono ?_
      rw [H2.out]
      rintro e w5 ⟨rfl, hb5⟩
      replace kA := kA.below hb5 kA.lt
      replace hbA := hbA.trans (hb5.mono hbA.size)
      obtain ⟨⟨x_kA, y_kA⟩, _, _⟩ := kA.two
      have lt_kA := kA.lt
      have hs_ := hbA.size
      go_wp2_with fail
      clear x_kA y_kA lt_kA hs_
      refine (share_any _ _ _ _).mono ?_
      rw [H3.out]
      rintro e w6 ⟨rfl, hb6⟩
      replace kA := kA.below hb6 kA.lt
      replace hbA := hbA.trans (hb6.mono hbA.size)
      obtain ⟨⟨x_kA, y_kA⟩, _, _⟩ := kA.two
      have lt_kA := kA.lt
      have hs_ := hbA.size
      by_cases hn : s + t - x < 0
      · have e1 : decide (-(s + t - x) ≤ 1) = true := decide_eq_true (by omega)
        go_wp2_with (go_at_call 30; refine (abs_neg _ _ hn (by omega)).mono ?_; rintro e w9 ⟨rfl, rfl⟩)
        go_ret
        exact ⟨ret_bool (by simp), hbA⟩
      · have e1 : decide (s + t - x ≤ 1) = true := decide_eq_true (by omega)
        go_wp2_with (go_at_call 30; refine (abs_pos _ _ (by omega) (by omega)).mono ?_; rintro e w9 ⟨rfl, rfl⟩)
        go_ret
        exact ⟨ret_bool (by simp), hbA⟩
    · have HV := Lib.hid hV; clear hV
      go_wp2_with fail
      have kA := Blk.new w1 #[.int .i64 n, .int .i64 d] 26
      replace hbA := hbA.alloc hbA.size (.cells #[.int .i64 n, .int .i64 d] 26)
      refine (share_any _ _ _ _).mono ?_
      rw [HV.out]
      rintro e w2 ⟨rfl, hb2⟩
      replace kA := kA.below hb2 kA.lt
      replace hbA := hbA.trans (hb2.mono hbA.size)
      obtain ⟨⟨x_kA, y_kA⟩, _, _⟩ := kA.two
      have lt_kA := kA.lt
      have hs_ := hbA.size
      go_wp2_with fail
      clear x_kA y_kA lt_kA hs_
      refine (sShare_any _ _ _ _).mono ?_
      rw [HV.out]
      rintro e w3 ⟨rfl, hb3⟩
      replace kA := kA.below hb3 kA.lt
      replace hbA := hbA.trans (hb3.mono hbA.size)
      obtain ⟨⟨x_kA, y_kA⟩, _, _⟩ := kA.two
      have lt_kA := kA.lt
      have hs_ := hbA.size
      go_wp2_with fail
      go_ret
      exact ⟨ret_bool (by simp), hbA⟩
end Go.Proofs.Ytejhicnejjiaaaa
