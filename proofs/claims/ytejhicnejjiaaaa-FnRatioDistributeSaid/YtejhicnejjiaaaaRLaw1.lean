/- The walks of the laws of ratios. -/
import Derived.Test.YtejhicnejjiaaaaRDraw2
import Derived.Test.YtejhicnejjiaaaaRExact
namespace Go.Proofs.Ytejhicnejjiaaaa
open Go.RowKit
theorem makeV_true {n d : Int} (h : termsB n d = true) : makeV n d = .tuple #[.agg #[.int .i64 (Rt.ln n d), .int .i64 (Rt.ld n d)], .bool true] := by unfold makeV; rw [if_pos h]
theorem makeV_false {n d : Int} (h : termsB n d = false) : makeV n d = .tuple #[.agg #[.int .i64 0, .int .i64 0], .bool false] := by unfold makeV; rw [if_neg (by rw [h]; decide)]
theorem low_range {n d : Int} (h : termsB n d = true) : -2000000 ≤ Rt.ln n d ∧ Rt.ln n d ≤ 2000000 ∧ 1 ≤ Rt.ld n d ∧ Rt.ld n d ≤ 2000000 := by
  have t := termsB_iff.1 h
  have a := Rt.ln_abs (n := n) (d := d) (by omega)
  have b := Rt.ld_pos (n := n) (d := d) (by omega)
  have c := Rt.ld_le (n := n) (d := d) (by omega)
  omega
theorem twice_same {n d : Int} (h : 1 ≤ d) : Rt.ln (2 * n) (2 * d) = Rt.ln n d ∧ Rt.ld (2 * n) (2 * d) = Rt.ld n d :=
  Rt.lo_congr (by omega) (by omega) (by rw [Int.mul_comm 2 n, Int.mul_assoc])
set_option maxHeartbeats 2000000 in
theorem lawMakeRatio (a : Option Addr) (len cap : Nat) (zs : List Int) (w : World) (h : IsRow .u8 w a len cap zs) :
    Calls Try.prog 3 #[.slice a len cap] w fun e w' => e = .returned (.bool true) ∧ Below w.heap.size w w' := by
  have H := Lib.hid h; clear h
  by_cases hl : 1048576 < (len : Int)
  · go_enter Try.func3, Try.ntmps3
    go_wp2_with fail
    go_ret
    exact ⟨rfl, Below.refl _ _⟩
  · have hl' := decide_eq_false hl
    clear hl
    go_enter Try.func3, Try.ntmps3
    go_wp2_with fail
    refine (drawMake_any _ _ _ _ _ H.out).mono ?_
    rintro e w1 ⟨n, d, rfl, ⟨n0, n1, d0, d1⟩, hbA⟩
    cases ht : termsB n d with
    | false =>
      have HV := Lib.hid (makeV_false ht)
      go_wp2_with fail
      refine (makeRatio_any _ _ _).mono ?_
      rw [HV.out]
      rintro e w2 ⟨rfl, hb2⟩
      replace hbA := hbA.trans (hb2.mono hbA.size)
      have kA := Blk.new w2 #[.int .i64 0, .int .i64 0] 26
      replace hbA := hbA.alloc hbA.size (.cells #[.int .i64 0, .int .i64 0] 26)
      go_wp2_with fail
      refine (sMake_any _ _ _).mono ?_
      rw [HV.out]
      rintro e w3 ⟨rfl, hb3⟩
      replace kA := kA.below hb3 kA.lt
      replace hbA := hbA.trans (hb3.mono hbA.size)
      have hlt := kA.lt
      obtain ⟨⟨x0, x1⟩, _, _⟩ := kA.two
      have hs := hbA.size
      go_wp2_with fail
      go_ret
      exact ⟨ret_bool (by simp), hbA.alloc hs _⟩
    | true =>
      have HV := Lib.hid (makeV_true ht)
      have tb := termsB_iff.1 ht
      obtain ⟨t0, t1, t2, t3⟩ := tb
      obtain ⟨s0, s1, s2, s3⟩ := low_range ht
      have hcr := Rt.cross n d
      obtain ⟨tw1, tw2⟩ := twice_same (n := n) t2
      have HT2 : Hid (makeV (2 * n) (2 * d) = makeV (2 * n) (2 * d)) := Lib.hid rfl
      have hV2 : makeV (2 * n) (2 * d) = .tuple #[.agg #[.int .i64 (Rt.ln n d), .int .i64 (Rt.ld n d)], .bool true] ∨ makeV (2 * n) (2 * d) = .tuple #[.agg #[.int .i64 0, .int .i64 0], .bool false] := by
        cases h2 : termsB (2 * n) (2 * d) with
        | true => left; rw [makeV_true h2, tw1, tw2]
        | false => right; exact makeV_false h2
      have HV2 := Lib.hid hV2
      have m1 := mul_bd (a := Rt.ln n d) (b := d) (A := 2000000) (B := 2000000) (by omega) (by omega) (by omega) (by omega)
      have m2 := mul_bd (a := n) (b := Rt.ld n d) (A := 2000000) (B := 2000000) (by omega) (by omega) (by omega) (by omega)
      have hx : (Rt.ln n d * d == n * Rt.ld n d) = true := by rw [hcr]; simp
      clear hcr tw1 tw2 hV2 HT2
      generalize Rt.ln n d = p at *
      generalize Rt.ld n d = q at *
      obtain ⟨m1a, m1b⟩ := m1
      obtain ⟨m2a, m2b⟩ := m2
      go_wp2_with fail
      refine (makeRatio_any _ _ _).mono ?_
      rw [HV.out]
      rintro e w2 ⟨rfl, hb2⟩
      replace hbA := hbA.trans (hb2.mono hbA.size)
      have kA := Blk.new w2 #[.int .i64 p, .int .i64 q] 26
      replace hbA := hbA.alloc hbA.size (.cells #[.int .i64 p, .int .i64 q] 26)
      go_wp2_with fail
      refine (sMake_any _ _ _).mono ?_
      rw [HV.out]
      rintro e w3 ⟨rfl, hb3⟩
      replace kA := kA.below hb3 kA.lt
      replace hbA := hbA.trans (hb3.mono hbA.size)
      have hlt := kA.lt
      obtain ⟨⟨x0, x1⟩, _, _⟩ := kA.two
      have hs := hbA.size
      go_wp2_with fail
      replace hbA := hbA.alloc hs (.cells #[.int .i64 p, .int .i64 q] 26)
      replace kA := kA.alloc (.cells #[.int .i64 p, .int .i64 q] 26)
      clear x0 x1
      rcases HV2.out with e2 | e2
      all_goals
        have E2 := Lib.hid e2
        clear e2
        refine (makeRatio_any _ _ _).mono ?_
        rw [E2.out]
        rintro e w4 ⟨rfl, hb4⟩
        replace kA := kA.below hb4 kA.lt
        replace hbA := hbA.trans (hb4.mono hbA.size)
        have hlt4 := kA.lt
        obtain ⟨⟨x0, x1⟩, _, _⟩ := kA.two
        have hs4 := hbA.size
        go_wp2_with fail
        go_ret
        exact ⟨ret_bool (by simp), hbA.alloc hs4 _⟩
end Go.Proofs.Ytejhicnejjiaaaa
