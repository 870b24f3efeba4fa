/- The walks of the exact laws of ratios. -/
import Derived.Test.YtejhicnejjiaaaaRs3
namespace Go.Proofs.Ytejhicnejjiaaaa
open Go.RowKit
theorem makeV_form (n d : Int) : ∃ p q b, makeV n d = .tuple #[.agg #[.int .i64 p, .int .i64 q], .bool b] := by
  unfold makeV; split <;> exact ⟨_, _, _, rfl⟩
theorem lowV_form (n d : Int) : ∃ p q b, lowV n d = .tuple #[.agg #[.int .i64 p, .int .i64 q], .bool b] := by
  unfold lowV; split <;> exact ⟨_, _, _, rfl⟩
theorem addRV_form (a b c d : Int) : ∃ p q r, addRV a b c d = .tuple #[.agg #[.int .i64 p, .int .i64 q], .bool r] := by
  unfold addRV; split
  · exact lowV_form _ _
  · exact ⟨_, _, _, rfl⟩
theorem mulRV_form (a b c d : Int) : ∃ p q r, mulRV a b c d = .tuple #[.agg #[.int .i64 p, .int .i64 q], .bool r] := by
  unfold mulRV; split
  · exact lowV_form _ _
  · exact ⟨_, _, _, rfl⟩
theorem shareV_form (x n d : Int) : ∃ p r, shareV x n d = .tuple #[.int .i64 p, .bool r] := by
  unfold shareV; split <;> exact ⟨_, _, rfl⟩
set_option maxHeartbeats 400000 in
theorem eqRatio_same (p q : Int) (w : World) :
    Calls Try.prog 31 #[.agg #[.int .i64 p, .int .i64 q], .agg #[.int .i64 p, .int .i64 q]] w fun e w' => e = .returned (.bool true) ∧ Below w.heap.size w w' := by
  have e1 : (p != p) = false := by simp
  have e2 : (q != q) = false := by simp
  go_enter Try.func31, Try.ntmps31
  go_wp2_with fail
  go_ret
  exact ⟨rfl, ((Below.refl _ _).alloc (Nat.le_refl _) _).alloc (by simp) _⟩
set_option maxHeartbeats 400000 in
theorem toRatio_any (p q : Int) (w : World) :
    Calls Try.prog 32 #[.agg #[.int .i64 p, .int .i64 q]] w fun e w' => e = .returned (.agg #[.int .i64 p, .int .i64 q]) ∧ Below w.heap.size w w' := by
  go_enter Try.func32, Try.ntmps32
  go_wp2
  refine bodyPost_ret (v := .agg #[.int .i64 p, .int .i64 q]) (by simp [results, Try.results32, go_sem]) rfl ⟨rfl, ?_⟩
  exact (((Below.refl _ _).alloc (Nat.le_refl _) _).alloc (by simp) _).alloc (by simp; omega) _
set_option maxHeartbeats 400000 in
theorem exMakeRatio (n d : Int) (w : World) :
    Calls Try.prog 10 #[.int .i64 n, .int .i64 d] w fun e w' => e = .returned (.bool true) ∧ Below w.heap.size w w' := by
  obtain ⟨p, q, b, hV⟩ := makeV_form n d
  have HV := Lib.hid hV; clear hV
  have hbb : (b != b) = false := by simp
  go_enter Try.func10, Try.ntmps10
  go_wp2_with fail
  refine (sMake_any _ _ _).mono ?_
  rw [HV.out]
  rintro e w1 ⟨rfl, hb1⟩
  have kA := Blk.new w1 #[.int .i64 p, .int .i64 q] 26
  have hbA := hb1.alloc hb1.size (.cells #[.int .i64 p, .int .i64 q] 26)
  go_wp2_with fail
  refine (makeRatio_any _ _ _).mono ?_
  rw [HV.out]
  rintro e w2 ⟨rfl, hb2⟩
  replace kA := kA.below hb2 kA.lt
  replace hbA := hbA.trans (hb2.mono hbA.size)
  have hlt : w1.heap.size < w2.heap.size := kA.lt
  obtain ⟨⟨x0, x1⟩, _, _⟩ := kA.two
  replace hbA := hbA.alloc hbA.size (.cells #[.int .i64 p, .int .i64 q] 26)
  go_wp2_with fail
  refine (eqRatio_same _ _ _).mono ?_
  rintro e w3 ⟨rfl, hb3⟩
  go_wp2_with fail
  go_ret
  exact ⟨rfl, hbA.trans (hb3.mono hbA.size)⟩
set_option maxHeartbeats 1000000 in
theorem exShareOf (x n d : Int) (w : World) :
    Calls Try.prog 14 #[.int .i64 x, .agg #[.int .i64 n, .int .i64 d]] w fun e w' => e = .returned (.bool true) ∧ Below w.heap.size w w' := by
  obtain ⟨p, r, hV⟩ := shareV_form x n d
  have HV := Lib.hid hV; clear hV
  have hbb : (r != r) = false := by simp
  have hpp : (p != p) = false := by simp
  have k1 := Blk.new w #[.int .i64 n, .int .i64 d] 41
  have hbA := (Below.refl w.heap.size w).alloc (Nat.le_refl _) (.cells #[.int .i64 n, .int .i64 d] 41)
  go_enter Try.func14, Try.ntmps14
  go_wp2_with fail
  refine (toRatio_any _ _ _).mono ?_
  rintro e w1 ⟨rfl, hb1⟩
  replace k1 := k1.below hb1 k1.lt
  replace hbA := hbA.trans (hb1.mono hbA.size)
  go_wp2_with fail
  refine (sShare_any _ _ _ _).mono ?_
  rw [HV.out]
  rintro e w2 ⟨rfl, hb2⟩
  replace k1 := k1.below hb2 k1.lt
  replace hbA := hbA.trans (hb2.mono hbA.size)
  obtain ⟨⟨x0, x1⟩, _, _⟩ := k1.two
  go_wp2_with fail
  refine (toRatio_any _ _ _).mono ?_
  rintro e w3 ⟨rfl, hb3⟩
  replace hbA := hbA.trans (hb3.mono hbA.size)
  clear x0 x1
  go_wp2_with fail
  refine (share_any _ _ _ _).mono ?_
  rw [HV.out]
  rintro e w4 ⟨rfl, hb4⟩
  replace hbA := hbA.trans (hb4.mono hbA.size)
  go_wp2_with fail
  go_ret
  exact ⟨rfl, hbA⟩
end Go.Proofs.Ytejhicnejjiaaaa
