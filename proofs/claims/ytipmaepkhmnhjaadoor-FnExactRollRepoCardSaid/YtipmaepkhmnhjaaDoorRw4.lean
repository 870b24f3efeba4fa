/- The walks of the program's sums and products of ratios. -/
import Derived.Test.YtipmaepkhmnhjaaDoorRw3
namespace Go.Proofs.YtipmaepkhmnhjaaDoor
open Go.RowKit

def addRV (a b c d : Int) : Value := if vrB a b = true ∧ vrB c d = true then lowV (a * d + c * b) (b * d) else .tuple #[.agg #[.int .i64 0, .int .i64 0], .bool false]
set_option maxHeartbeats 1000000 in
theorem addR_any (a b c d : Int) (w : World) :
    Calls Tryd.prog 20 #[.agg #[.int .i64 a, .int .i64 b], .agg #[.int .i64 c, .int .i64 d]] w fun e w' => e = .returned (addRV a b c d) ∧ Below w.heap.size w w' := by
  have kA := ((Blk.new w #[.int .i64 a, .int .i64 b] 26).alloc (.cells #[.int .i64 c, .int .i64 d] 26)).alloc (.cells #[.int .i64 0, .int .i64 0] 26)
  have kB := (Blk.new (w.alloc (.cells #[.int .i64 a, .int .i64 b] 26)) #[.int .i64 c, .int .i64 d] 26).alloc (.cells #[.int .i64 0, .int .i64 0] 26)
  have kR := Blk.new ((w.alloc (.cells #[.int .i64 a, .int .i64 b] 26)).alloc (.cells #[.int .i64 c, .int .i64 d] 26)) #[.int .i64 0, .int .i64 0] 26
  have hbA := (((Below.refl w.heap.size w).alloc (Nat.le_refl _) (.cells #[.int .i64 a, .int .i64 b] 26)).alloc (by simp) (.cells #[.int .i64 c, .int .i64 d] 26)).alloc (by simp; omega) (.cells #[.int .i64 0, .int .i64 0] 26)
  simp only [World.size_alloc] at kA kB kR
  cases hv1 : vrB a b with
  | false =>
    have E := Lib.hid (show addRV a b c d = .tuple #[.agg #[.int .i64 0, .int .i64 0], .bool false] by unfold addRV; rw [if_neg (by simp [hv1])])
    go_enter Tryd.func20, Tryd.ntmps20
    go_wp2_with fail
    refine (valid_any _ _ _).mono ?_
    rintro e w1 ⟨rfl, hb1⟩
    replace kR := kR.below hb1 (by simp)
    replace hbA := hbA.trans (hb1.mono hbA.size)
    obtain ⟨⟨r0, r1⟩, f0, f1⟩ := kR.two
    clear kA kB
    go_wp2_with fail
    refine bodyPost_ret (v := .tuple #[.agg #[.int .i64 0, .int .i64 0], .bool false]) (by simp [results, Tryd.results20, go_sem, r0, r1]) rfl ⟨by rw [E.out], ?_⟩
    exact (hbA.setCell (by simp; omega) _).setCell (by simp; omega) _
  | true =>
    cases hv2 : vrB c d with
    | false =>
      have E := Lib.hid (show addRV a b c d = .tuple #[.agg #[.int .i64 0, .int .i64 0], .bool false] by unfold addRV; rw [if_neg (by simp [hv2])])
      go_enter Tryd.func20, Tryd.ntmps20
      go_wp2_with fail
      refine (valid_any _ _ _).mono ?_
      rintro e w1 ⟨rfl, hb1⟩
      replace kR := kR.below hb1 (by simp)
      replace kB := kB.below hb1 (by simp)
      replace hbA := hbA.trans (hb1.mono hbA.size)
      obtain ⟨⟨x0, x1⟩, _, _⟩ := kB.two
      go_wp2_with fail
      refine (valid_any _ _ _).mono ?_
      rintro e w2 ⟨rfl, hb2⟩
      replace kR := kR.below hb2 kR.lt
      replace hbA := hbA.trans (hb2.mono hbA.size)
      obtain ⟨⟨r0, r1⟩, f0, f1⟩ := kR.two
      clear kA kB x0 x1
      go_wp2_with fail
      refine bodyPost_ret (v := .tuple #[.agg #[.int .i64 0, .int .i64 0], .bool false]) (by simp [results, Tryd.results20, go_sem, r0, r1]) rfl ⟨by rw [E.out], ?_⟩
      exact (hbA.setCell (by simp; omega) _).setCell (by simp; omega) _
    | true =>
      have HV := Lib.hid (show addRV a b c d = lowV (a * d + c * b) (b * d) by unfold addRV; rw [if_pos ⟨hv1, hv2⟩])
      have q1 := vrB_iff.1 hv1
      have q2 := vrB_iff.1 hv2
      obtain ⟨g1, g2, g3, g4, _⟩ := q1
      obtain ⟨i1, i2, i3, i4, _⟩ := q2
      have p0 := mul_bd (a := a) (b := d) (A := 2000000) (B := 2000000) (by omega) (by omega) (by omega) (by omega)
      obtain ⟨p0a, p0b⟩ := p0
      have p1 := mul_bd (a := c) (b := b) (A := 2000000) (B := 2000000) (by omega) (by omega) (by omega) (by omega)
      obtain ⟨p1a, p1b⟩ := p1
      have p2 := mul_bd (a := b) (b := d) (A := 2000000) (B := 2000000) (by omega) (by omega) (by omega) (by omega)
      obtain ⟨p2a, p2b⟩ := p2
      have hDp : 1 ≤ b * d := Int.mul_pos (show 0 < b by omega) (show 0 < d by omega)
      go_enter Tryd.func20, Tryd.ntmps20
      go_wp2_with fail
      refine (valid_any _ _ _).mono ?_
      rintro e w1 ⟨rfl, hb1⟩
      replace kR := kR.below hb1 (by simp)
      replace kB := kB.below hb1 (by simp)
      replace kA := kA.below hb1 (by simp; omega)
      replace hbA := hbA.trans (hb1.mono hbA.size)
      obtain ⟨⟨x0, x1⟩, _, _⟩ := kB.two
      go_wp2_with fail
      refine (valid_any _ _ _).mono ?_
      rintro e w2 ⟨rfl, hb2⟩
      replace kR := kR.below hb2 kR.lt
      replace kB := kB.below hb2 kB.lt
      replace kA := kA.below hb2 kA.lt
      replace hbA := hbA.trans (hb2.mono hbA.size)
      clear x0 x1
      obtain ⟨⟨x0, x1⟩, _, _⟩ := kB.two
      obtain ⟨⟨y0, y1⟩, _, _⟩ := kA.two
      go_wp2_with fail
      cases ht : termsB (Rt.ln (a * d + c * b) (b * d)) (Rt.ld (a * d + c * b) (b * d)) with
      | true =>
        have e1 : lowV (a * d + c * b) (b * d) = .tuple #[.agg #[.int .i64 (Rt.ln (a * d + c * b) (b * d)), .int .i64 (Rt.ld (a * d + c * b) (b * d))], .bool true] := if_pos ht
        have E1 := Lib.hid e1; clear e1 ht
        refine (lowestValid_any _ _ _ hDp (by omega) (by omega) (by omega)).mono ?_
        rw [E1.out]
        rintro e w3 ⟨rfl, hb3⟩
        replace kR := kR.below hb3 kR.lt
        replace hbA := hbA.trans (hb3.mono hbA.size)
        obtain ⟨⟨r0, r1⟩, f0, f1⟩ := kR.two
        clear kA kB x0 x1 y0 y1
        go_wp2_with fail
        refine bodyPost_ret (v := .tuple #[.agg #[.int .i64 (Rt.ln (a * d + c * b) (b * d)), .int .i64 (Rt.ld (a * d + c * b) (b * d))], .bool true]) (by simp [results, Tryd.results20, go_sem, r0, r1]) rfl ⟨by rw [HV.out, E1.out], ?_⟩
        exact (hbA.setCell (by simp; omega) _).setCell (by simp; omega) _
      | false =>
        have e1 : lowV (a * d + c * b) (b * d) = .tuple #[.agg #[.int .i64 0, .int .i64 0], .bool false] := if_neg (by rw [ht]; decide)
        have E1 := Lib.hid e1; clear e1 ht
        refine (lowestValid_any _ _ _ hDp (by omega) (by omega) (by omega)).mono ?_
        rw [E1.out]
        rintro e w3 ⟨rfl, hb3⟩
        replace kR := kR.below hb3 kR.lt
        replace hbA := hbA.trans (hb3.mono hbA.size)
        obtain ⟨⟨r0, r1⟩, f0, f1⟩ := kR.two
        clear kA kB x0 x1 y0 y1
        go_wp2_with fail
        refine bodyPost_ret (v := .tuple #[.agg #[.int .i64 0, .int .i64 0], .bool false]) (by simp [results, Tryd.results20, go_sem, r0, r1]) rfl ⟨by rw [HV.out, E1.out], ?_⟩
        exact (hbA.setCell (by simp; omega) _).setCell (by simp; omega) _

def mulRV (a b c d : Int) : Value := if vrB a b = true ∧ vrB c d = true then lowV (a * c) (b * d) else .tuple #[.agg #[.int .i64 0, .int .i64 0], .bool false]
end Go.Proofs.YtipmaepkhmnhjaaDoor
