/- Loans that are continued: the draw, the law. -/
import Derived.Test.YtgncgbaoijcinaaDoorRpM
import Derived.Deep.RegionHeld3
namespace Go.Proofs.YtgncgbaoijcinaaDoor
open Go.RowKit
/-- What holds all through the last statement. -/
def RrQ (w w2 : World) (g p : Nat) (c r f t h : Int) (W : World) : Prop :=
  Rdr W g p ∧ Blk W w2.heap.size 24 (rpA c r f t h) ∧ Blk W w.heap.size 24 (rpA 0 0 0 0 0) ∧ Below w.heap.size w W
section
variable {w w2 W W' : World} {g p q : Nat} {c r f t h : Int}
theorem RrQ.alloc (hQ : RrQ w w2 g p c r f t h W) (o : Obj) : RrQ w w2 g p c r f t h (W.alloc o) := ⟨hQ.1.alloc o, hQ.2.1.alloc o, hQ.2.2.1.alloc o, hQ.2.2.2.alloc hQ.2.2.2.size o⟩
theorem RrQ.drew (hQ : RrQ w w2 g p c r f t h W) : RrQ w w2 g p c r f t h W.drew := ⟨Rdr.drew hQ.1, hQ.2.1, hQ.2.2.1, hQ.2.2.2.drew⟩
theorem RrQ.one (hQ : RrQ w w2 g p c r f t h W) (hr : Rdr W' g q) (hg : W.grownBy W' (some g)) (h1 : w2.heap.size ≠ g) (h2 : w.heap.size ≠ g) (h3 : w.heap.size ≤ g) : RrQ w w2 g q c r f t h W' := ⟨hr, hQ.2.1.grown hg h1, hQ.2.2.1.grown hg h2, below_grown hQ.2.2.2 hg h3⟩
theorem RrQ.rd (hQ : RrQ w w2 g p c r f t h W) : Rdr W g p := hQ.1
theorem RrQ.x3 (hQ : RrQ w w2 g p c r f t h W) : RpS w2.heap.size c r f t h W := hQ.2.1.rp
theorem RrQ.x3p (hQ : RrQ w w2 g p c r f t h W) (hne : w2.heap.size ≠ w.heap.size) (x y z u v : Int) : RpS w2.heap.size c r f t h (put5 W w.heap.size x y z u v) := (hQ.2.1.put5o hne x y z u v).rp
end
set_option maxRecDepth 8000 in
set_option maxHeartbeats 8000000 in
theorem drawRR_any (w : World) (a : Option Addr) (len cap : Nat) (zs : List Int) (h : IsRow .u8 w a len cap zs) :
    Calls Tryd.prog 4 #[.slice a len cap] w (DRpQ w) := by
  have hb0 := (Below.refl w.heap.size w).alloc (Nat.le_refl _) (.cells (rpA 0 0 0 0 0) 24)
  have H := Lib.hid (isRowR h hb0); clear h
  have K := (Blk.new w (rpA 0 0 0 0 0) 24)
  go_enter Tryd.func4, Tryd.ntmps4
  go_wp2_with fail
  refine (newReader_any _ _ _ _ _ H.out).mono ?_
  rintro e w1 ⟨g, rfl, hg, hr, hb⟩
  replace K := K.below hb (by simp)
  simp only [World.size_alloc] at hg
  have hne : w.heap.size ≠ g := by omega
  have HB1 := Lib.hid (hb0.trans (hb.mono (by simp)))
  clear hb hb0
  go_wp2_with fail
  refine (anyRepo_any _ _ _ hr (by omega)).mono ?_
  rintro e w2 ⟨c, r, f, t, h, rfl, q0, q1, q2, q3, q4, hr2, hg2⟩
  have K2 := K.grown hg2 hne
  have HB2 := below_grown HB1.out hg2 (by omega)
  have hgl : g < w2.heap.size := hr2.lt
  have hkl2 : w.heap.size < w2.heap.size := K2.lt
  have X := Blk.new w2 (rpA c r f t h) 24
  have Q0 := Lib.hid (show RrQ w w2 g (0 + 20) c r f t h (w2.alloc (.cells (rpA c r f t h) 24)) from ⟨hr2.alloc _, X, K2.alloc _, HB2.alloc HB2.size _⟩)
  clear hg2 hr2 hr K K2 HB2 HB1
  obtain ⟨x0, x1, x2, x3, x4⟩ := X.rp
  clear X
  go_wp2_with fail
  have hne2 : w2.heap.size ≠ g := by omega
  have hne3 : w2.heap.size ≠ w.heap.size := by omega
  have hwg : w.heap.size ≤ g := by omega
  have hs1 : (w2.alloc (.cells (rpA c r f t h) 24)).heap.size = w2.heap.size + 1 := by simp
  have kA1 := Lib.hid (show Blk ((w2.alloc (.cells (rpA c r f t h) 24)).alloc (.cells #[.int .i64 1, .int .i64 7, .int .i64 0, .int .i64 (-1), .int .i64 4000, .int .i64 4001] 3)).drew (w2.heap.size + 1) 3 #[.int .i64 1, .int .i64 7, .int .i64 0, .int .i64 (-1), .int .i64 4000, .int .i64 4001] by rw [← hs1]; exact blkDrewR (Blk.new _ _ _))
  have kA2 := Lib.hid (show Blk (((w2.alloc (.cells (rpA c r f t h) 24)).alloc (.cells #[.int .i64 1, .int .i64 7, .int .i64 0, .int .i64 (-1), .int .i64 4000, .int .i64 4001] 3)).alloc (.cells #[.int .i64 300, .int .i64 0, .int .i64 3000, .int .i64 3001, .int .i64 (-1)] 3)).drew (w2.heap.size + 1) 3 #[.int .i64 1, .int .i64 7, .int .i64 0, .int .i64 (-1), .int .i64 4000, .int .i64 4001] by rw [← hs1]; exact blkDrewR ((Blk.new _ _ _).alloc _))
  have hs2 : ((w2.alloc (.cells (rpA c r f t h) 24)).alloc (.cells #[.int .i64 1, .int .i64 7, .int .i64 0, .int .i64 (-1), .int .i64 4000, .int .i64 4001] 3)).heap.size = w2.heap.size + 1 + 1 := by simp
  have kB2 := Lib.hid (show Blk (((w2.alloc (.cells (rpA c r f t h) 24)).alloc (.cells #[.int .i64 1, .int .i64 7, .int .i64 0, .int .i64 (-1), .int .i64 4000, .int .i64 4001] 3)).alloc (.cells #[.int .i64 300, .int .i64 0, .int .i64 3000, .int .i64 3001, .int .i64 (-1)] 3)).drew (w2.heap.size + 1 + 1) 3 #[.int .i64 300, .int .i64 0, .int .i64 3000, .int .i64 3001, .int .i64 (-1)] by rw [← hs2]; exact blkDrewR (Blk.new _ _ _))
  have hs3 : ((w2.alloc (.cells (rpA c r f t h) 24)).alloc (.cells #[.int .i64 300, .int .i64 0, .int .i64 3000, .int .i64 3001, .int .i64 (-1)] 3)).heap.size = w2.heap.size + 1 + 1 := by simp
  have kA3 := Lib.hid (show Blk (((w2.alloc (.cells (rpA c r f t h) 24)).alloc (.cells #[.int .i64 300, .int .i64 0, .int .i64 3000, .int .i64 3001, .int .i64 (-1)] 3)).alloc (.cells #[.int .i64 1, .int .i64 7, .int .i64 0, .int .i64 (-1), .int .i64 4000, .int .i64 4001] 3)).drew (w2.heap.size + 1 + 1) 3 #[.int .i64 1, .int .i64 7, .int .i64 0, .int .i64 (-1), .int .i64 4000, .int .i64 4001] by rw [← hs3]; exact blkDrewR (Blk.new _ _ _))
  have kB3 := Lib.hid (show Blk (((w2.alloc (.cells (rpA c r f t h) 24)).alloc (.cells #[.int .i64 300, .int .i64 0, .int .i64 3000, .int .i64 3001, .int .i64 (-1)] 3)).alloc (.cells #[.int .i64 1, .int .i64 7, .int .i64 0, .int .i64 (-1), .int .i64 4000, .int .i64 4001] 3)).drew (w2.heap.size + 1) 3 #[.int .i64 300, .int .i64 0, .int .i64 3000, .int .i64 3001, .int .i64 (-1)] by rw [← hs1]; exact blkDrewR ((Blk.new _ _ _).alloc _))
  have Q01 := Lib.hid ((Q0.out.alloc (.cells #[.int .i64 1, .int .i64 7, .int .i64 0, .int .i64 (-1), .int .i64 4000, .int .i64 4001] 3)).drew)
  have Q02 := Lib.hid (((Q0.out.alloc (.cells #[.int .i64 1, .int .i64 7, .int .i64 0, .int .i64 (-1), .int .i64 4000, .int .i64 4001] 3)).alloc (.cells #[.int .i64 300, .int .i64 0, .int .i64 3000, .int .i64 3001, .int .i64 (-1)] 3)).drew)
  have Q03 := Lib.hid (((Q0.out.alloc (.cells #[.int .i64 300, .int .i64 0, .int .i64 3000, .int .i64 3001, .int .i64 (-1)] 3)).alloc (.cells #[.int .i64 1, .int .i64 7, .int .i64 0, .int .i64 (-1), .int .i64 4000, .int .i64 4001] 3)).drew)
  have C1 := Lib.hid (one_any (-1) 4001 ((w2.alloc (.cells (rpA c r f t h) 24)).alloc (.cells #[.int .i64 1, .int .i64 7, .int .i64 0, .int .i64 (-1), .int .i64 4000, .int .i64 4001] 3)).drew g (0 + 20) (w2.heap.size + 1) #[.int .i64 1, .int .i64 7, .int .i64 0, .int .i64 (-1), .int .i64 4000, .int .i64 4001] 3 Q01.out.1 (by omega) kA1.out (by omega) (by simp) (by simp) (by decide) 6 6 (by rfl))
  have C2 := Lib.hid (one_any (-1) 4001 (((w2.alloc (.cells (rpA c r f t h) 24)).alloc (.cells #[.int .i64 1, .int .i64 7, .int .i64 0, .int .i64 (-1), .int .i64 4000, .int .i64 4001] 3)).alloc (.cells #[.int .i64 300, .int .i64 0, .int .i64 3000, .int .i64 3001, .int .i64 (-1)] 3)).drew g (0 + 20) (w2.heap.size + 1) #[.int .i64 1, .int .i64 7, .int .i64 0, .int .i64 (-1), .int .i64 4000, .int .i64 4001] 3 Q02.out.1 (by omega) kA2.out (by omega) (by simp) (by simp) (by decide) 6 6 (by rfl))
  have C3 := Lib.hid (one_any (-1) 4001 (((w2.alloc (.cells (rpA c r f t h) 24)).alloc (.cells #[.int .i64 300, .int .i64 0, .int .i64 3000, .int .i64 3001, .int .i64 (-1)] 3)).alloc (.cells #[.int .i64 1, .int .i64 7, .int .i64 0, .int .i64 (-1), .int .i64 4000, .int .i64 4001] 3)).drew g (0 + 20) (w2.heap.size + 1 + 1) #[.int .i64 1, .int .i64 7, .int .i64 0, .int .i64 (-1), .int .i64 4000, .int .i64 4001] 3 Q03.out.1 (by omega) kA3.out (by omega) (by simp) (by simp) (by decide) 6 6 (by rfl))
  have D := Lib.hid (fun (W : World) (b p : Nat) (hq : Rdr W g p) (hp : p ≤ 800000) (hk : Blk W b 3 #[.int .i64 300, .int .i64 0, .int .i64 3000, .int .i64 3001, .int .i64 (-1)]) (hb : g < b) => one_any (-1) 3001 W g p b #[.int .i64 300, .int .i64 0, .int .i64 3000, .int .i64 3001, .int .i64 (-1)] 3 hq (by omega) hk (by omega) (by simp) (by simp) (by decide) 5 5 (by rfl))
  clear hs1 hs2 hs3
  go_region_held3 (RpS w2.heap.size c r f t h) (first | with_reducible exact Q0.out.x3 | with_reducible exact Q0.out.drew.x3 | with_reducible exact (Q0.out.alloc _).x3 | with_reducible exact (Q0.out.alloc _).drew.x3 | with_reducible exact ((Q0.out.alloc _).alloc _).drew.x3 | with_reducible exact QQ.out.x3 | with_reducible exact (QQ.out.alloc _).x3 | with_reducible exact (Q2.x3p hne3 _ _ _ _ _) | with_reducible exact Q2.x3) (first | ((go_at_call 11; (with_reducible refine (C1.out).mono ?_); rintro e w5 ⟨xa, rfl, ⟨xa0, xa1⟩, hr5, hg5⟩; have QQ := Lib.hid (RrQ.one Q01.out hr5 hg5 hne2 hne hwg); have hgw5 := hr5.lt; have W1 : IntKind.i64.wrap (t + xa) = t + xa := IntWalk.i64_in _ (by omega))) | ((go_at_call 11; (with_reducible refine (C2.out).mono ?_); rintro e w5 ⟨xa, rfl, ⟨xa0, xa1⟩, hr5, hg5⟩; have QQ := Lib.hid (RrQ.one Q02.out hr5 hg5 hne2 hne hwg); have KB := Lib.hid (Blk.grown kB2.out hg5 (by omega)); have hgw5 := hr5.lt; have W1 : IntKind.i64.wrap (t + xa) = t + xa := IntWalk.i64_in _ (by omega))) | ((go_at_call 11; (with_reducible refine (C3.out).mono ?_); rintro e w5 ⟨xa, rfl, ⟨xa0, xa1⟩, hr5, hg5⟩; have QQ := Lib.hid (RrQ.one Q03.out hr5 hg5 hne2 hne hwg); have KB := Lib.hid (Blk.grown kB3.out hg5 (by omega)); have hgw5 := hr5.lt; have W1 : IntKind.i64.wrap (t + xa) = t + xa := IntWalk.i64_in _ (by omega))) | ((go_at_call 11; (with_reducible refine (D.out _ _ _ QQ.out.rd (by omega) KB.out (by omega)).mono ?_); rintro e w6 ⟨xb, rfl, ⟨xb0, xb1⟩, hr6, hg6⟩; have Q2 := RrQ.one (by first | with_reducible exact QQ.out | with_reducible exact (QQ.out.alloc _)) hr6 hg6 hne2 hne hwg; obtain ⟨y0, y1, y2, y3, y4⟩ := Q2.2.2.1.rp; obtain ⟨f0, f1, f2, f3, f4⟩ := Q2.2.2.1.rpFz)) | ((go_at_call 11; (with_reducible refine (D.out _ _ _ (QQ.out.alloc _).rd (by omega) (Blk.new _ _ _) (by omega)).mono ?_); rintro e w6 ⟨xb, rfl, ⟨xb0, xb1⟩, hr6, hg6⟩; have Q2 := RrQ.one (by first | with_reducible exact QQ.out | with_reducible exact (QQ.out.alloc _)) hr6 hg6 hne2 hne hwg; obtain ⟨y0, y1, y2, y3, y4⟩ := Q2.2.2.1.rp; obtain ⟨f0, f1, f2, f3, f4⟩ := Q2.2.2.1.rpFz)))
  all_goals go_wp2_with fail
  all_goals
    obtain ⟨r0', r1', r2', r3', r4'⟩ := (Q2.2.2.1.put5 c r f t h).rp
    refine bodyPost_ret (v := .tuple #[rpV c r f t h, .int .i64 (t + xa), .int .i64 xb]) (by simp [results, Tryd.results4, go_sem, r0', r1', r2', r3', r4']) rfl ⟨c, r, f, t, h, t + xa, xb, rfl, ⟨q0, q1, q2, q3, q4⟩, by omega, by omega, put5_below Q2.2.2.2 (Nat.le_refl _) _ _ _ _ _⟩
end Go.Proofs.YtgncgbaoijcinaaDoor
