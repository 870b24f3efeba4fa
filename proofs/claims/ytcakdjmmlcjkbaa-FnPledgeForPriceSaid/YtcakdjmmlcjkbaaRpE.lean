/- The arguments of loans' laws, drawn. -/
import Derived.Test.YtcakdjmmlcjkbaaRpD
namespace Go.Proofs.Ytcakdjmmlcjkbaa
open Go.RowKit
theorem isRowR {k : IntKind} {w w' : World} {a : Option Addr} {len cap : Nat} {zs : List Int} (h : IsRow k w a len cap zs) (hb : Below w.heap.size w w') : IsRow k w' a len cap zs := by
  rcases h with h | ⟨x, e, h1, h2, h3, h4, h5⟩
  · exact .inl h
  · exact .inr ⟨x, e, h1, h2, h3, fun i hi => (hb.cell (p := x.add i) (World.block_lt_of_cell? w _ (h4 i hi))).trans (h4 i hi), h5⟩
abbrev RpIn (c r f t h : Int) : Prop := (0 ≤ c ∧ c ≤ 100000001) ∧ (0 ≤ r ∧ r ≤ 3000) ∧ (0 ≤ f ∧ f ≤ 36524) ∧ (-1 ≤ t ∧ t ≤ 40525) ∧ (-1 ≤ h ∧ h ≤ 501)
/-- A loan drawn. -/
def DRp (w : World) (e : Ending) (w' : World) : Prop :=
  ∃ c r f t h : Int, e = .returned (rpV c r f t h) ∧ RpIn c r f t h ∧ Below w.heap.size w w'
def DRpP (w : World) (e : Ending) (w' : World) : Prop :=
  ∃ c r f t h n : Int, e = .returned (.tuple #[rpV c r f t h, .int .i64 n]) ∧ RpIn c r f t h ∧ (-1 ≤ n ∧ n ≤ 50001) ∧ Below w.heap.size w w'
def DRpQ (w : World) (e : Ending) (w' : World) : Prop :=
  ∃ c r f t h n m : Int, e = .returned (.tuple #[rpV c r f t h, .int .i64 n, .int .i64 m]) ∧ RpIn c r f t h ∧ (-1000000000000 ≤ n ∧ n ≤ 1000000000000) ∧ (-1000000000000 ≤ m ∧ m ≤ 1000000000000) ∧ Below w.heap.size w w'
set_option maxHeartbeats 1000000 in
theorem anyPriceR_any (w : World) (g p : Nat) (h : Rdr w g p) (hp : p ≤ 800000) :
    Calls Try.prog 31 #[.pointer (some ⟨g, 0, none⟩)] w fun x w' => ∃ c : Int, x = .returned (.int .i64 c) ∧ (-1 ≤ c ∧ c ≤ 50001) ∧ w.grownBy w' (some g) := by
  have hgl := h.lt
  go_enter Try.func31, Try.ntmps31
  go_wp2_with fail
  refine (pick_any _ _ _ _ h (by omega) (by omega) (by omega)).mono ?_
  rintro x w1 ⟨v, rfl, ⟨hv, -⟩, hr1, hg1⟩
  obtain ⟨v0, v1⟩ := hv (by omega)
  have OK : Hid (okInts (-1) 50001 #[.int .i64 10000, .int .i64 9850, .int .i64 10123, .int .i64 1, .int .i64 0, .int .i64 50000, .int .i64 50001, .int .i64 (-1), .int .i64 (5000 + v * 40)] = true) := Lib.hid (by simp [okInts, okInt]; omega)
  go_wp2_with fail
  refine (one_any (-1) 50001 _ g (p + 1) w1.heap.size _ _ (hr1.alloc _) (by omega) (heap_alloc_new w1 _) (by have := hr1.lt; omega) (by simp) (by simp) OK.out 9 9 (by rfl)).mono ?_
  rintro x w2 ⟨c, rfl, ⟨c0, c1⟩, hr2, hg2⟩
  go_wp2_with fail
  go_ret
  exact ⟨c, rfl, ⟨c0, c1⟩, grown_trans (grown_alloc hg1 _) hg2⟩
set_option maxHeartbeats 2000000 in
theorem drawPF_any (w : World) (a : Option Addr) (len cap : Nat) (zs : List Int) (h : IsRow .u8 w a len cap zs) :
    Calls Try.prog 13 #[.slice a len cap] w (DRpP w) := by
  have hb0 := (Below.refl w.heap.size w).alloc (Nat.le_refl _) (.cells (rpA 0 0 0 0 0) 24)
  have H := Lib.hid (isRowR h hb0); clear h
  have K := (Blk.new w (rpA 0 0 0 0 0) 24)
  go_enter Try.func13, Try.ntmps13
  go_wp2_with fail
  refine (newReader_any _ _ _ _ _ H.out).mono ?_
  rintro e w1 ⟨g, rfl, hg, hr, hb⟩
  replace K := K.below hb (by simp)
  simp only [World.size_alloc] at hg
  have hne : w.heap.size ≠ g := by omega
  have HB1 := Lib.hid (hb0.trans (hb.mono (by simp)))
  clear hb hb0
  go_wp2_with fail
  refine (anyRepo_any _ _ _ hr (by omega)).mono ?_
  rintro e w2 ⟨c, r, f, t, h, rfl, q0, q1, q2, q3, q4, hr2, hg2⟩
  replace K := (K.grown hg2 hne).alloc (.cells (rpA c r f t h) 24)
  have X := Blk.new w2 (rpA c r f t h) 24
  have HR2 := Lib.hid (hr2.alloc (.cells (rpA c r f t h) 24))
  have hgl : g < w2.heap.size := hr2.lt
  have HB2 := Lib.hid ((below_grown HB1.out hg2 (by omega)).alloc (below_grown HB1.out hg2 (by omega)).size (.cells (rpA c r f t h) 24))
  clear hg2 hr2
  obtain ⟨x0, x1, x2, x3, x4⟩ := X.rp
  have HX := Lib.hid X
  have HK := Lib.hid K
  clear X K
  go_wp2_with fail
  have hne2 : w2.heap.size ≠ g := by omega
  have hne3 : w2.heap.size ≠ w.heap.size := by have := HK.out.lt; have := HB1.out.size; omega
  go_region_held3 (RpS w2.heap.size c r f t h) (first | with_reducible exact Blk.rp HX.out | with_reducible exact Blk.rp (blkDrewR HX.out) | with_reducible exact Blk.rp k3 | with_reducible exact Blk.rp (k3.put5o hne3 _ _ _ _ _)) (first | (go_at_call 31; refine (anyPriceR_any _ g _ (by exact HR2.out) (by omega)).mono ?_; rintro e w3 ⟨n, rfl, ⟨n0, n1⟩, hg3⟩; have k3 := Blk.grown (blkDrewR HX.out) hg3 hne2; have z3 := Blk.grown (blkDrewR HK.out) hg3 hne; obtain ⟨f0, f1, f2, f3, f4⟩ := z3.rpFz; obtain ⟨y0, y1, y2, y3, y4⟩ := z3.rp; have hb4 := below_grown HB2.out.drew hg3 (by omega)))
  all_goals go_wp2_with fail
  all_goals
    obtain ⟨r0', r1', r2', r3', r4'⟩ := (z3.put5 c r f t h).rp
    refine bodyPost_ret (v := .tuple #[rpV c r f t h, .int .i64 n]) (by simp [results, Try.results13, go_sem, r0', r1', r2', r3', r4']) rfl ⟨c, r, f, t, h, n, rfl, ⟨q0, q1, q2, q3, q4⟩, ⟨n0, n1⟩, put5_below hb4 (by omega) _ _ _ _ _⟩
set_option maxHeartbeats 2000000 in
theorem drawMC_any (w : World) (a : Option Addr) (len cap : Nat) (zs : List Int) (h : IsRow .u8 w a len cap zs) :
    Calls Try.prog 16 #[.slice a len cap] w (DRpQ w) := by
  have hb0 := (Below.refl w.heap.size w).alloc (Nat.le_refl _) (.cells (rpA 0 0 0 0 0) 24)
  have H := Lib.hid (isRowR h hb0); clear h
  have K := (Blk.new w (rpA 0 0 0 0 0) 24)
  go_enter Try.func16, Try.ntmps16
  go_wp2_with fail
  refine (newReader_any _ _ _ _ _ H.out).mono ?_
  rintro e w1 ⟨g, rfl, hg, hr, hb⟩
  have H1 := Lib.hid (isRowR H.out hb)
  replace K := K.below hb (by simp)
  simp only [World.size_alloc] at hg
  have hne : w.heap.size ≠ g := by omega
  have hgl : g < w1.heap.size := hr.lt
  have HB1 := Lib.hid (hb0.trans (hb.mono (by simp)))
  clear hb hb0
  go_wp2_with fail
  refine (drawPF_any _ _ _ _ _ H1.out).mono ?_
  rintro e w2 ⟨c, r, f, t, h, n, rfl, ⟨q0, q1, q2, q3, q4⟩, n0, hb2⟩
  replace K := (K.below hb2 K.lt).alloc (.cells (rpA c r f t h) 24)
  have X := Blk.new w2 (rpA c r f t h) 24
  have HR2 := Lib.hid ((hr.below hb2 hr.lt).alloc (.cells (rpA c r f t h) 24))
  have hb2' := HB1.out.trans (hb2.mono HB1.out.size)
  have HB2 := Lib.hid (hb2'.alloc hb2'.size (.cells (rpA c r f t h) 24))
  have hgl2 : g < w2.heap.size := (hr.below hb2 hr.lt).lt
  have hkl2 : w.heap.size < w2.heap.size := by have := hb2.size; have := HB1.out.size; omega
  clear hb2 hb2' hr
  obtain ⟨x0, x1, x2, x3, x4⟩ := X.rp
  have HX := Lib.hid X
  have HK := Lib.hid K
  clear X K
  go_wp2_with fail
  refine (splg_any _ _ _ _ _ _ _).mono ?_
  obtain ⟨b0, b1⟩ := Rp.plg_bd (c := c) (r := r) (f := f) (t := t) (h := h) (p := n)
  generalize Rp.plg c r f t h n = m at *
  rintro e w3 ⟨rfl, hb3⟩
  have HX3 := Lib.hid (HX.out.below hb3 HX.out.lt)
  have HK3 := Lib.hid (HK.out.below hb3 HK.out.lt)
  have HR3 := Lib.hid (HR2.out.below hb3 HR2.out.lt)
  have HB3 := Lib.hid (HB2.out.trans (hb3.mono HB2.out.size))
  clear hb3 x0 x1 x2 x3 x4
  obtain ⟨x0, x1, x2, x3, x4⟩ := HX3.out.rp
  have hgl3 : g < w3.heap.size := HR3.out.lt
  have W1 : IntKind.i64.wrap (m - 1) = m - 1 := IntWalk.i64_in _ (by omega)
  have W2 : IntKind.i64.wrap (m + 5) = m + 5 := IntWalk.i64_in _ (by omega)
  have OK : Hid (okInts (-2) 100000000005 #[.int .i64 m, .int .i64 (m - 1), .int .i64 (m + 5), .int .i64 0, .int .i64 (-1), .int .i64 10, .int .i64 1000000000, .int .i64 1000000001] = true) := Lib.hid (by simp [okInts, okInt]; omega)
  go_wp2_with fail
  have hne2 : w2.heap.size ≠ g := by omega
  have hne3 : w2.heap.size ≠ w.heap.size := by omega
  go_region_held3 (RpS w2.heap.size c r f t h) (first | with_reducible exact Blk.rp HX3.out | with_reducible exact Blk.rp (blkDrewR HX3.out) | with_reducible exact Blk.rp ((blkDrewR HX3.out).alloc _) | with_reducible exact Blk.rp (blkDrewR (HX3.out.alloc _)) | with_reducible exact Blk.rp k3 | with_reducible exact Blk.rp (k3.put5o hne3 _ _ _ _ _)) (first | (go_at_call 38; (try rw [W1]); (try rw [W2]); refine (one_any (-2) 100000000005 _ g 0 w3.heap.size #[.int .i64 m, .int .i64 (m - 1), .int .i64 (m + 5), .int .i64 0, .int .i64 (-1), .int .i64 10, .int .i64 1000000000, .int .i64 1000000001] 3 ?_ (by omega) ?_ (by omega) (by simp) (by simp) OK.out 8 8 (by rfl)).mono ?_; (exact Rdr.drew (HR3.out.alloc _)); (exact heap_alloc_new w3 _); rintro e w4 ⟨k, rfl, ⟨k0, k1⟩, hr4, hg4⟩; have k3 := Blk.grown (blkDrewR (HX3.out.alloc _)) hg4 hne2; have z3 := Blk.grown (blkDrewR (HK3.out.alloc _)) hg4 hne; obtain ⟨f0, f1, f2, f3, f4⟩ := z3.rpFz; obtain ⟨y0, y1, y2, y3, y4⟩ := z3.rp; have hb4 := below_grown (HB3.out.alloc HB3.out.size _).drew hg4 (by omega)))
  all_goals go_wp2_with fail
  all_goals
    obtain ⟨r0', r1', r2', r3', r4'⟩ := (z3.put5 c r f t h).rp
    refine bodyPost_ret (v := .tuple #[rpV c r f t h, .int .i64 n, .int .i64 k]) (by simp [results, Try.results16, go_sem, r0', r1', r2', r3', r4']) rfl ⟨c, r, f, t, h, n, k, rfl, ⟨q0, q1, q2, q3, q4⟩, by omega, by omega, put5_below hb4 (by omega) _ _ _ _ _⟩
end Go.Proofs.Ytcakdjmmlcjkbaa
