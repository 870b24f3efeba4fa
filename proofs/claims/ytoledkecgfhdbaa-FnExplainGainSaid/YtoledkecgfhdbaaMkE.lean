/- Two positions, a coupon and a cost drawn out of a law's input. -/
import Derived.Test.YtoledkecgfhdbaaMkC
import Derived.Test.YtoledkecgfhdbaaMkD
namespace Go.Proofs.Ytoledkecgfhdbaa
open Go.RowKit
/-- What holds all through the last statement of the draw. -/
structure DH (w : World) (B1 B2 : Nat) (m c a n d b : Int) (r1 r2 : Tri) (W : World) : Prop where
  bl : Below w.heap.size w W
  k1 : Blk W B1 24 (mkA (m, c, a))
  k2 : Blk W B2 24 (mkA (n, d, b))
  s1 : Blk W w.heap.size 24 (mkA r1)
  s2 : Blk W (w.heap.size + 1) 24 (mkA r2)
  h1 : w.heap.size + 2 < B1
  h2 : B1 < B2
structure DG (w : World) (g p B1 B2 : Nat) (m c a n d b : Int) (r1 r2 : Tri) (W : World) : Prop where
  h : DH w B1 B2 m c a n d b r1 r2 W
  rd : Rdr W g p
  h0 : w.heap.size + 2 ≤ g
  h1 : g < B1
section
variable {w W W' : World} {g p q B1 B2 : Nat} {m c a n d b : Int} {r1 r2 : Tri}
theorem DH.alloc (h : DH w B1 B2 m c a n d b r1 r2 W) (o : Obj) : DH w B1 B2 m c a n d b r1 r2 (W.alloc o) := ⟨h.bl.alloc h.bl.size o, h.k1.alloc o, h.k2.alloc o, h.s1.alloc o, h.s2.alloc o, h.h1, h.h2⟩
theorem DH.drew (h : DH w B1 B2 m c a n d b r1 r2 W) : DH w B1 B2 m c a n d b r1 r2 W.drew := ⟨h.bl.drew, h.k1, h.k2, h.s1, h.s2, h.h1, h.h2⟩
theorem DG.alloc (h : DG w g p B1 B2 m c a n d b r1 r2 W) (o : Obj) : DG w g p B1 B2 m c a n d b r1 r2 (W.alloc o) := ⟨h.h.alloc o, h.rd.alloc o, h.h0, h.h1⟩
theorem DG.drew (h : DG w g p B1 B2 m c a n d b r1 r2 W) : DG w g p B1 B2 m c a n d b r1 r2 W.drew := ⟨h.h.drew, Rdr.drew h.rd, h.h0, h.h1⟩
theorem DG.one (h : DG w g p B1 B2 m c a n d b r1 r2 W) (hr : Rdr W' g q) (hg : W.grownBy W' (some g)) : DG w g q B1 B2 m c a n d b r1 r2 W' := by
  have e0 := h.h0
  have e1 := h.h1
  have e2 := h.h.h2
  exact ⟨⟨below_grown h.h.bl hg (by omega), h.h.k1.grown hg (by omega), h.h.k2.grown hg (by omega), h.h.s1.grown hg (by omega), h.h.s2.grown hg (by omega), h.h.h1, h.h.h2⟩, hr, h.h0, h.h1⟩
theorem DH.t (h : DH w B1 B2 m c a n d b r1 r2 W) : MkT B1 m c a B2 n d b W := ⟨h.k1.three.1, h.k2.three.1⟩
theorem DG.t (h : DG w g p B1 B2 m c a n d b r1 r2 W) : MkT B1 m c a B2 n d b W := h.h.t
theorem Blk.putO {W : World} {g : Nat} {T : TypeId} {cs : Array Value} (k : Blk W g T cs) {b : Nat} (hq : g ≠ b) (d m c : Int) : Blk (pM W b d m c) g T cs := ((k.far (q := ⟨b, 0, none⟩) hq _).far (q := ⟨b, 1, none⟩) hq _).far (q := ⟨b, 2, none⟩) hq _
theorem putM_below {B : Nat} {a W : World} (k : Below B a W) {b : Nat} (hq : B ≤ b) (d m c : Int) : Below B a (pM W b d m c) := ((k.setCell (p := ⟨b, 0, none⟩) hq _).setCell (p := ⟨b, 1, none⟩) hq _).setCell (p := ⟨b, 2, none⟩) hq _
theorem DH.put1 {r1 : Int × Int × Int} (h : DH w B1 B2 m c a n d b r1 r2 W) (x y z : Int) : DH w B1 B2 m c a n d b (x, y, z) r2 (pM W w.heap.size x y z) := by
  have e1 := h.h1
  have e2 := h.h2
  obtain ⟨u, v, t⟩ := r1
  exact ⟨putM_below h.bl (Nat.le_refl _) x y z, h.k1.putO (by omega) x y z, h.k2.putO (by omega) x y z, h.s1.putM3 x y z, h.s2.putO (by omega) x y z, h.h1, h.h2⟩
theorem DH.put2 {r2 : Int × Int × Int} (h : DH w B1 B2 m c a n d b r1 r2 W) (x y z : Int) : DH w B1 B2 m c a n d b r1 (x, y, z) (pM W (w.heap.size + 1) x y z) := by
  have e1 := h.h1
  have e2 := h.h2
  obtain ⟨u, v, t⟩ := r2
  exact ⟨putM_below h.bl (by omega) x y z, h.k1.putO (by omega) x y z, h.k2.putO (by omega) x y z, h.s1.putO (by omega) x y z, h.s2.putM3 x y z, h.h1, h.h2⟩
end
def DMk (w : World) (e : Ending) (w' : World) : Prop :=
  ∃ m c a n d b x y : Int, e = .returned (.tuple #[triV (m, c, a), triV (n, d, b), .int .i64 x, .int .i64 y]) ∧ (-10000 ≤ m ∧ m ≤ 10000) ∧ (-1 ≤ x ∧ x ≤ 50001) ∧ (-1000000001 ≤ y ∧ y ≤ 1000000001) ∧ Below w.heap.size w w'
theorem isRowM {k : IntKind} {w w' : World} {a : Option Addr} {len cap : Nat} {zs : List Int} (h : IsRow k w a len cap zs) (hb : Below w.heap.size w w') : IsRow k w' a len cap zs := by
  rcases h with h | ⟨x, e, h1, h2, h3, h4, h5⟩
  · exact .inl h
  · exact .inr ⟨x, e, h1, h2, h3, fun i hi => (hb.cell (p := x.add i) (World.block_lt_of_cell? w _ (h4 i hi))).trans (h4 i hi), h5⟩
def DMk1 (w : World) (e : Ending) (w' : World) : Prop :=
  ∃ m c a : Int, e = .returned (triV (m, c, a)) ∧ (-10000 ≤ m ∧ m ≤ 10000) ∧ Below w.heap.size w w'
set_option maxHeartbeats 1000000 in
theorem drawWorth_any (w : World) (a : Option Addr) (len cap : Nat) (zs : List Int) (h : IsRow .u8 w a len cap zs) :
    Calls Try.prog 13 #[.slice a len cap] w (DMk1 w) := by
  have hb0 := (Below.refl w.heap.size w).alloc (Nat.le_refl _) (.cells (mkA (0, 0, 0)) 24)
  have H := Lib.hid (isRowM h hb0); clear h
  have K := (Blk.new w (mkA (0, 0, 0)) 24)
  go_enter Try.func13, Try.ntmps13
  go_wp2_with fail
  refine (newReader_any _ _ _ _ _ H.out).mono ?_
  rintro e w1 ⟨g, rfl, hg, hr, hb⟩
  replace K := K.below hb (by simp)
  simp only [World.size_alloc] at hg
  have hne : w.heap.size ≠ g := by omega
  replace hb := hb0.trans (hb.mono (by simp))
  clear hb0
  go_wp2_with fail
  refine (anyMark_any _ _ _ hr (by omega)).mono ?_
  rintro e w2 ⟨m, c, a', rfl, hm, -, -, -, hg2⟩
  replace K := K.grown hg2 hne
  replace hb := below_grown hb hg2 (by omega)
  obtain ⟨⟨z0, z1, z2⟩, f0, f1, f2⟩ := K.three
  have K2 := K.putM3 m c a'
  clear hr hg2
  go_wp2_with fail
  obtain ⟨r0, r1, r2⟩ := K2.three.1
  refine bodyPost_ret (v := triV (m, c, a')) (by simp [results, Try.results13, go_sem, r0, r1, r2]) rfl ⟨m, c, a', rfl, hm, putM_below hb (Nat.le_refl _) _ _ _⟩
set_option maxRecDepth 8000 in
set_option maxHeartbeats 8000000 in
theorem drawGain_any (w : World) (a : Option Addr) (len cap : Nat) (zs : List Int) (h : IsRow .u8 w a len cap zs) :
    Calls Try.prog 16 #[.slice a len cap] w (DMk w) := by
  have hb0 := ((Below.refl w.heap.size w).alloc (Nat.le_refl _) (.cells (mkA (0, 0, 0)) 24)).alloc (by simp) (.cells (mkA (0, 0, 0)) 24)
  have H := Lib.hid (isRowM h hb0); clear h
  have S1 := (Blk.new w (mkA (0, 0, 0)) 24).alloc (.cells (mkA (0, 0, 0)) 24)
  have S2 : Blk ((w.alloc (.cells (mkA (0, 0, 0)) 24)).alloc (.cells (mkA (0, 0, 0)) 24)) (w.heap.size + 1) 24 (mkA (0, 0, 0)) := by simpa using (Blk.new (w.alloc (.cells (mkA (0, 0, 0)) 24)) (mkA (0, 0, 0)) 24)
  go_enter Try.func16, Try.ntmps16
  go_wp2_with fail
  refine (newReader_any _ _ _ _ _ H.out).mono ?_
  rintro e w1 ⟨g, rfl, hg, hr, hb⟩
  replace S1 := S1.below hb (by simp; omega)
  replace S2 := S2.below hb (by simp)
  simp only [World.size_alloc] at hg
  replace hb := hb0.trans (hb.mono (by simp; omega))
  clear hb0
  go_wp2_with fail
  refine (anyMark_any _ _ _ hr (by omega)).mono ?_
  rintro e w2 ⟨m, c, a', rfl, hm, -, -, hr2, hg2⟩
  replace S1 := (S1.grown hg2 (by omega)).alloc (.cells (mkA (m, c, a')) 24)
  replace S2 := (S2.grown hg2 (by omega)).alloc (.cells (mkA (m, c, a')) 24)
  replace hb := below_grown hb hg2 (by omega)
  replace hb := hb.alloc hb.size (.cells (mkA (m, c, a')) 24)
  have hgl2 := hr2.lt
  have K1 := Blk.new w2 (mkA (m, c, a')) 24
  replace hr2 := hr2.alloc (.cells (mkA (m, c, a')) 24)
  clear hr hg2
  go_wp2_with fail
  refine (anyMark_any _ _ _ hr2 (by omega)).mono ?_
  rintro e w3 ⟨n, d, b', rfl, -, -, -, hr3, hg3⟩
  replace S1 := (S1.grown hg3 (by omega)).alloc (.cells (mkA (n, d, b')) 24)
  replace S2 := (S2.grown hg3 (by omega)).alloc (.cells (mkA (n, d, b')) 24)
  replace hb := below_grown hb hg3 (by omega)
  replace hb := hb.alloc hb.size (.cells (mkA (n, d, b')) 24)
  have hk1 := (K1.grown hg3 (by omega)).lt
  replace K1 := (K1.grown hg3 (by omega)).alloc (.cells (mkA (n, d, b')) 24)
  have K2 := Blk.new w3 (mkA (n, d, b')) 24
  replace hr3 := hr3.alloc (.cells (mkA (n, d, b')) 24)
  clear hr2 hg3
  have Q0 := Lib.hid (show DG w g (0 + 5 + 5) w2.heap.size w3.heap.size m c a' n d b' (0, 0, 0) (0, 0, 0) (w3.alloc (.cells (mkA (n, d, b')) 24)) from ⟨⟨hb, K1, K2, S1, S2, by omega, hk1⟩, hr3, by omega, by omega⟩)
  have hX : (w3.alloc (.cells (mkA (n, d, b')) 24)).heap.size = w3.heap.size + 1 := by simp
  clear hb K1 K2 S1 S2 hr3
  obtain ⟨⟨x0, x1, x2⟩, y0, y1, y2⟩ := Q0.out.t
  go_wp2_with fail
  generalize w3.alloc (.cells (mkA (n, d, b')) 24) = X at Q0 hX x0 x1 x2 y0 y1 y2 ⊢
  have hgX : g < X.heap.size := by omega
  have hs1 : (X.alloc (.cells #[.int .i64 0, .int .i64 212, .int .i64 50000, .int .i64 50001, .int .i64 (-1), .int .i64 0] 3)).heap.size = X.heap.size + 1 := by simp
  have hs2 : (X.alloc (.cells #[.int .i64 0, .int .i64 100500, .int .i64 (-100500), .int .i64 1000000000, .int .i64 1000000001] 3)).heap.size = X.heap.size + 1 := by simp
  have kA1 := Lib.hid (show Blk (X.alloc (.cells #[.int .i64 0, .int .i64 212, .int .i64 50000, .int .i64 50001, .int .i64 (-1), .int .i64 0] 3)).drew X.heap.size 3 #[.int .i64 0, .int .i64 212, .int .i64 50000, .int .i64 50001, .int .i64 (-1), .int .i64 0] from Blk.new _ _ _)
  have kA2 := Lib.hid (show Blk ((X.alloc (.cells #[.int .i64 0, .int .i64 212, .int .i64 50000, .int .i64 50001, .int .i64 (-1), .int .i64 0] 3)).alloc (.cells #[.int .i64 0, .int .i64 100500, .int .i64 (-100500), .int .i64 1000000000, .int .i64 1000000001] 3)).drew X.heap.size 3 #[.int .i64 0, .int .i64 212, .int .i64 50000, .int .i64 50001, .int .i64 (-1), .int .i64 0] from (Blk.new _ _ _).alloc _)
  have kA3 := Lib.hid (show Blk ((X.alloc (.cells #[.int .i64 0, .int .i64 100500, .int .i64 (-100500), .int .i64 1000000000, .int .i64 1000000001] 3)).alloc (.cells #[.int .i64 0, .int .i64 212, .int .i64 50000, .int .i64 50001, .int .i64 (-1), .int .i64 0] 3)).drew (X.heap.size + 1) 3 #[.int .i64 0, .int .i64 212, .int .i64 50000, .int .i64 50001, .int .i64 (-1), .int .i64 0] by rw [← hs2]; exact Blk.new _ _ _)
  have kB2 := Lib.hid (show Blk ((X.alloc (.cells #[.int .i64 0, .int .i64 212, .int .i64 50000, .int .i64 50001, .int .i64 (-1), .int .i64 0] 3)).alloc (.cells #[.int .i64 0, .int .i64 100500, .int .i64 (-100500), .int .i64 1000000000, .int .i64 1000000001] 3)).drew (X.heap.size + 1) 3 #[.int .i64 0, .int .i64 100500, .int .i64 (-100500), .int .i64 1000000000, .int .i64 1000000001] by rw [← hs1]; exact Blk.new _ _ _)
  have kB3 := Lib.hid (show Blk ((X.alloc (.cells #[.int .i64 0, .int .i64 100500, .int .i64 (-100500), .int .i64 1000000000, .int .i64 1000000001] 3)).alloc (.cells #[.int .i64 0, .int .i64 212, .int .i64 50000, .int .i64 50001, .int .i64 (-1), .int .i64 0] 3)).drew X.heap.size 3 #[.int .i64 0, .int .i64 100500, .int .i64 (-100500), .int .i64 1000000000, .int .i64 1000000001] from (Blk.new _ _ _).alloc _)
  have Q01 := Lib.hid ((Q0.out.alloc (.cells #[.int .i64 0, .int .i64 212, .int .i64 50000, .int .i64 50001, .int .i64 (-1), .int .i64 0] 3)).drew)
  have Q02 := Lib.hid (((Q0.out.alloc (.cells #[.int .i64 0, .int .i64 212, .int .i64 50000, .int .i64 50001, .int .i64 (-1), .int .i64 0] 3)).alloc (.cells #[.int .i64 0, .int .i64 100500, .int .i64 (-100500), .int .i64 1000000000, .int .i64 1000000001] 3)).drew)
  have Q03 := Lib.hid (((Q0.out.alloc (.cells #[.int .i64 0, .int .i64 100500, .int .i64 (-100500), .int .i64 1000000000, .int .i64 1000000001] 3)).alloc (.cells #[.int .i64 0, .int .i64 212, .int .i64 50000, .int .i64 50001, .int .i64 (-1), .int .i64 0] 3)).drew)
  have C1 := Lib.hid (one_any (-1) 50001 (X.alloc (.cells #[.int .i64 0, .int .i64 212, .int .i64 50000, .int .i64 50001, .int .i64 (-1), .int .i64 0] 3)).drew g (0 + 5 + 5) X.heap.size #[.int .i64 0, .int .i64 212, .int .i64 50000, .int .i64 50001, .int .i64 (-1), .int .i64 0] 3 Q01.out.rd (by omega) kA1.out (by omega) (by simp) (by simp) (by decide) 6 6 (by rfl))
  have C2 := Lib.hid (one_any (-1) 50001 ((X.alloc (.cells #[.int .i64 0, .int .i64 212, .int .i64 50000, .int .i64 50001, .int .i64 (-1), .int .i64 0] 3)).alloc (.cells #[.int .i64 0, .int .i64 100500, .int .i64 (-100500), .int .i64 1000000000, .int .i64 1000000001] 3)).drew g (0 + 5 + 5) X.heap.size #[.int .i64 0, .int .i64 212, .int .i64 50000, .int .i64 50001, .int .i64 (-1), .int .i64 0] 3 Q02.out.rd (by omega) kA2.out (by omega) (by simp) (by simp) (by decide) 6 6 (by rfl))
  have C3 := Lib.hid (one_any (-1) 50001 ((X.alloc (.cells #[.int .i64 0, .int .i64 100500, .int .i64 (-100500), .int .i64 1000000000, .int .i64 1000000001] 3)).alloc (.cells #[.int .i64 0, .int .i64 212, .int .i64 50000, .int .i64 50001, .int .i64 (-1), .int .i64 0] 3)).drew g (0 + 5 + 5) (X.heap.size + 1) #[.int .i64 0, .int .i64 212, .int .i64 50000, .int .i64 50001, .int .i64 (-1), .int .i64 0] 3 Q03.out.rd (by omega) kA3.out (by omega) (by simp) (by simp) (by decide) 6 6 (by rfl))
  have D := Lib.hid (fun (W : World) (b p : Nat) (hq : Rdr W g p) (hp : p ≤ 800000) (hk : Blk W b 3 #[.int .i64 0, .int .i64 100500, .int .i64 (-100500), .int .i64 1000000000, .int .i64 1000000001]) (hb : g < b) => one_any (-1000000001) 1000000001 W g p b #[.int .i64 0, .int .i64 100500, .int .i64 (-100500), .int .i64 1000000000, .int .i64 1000000001] 3 hq (by omega) hk (by omega) (by simp) (by simp) (by decide) 5 5 (by rfl))
  clear hs1 hs2 hX
  go_region_held3 (MkT w2.heap.size m c a' w3.heap.size n d b') (first | with_reducible exact Q0.out.t | with_reducible exact Q0.out.drew.t | with_reducible exact (Q0.out.alloc _).t | with_reducible exact (Q0.out.alloc _).drew.t | with_reducible exact ((Q0.out.alloc _).alloc _).drew.t | with_reducible exact QQ.out.t | with_reducible exact (QQ.out.alloc _).t | with_reducible exact Q2.t | with_reducible exact (Q2.put1 _ _ _).t | with_reducible exact ((Q2.put1 _ _ _).put2 _ _ _).t) (first | ((go_at_call 34; (with_reducible refine (C1.out).mono ?_); rintro e w5 ⟨xa, rfl, ⟨xa0, xa1⟩, hr5, hg5⟩; have QQ := Lib.hid (DG.one Q01.out hr5 hg5); have hgw5 := hr5.lt)) | ((go_at_call 34; (with_reducible refine (C2.out).mono ?_); rintro e w5 ⟨xa, rfl, ⟨xa0, xa1⟩, hr5, hg5⟩; have QQ := Lib.hid (DG.one Q02.out hr5 hg5); have KB := Lib.hid (Blk.grown kB2.out hg5 (by omega)); have hgw5 := hr5.lt)) | ((go_at_call 34; (with_reducible refine (C3.out).mono ?_); rintro e w5 ⟨xa, rfl, ⟨xa0, xa1⟩, hr5, hg5⟩; have QQ := Lib.hid (DG.one Q03.out hr5 hg5); have KB := Lib.hid (Blk.grown kB3.out hg5 (by omega)); have hgw5 := hr5.lt)) | ((go_at_call 34; (with_reducible refine (D.out _ _ _ QQ.out.rd (by omega) KB.out (by omega)).mono ?_); rintro e w6 ⟨xb, rfl, ⟨xb0, xb1⟩, hr6, hg6⟩; have QG := DG.one (by first | with_reducible exact QQ.out | with_reducible exact (QQ.out.alloc _)) hr6 hg6; have Q2 := DG.h QG; obtain ⟨⟨u0, u1, u2⟩, g0, g1, g2⟩ := Q2.s1.three; obtain ⟨⟨v0, v1, v2⟩, h0, h1, h2⟩ := Q2.s2.three; have QP := Q2.put1 m c a'; obtain ⟨⟨i0, i1, i2⟩, j0, j1, j2⟩ := QP.s2.three)) | ((go_at_call 34; (with_reducible refine (D.out _ _ _ (QQ.out.alloc _).rd (by omega) (Blk.new _ _ _) (by omega)).mono ?_); rintro e w6 ⟨xb, rfl, ⟨xb0, xb1⟩, hr6, hg6⟩; have QG := DG.one (by first | with_reducible exact QQ.out | with_reducible exact (QQ.out.alloc _)) hr6 hg6; have Q2 := DG.h QG; obtain ⟨⟨u0, u1, u2⟩, g0, g1, g2⟩ := Q2.s1.three; obtain ⟨⟨v0, v1, v2⟩, h0, h1, h2⟩ := Q2.s2.three; have QP := Q2.put1 m c a'; obtain ⟨⟨i0, i1, i2⟩, j0, j1, j2⟩ := QP.s2.three)))
  all_goals go_wp2_with fail
  all_goals
    have QF := (Q2.put1 m c a').put2 n d b'
    obtain ⟨r0, r1, r2⟩ := QF.s1.three.1
    obtain ⟨r3, r4, r5⟩ := QF.s2.three.1
    refine bodyPost_ret (v := .tuple #[triV (m, c, a'), triV (n, d, b'), .int .i64 xa, .int .i64 xb]) (by simp [results, Try.results16, go_sem, r0, r1, r2, r3, r4, r5]) rfl ⟨m, c, a', n, d, b', xa, xb, rfl, hm, ⟨xa0, xa1⟩, ⟨xb0, xb1⟩, QF.bl⟩
set_option maxHeartbeats 1000000 in
theorem drawGainB_any (w : World) (a : Option Addr) (len cap : Nat) (zs : List Int) (h : IsRow .u8 w a len cap zs) :
    Calls Try.prog 20 #[.slice a len cap] w (DMk w) := by
  have hb0 := ((Below.refl w.heap.size w).alloc (Nat.le_refl _) (.cells (mkA (0, 0, 0)) 24)).alloc (by simp) (.cells (mkA (0, 0, 0)) 24)
  have H := Lib.hid (isRowM h hb0); clear h
  have S1 := (Blk.new w (mkA (0, 0, 0)) 24).alloc (.cells (mkA (0, 0, 0)) 24)
  have S2 : Blk ((w.alloc (.cells (mkA (0, 0, 0)) 24)).alloc (.cells (mkA (0, 0, 0)) 24)) (w.heap.size + 1) 24 (mkA (0, 0, 0)) := by simpa using (Blk.new (w.alloc (.cells (mkA (0, 0, 0)) 24)) (mkA (0, 0, 0)) 24)
  go_enter Try.func20, Try.ntmps20
  go_wp2_with fail
  refine (drawGain_any _ _ _ _ _ H.out).mono ?_
  rintro e w1 ⟨m, c, a', n, d, b', x, y, rfl, hm, hx, hy, hb⟩
  replace S1 := S1.below hb (by simp; omega)
  replace S2 := S2.below hb (by simp)
  replace hb := hb0.trans (hb.mono (by simp; omega))
  clear hb0
  obtain ⟨⟨u0, u1, u2⟩, g0, g1, g2⟩ := S1.three
  obtain ⟨⟨v0, v1, v2⟩, h0, h1, h2⟩ := S2.three
  have P1 := S1.putM3 m c a'
  have P2 := S2.putO (b := w.heap.size) (by omega) m c a'
  obtain ⟨⟨i0, i1, i2⟩, j0, j1, j2⟩ := P2.three
  have Q1 := P1.putO (b := w.heap.size + 1) (by omega) n d b'
  have Q2 := P2.putM3 n d b'
  go_wp2_with fail
  obtain ⟨r0, r1, r2⟩ := Q1.three.1
  obtain ⟨r3, r4, r5⟩ := Q2.three.1
  refine bodyPost_ret (v := .tuple #[triV (m, c, a'), triV (n, d, b'), .int .i64 x, .int .i64 y]) (by simp [results, Try.results20, go_sem, r0, r1, r2, r3, r4, r5]) rfl ⟨m, c, a', n, d, b', x, y, rfl, hm, hx, hy, putM_below (putM_below hb (Nat.le_refl _) _ _ _) (by omega) _ _ _⟩
end Go.Proofs.Ytoledkecgfhdbaa
