/- A note, days and a rate drawn out of a law's input. -/
import Derived.Test.YthlnmbnaimobgaaNt
import Derived.Test.YthlnmbnaimobgaaKg
import Derived.Test.YthlnmbnaimobgaaKp
import Derived.Deep.RegionHeld3
namespace Go.Proofs.Ythlnmbnaimobgaa
open Go.RowKit
theorem isRowN {k : IntKind} {w w' : World} {a : Option Addr} {len cap : Nat} {zs : List Int} (h : IsRow k w a len cap zs) (hb : Below w.heap.size w w') : IsRow k w' a len cap zs := by
  rcases h with h | ⟨x, e, h1, h2, h3, h4, h5⟩
  · exact .inl h
  · exact .inr ⟨x, e, h1, h2, h3, fun i hi => (hb.cell (p := x.add i) (World.block_lt_of_cell? w _ (h4 i hi))).trans (h4 i hi), h5⟩
def DNt (w : World) (e : Ending) (w' : World) : Prop :=
  ∃ d m c x r : Int, e = .returned (.tuple #[triV (d, m, c), .int .i64 x, .int .i64 r]) ∧ (-1 ≤ x ∧ x ≤ 31) ∧ (-1 ≤ r ∧ r ≤ 3001) ∧ Below w.heap.size w w'
theorem blkDrewN {w : World} {b : Nat} {T : TypeId} {cs : Array Value} (h : Blk w b T cs) : Blk w.drew b T cs := h
abbrev NtS (b : Nat) (d m c : Int) (w : World) : Prop := w.cell? ⟨b, 0, none⟩ = some (.int .i64 d) ∧ w.cell? ⟨b, 1, none⟩ = some (.int .i64 m) ∧ w.cell? ⟨b, 2, none⟩ = some (.int .i64 c)
abbrev put3 (w : World) (b : Nat) (d m c : Int) : World := ((w.setCell ⟨b, 0, none⟩ (.int .i64 d)).setCell ⟨b, 1, none⟩ (.int .i64 m)).setCell ⟨b, 2, none⟩ (.int .i64 c)
theorem Blk.setN {W : World} {g : Nat} {T : TypeId} {cs : Array Value} (h : Blk W g T cs) {b k : Nat} (hq : g ≠ b) (u : Value) : Blk (W.setCell ⟨b, k, none⟩ u) g T cs := h.far hq u
theorem Blk.putN {w w' : World} {b : Nat} {t : TypeId} {cs : Array Value} (h : Blk w b t cs) (i : Nat) (v : Value) (h2 : w' = w.setCell ⟨b, i, none⟩ v) : Blk w' b t (cs.setIfInBounds i v) := by
  subst h2
  unfold Blk at *
  simp only [World.setCell, Array.getElem?_modify, if_true, h, Option.map_some]
  rfl
theorem Blk.put3o {W : World} {g : Nat} {T : TypeId} {cs : Array Value} (k : Blk W g T cs) {b : Nat} (hq : g ≠ b) (d m c : Int) : Blk (put3 W b d m c) g T cs := ((k.setN hq _).setN hq _).setN hq _
theorem Blk.put3 {W : World} {b : Nat} {T : TypeId} {d0 m0 c0 : Int} (k : Blk W b T (triA (d0, m0, c0))) (d m c : Int) : Blk (put3 W b d m c) b T (triA (d, m, c)) := by
  have h1 := k.putN 0 (.int .i64 d) rfl
  have h2 := h1.putN 1 (.int .i64 m) rfl
  exact h2.putN 2 (.int .i64 c) rfl
theorem put3_below {B : Nat} {a W : World} (k : Below B a W) {b : Nat} (hq : B ≤ b) (d m c : Int) : Below B a (put3 W b d m c) := ((k.setCell hq _).setCell hq _).setCell hq _
/-- What holds all through the last statement. -/
def FcQ (w w2 : World) (g p : Nat) (d m c : Int) (W : World) : Prop :=
  Rdr W g p ∧ Blk W w2.heap.size 30 (triA (d, m, c)) ∧ Blk W w.heap.size 30 (triA (0, 0, 0)) ∧ Below w.heap.size w W
theorem FcQ.alloc {w w2 W : World} {g p : Nat} {d m c : Int} (h : FcQ w w2 g p d m c W) (o : Obj) : FcQ w w2 g p d m c (W.alloc o) := ⟨h.1.alloc o, h.2.1.alloc o, h.2.2.1.alloc o, h.2.2.2.alloc h.2.2.2.size o⟩
theorem FcQ.drew {w w2 W : World} {g p : Nat} {d m c : Int} (h : FcQ w w2 g p d m c W) : FcQ w w2 g p d m c W.drew := ⟨Rdr.drew h.1, h.2.1, h.2.2.1, h.2.2.2.drew⟩
theorem FcQ.one {w w2 W W' : World} {g p q : Nat} {d m c : Int} (h : FcQ w w2 g p d m c W) (hr : Rdr W' g q) (hg : W.grownBy W' (some g)) (h1 : w2.heap.size ≠ g) (h2 : w.heap.size ≠ g) (h3 : w.heap.size ≤ g) : FcQ w w2 g q d m c W' := ⟨hr, h.2.1.grown hg h1, h.2.2.1.grown hg h2, below_grown h.2.2.2 hg h3⟩
theorem FcQ.rd {w w2 W : World} {g p : Nat} {d m c : Int} (h : FcQ w w2 g p d m c W) : Rdr W g p := h.1
theorem FcQ.x3 {w w2 W : World} {g p : Nat} {d m c : Int} (h : FcQ w w2 g p d m c W) : NtS w2.heap.size d m c W := h.2.1.three.1
theorem FcQ.x3p {w w2 W : World} {g p : Nat} {d m c : Int} (h : FcQ w w2 g p d m c W) (hne : w2.heap.size ≠ w.heap.size) (x y z : Int) : NtS w2.heap.size d m c (put3 W w.heap.size x y z) := (h.2.1.put3o hne x y z).three.1
set_option maxRecDepth 8000 in
set_option maxHeartbeats 8000000 in
theorem drawFC_any (w : World) (a : Option Addr) (len cap : Nat) (zs : List Int) (h : IsRow .u8 w a len cap zs) :
    Calls Try.prog 29 #[.slice a len cap] w (DNt w) := by
  have hb0 := (Below.refl w.heap.size w).alloc (Nat.le_refl _) (.cells (triA (0, 0, 0)) 30)
  have H := Lib.hid (isRowN h hb0); clear h
  have K := (Blk.new w (triA (0, 0, 0)) 30)
  go_enter Try.func29, Try.ntmps29
  go_wp2_with fail
  refine (newReader_any _ _ _ _ _ H.out).mono ?_
  rintro e w1 ⟨g, rfl, hg, hr, hb⟩
  replace K := K.below hb (by simp)
  simp only [World.size_alloc] at hg
  have hne : w.heap.size ≠ g := by omega
  have HB1 := Lib.hid (hb0.trans (hb.mono (by simp)))
  have hgl1 : g < w1.heap.size := hr.lt
  clear hb hb0
  go_wp2_with fail
  refine (anyDay_any _ _ _ hr (by omega)).mono ?_
  rintro e w3 ⟨d, rfl, -, hr3, hg3⟩
  have K3 := Lib.hid (K.grown hg3 hne)
  have HB3 := Lib.hid (below_grown HB1.out hg3 (by omega))
  have hs3 : w1.heap.size ≤ w3.heap.size := hg3.size
  clear hg3 K hr
  go_wp2_with fail
  refine (one_any 0 10000 _ g _ w3.heap.size _ _ (hr3.alloc _) (by omega) (heap_alloc_new w3 _) (by have := hr3.lt; omega) (by decide) (by decide) (by decide) 5 5 (by rfl)).mono ?_
  rintro e w4 ⟨m, rfl, -, hr4, hg4⟩
  have K4 := Lib.hid ((K3.out.alloc (.cells #[.int .i64 10, .int .i64 1, .int .i64 9999, .int .i64 0, .int .i64 10000] 3)).grown hg4 hne)
  have HB4 := Lib.hid (below_grown (HB3.out.alloc HB3.out.size (.cells #[.int .i64 10, .int .i64 1, .int .i64 9999, .int .i64 0, .int .i64 10000] 3)) hg4 (by omega))
  have hs4 : w3.heap.size ≤ w4.heap.size := by have := hg4.size; simp at this; omega
  clear hg4
  go_wp2_with fail
  refine (one_any 1 50001 _ g _ w4.heap.size _ _ (hr4.alloc _) (by omega) (heap_alloc_new w4 _) (by have := hr4.lt; omega) (by decide) (by decide) (by decide) 4 4 (by rfl)).mono ?_
  rintro e w2 ⟨c, rfl, -, hr2, hg2⟩
  have K2 := (K4.out.alloc (.cells #[.int .i64 10000, .int .i64 1, .int .i64 50000, .int .i64 50001] 3)).grown hg2 hne
  have HB2 := below_grown (HB4.out.alloc HB4.out.size (.cells #[.int .i64 10000, .int .i64 1, .int .i64 50000, .int .i64 50001] 3)) hg2 (by omega)
  have hgl : g < w2.heap.size := hr2.lt
  have hkl2 : w.heap.size < w2.heap.size := K2.lt
  have X := Blk.new w2 (triA (d, m, c)) 30
  have Q0 := Lib.hid (show FcQ w w2 g (0 + 3 + 1 + 1) d m c (w2.alloc (.cells (triA (d, m, c)) 30)) from ⟨(hr2.more (by omega)).alloc _, X, K2.alloc _, HB2.alloc HB2.size _⟩)
  clear hg2 hr2 hr3 hr4 K2 HB2
  obtain ⟨⟨x0, x1, x2⟩, -⟩ := X.three
  clear X
  go_wp2_with fail
  have hne2 : w2.heap.size ≠ g := by omega
  have hne3 : w2.heap.size ≠ w.heap.size := by omega
  have hwg : w.heap.size ≤ g := by omega
  have hs1 : (w2.alloc (.cells (triA (d, m, c)) 30)).heap.size = w2.heap.size + 1 := by simp
  have kA1 := Lib.hid (show Blk ((w2.alloc (.cells (triA (d, m, c)) 30)).alloc (.cells #[.int .i64 1, .int .i64 3, .int .i64 0, .int .i64 30, .int .i64 31, .int .i64 (-1)] 3)).drew (w2.heap.size + 1) 3 #[.int .i64 1, .int .i64 3, .int .i64 0, .int .i64 30, .int .i64 31, .int .i64 (-1)] by rw [← hs1]; exact blkDrewN (Blk.new _ _ _))
  have kA2 := Lib.hid (show Blk (((w2.alloc (.cells (triA (d, m, c)) 30)).alloc (.cells #[.int .i64 1, .int .i64 3, .int .i64 0, .int .i64 30, .int .i64 31, .int .i64 (-1)] 3)).alloc (.cells #[.int .i64 300, .int .i64 0, .int .i64 3000, .int .i64 3001, .int .i64 (-1)] 3)).drew (w2.heap.size + 1) 3 #[.int .i64 1, .int .i64 3, .int .i64 0, .int .i64 30, .int .i64 31, .int .i64 (-1)] by rw [← hs1]; exact blkDrewN ((Blk.new _ _ _).alloc _))
  have hs2 : ((w2.alloc (.cells (triA (d, m, c)) 30)).alloc (.cells #[.int .i64 1, .int .i64 3, .int .i64 0, .int .i64 30, .int .i64 31, .int .i64 (-1)] 3)).heap.size = w2.heap.size + 1 + 1 := by simp
  have kB2 := Lib.hid (show Blk (((w2.alloc (.cells (triA (d, m, c)) 30)).alloc (.cells #[.int .i64 1, .int .i64 3, .int .i64 0, .int .i64 30, .int .i64 31, .int .i64 (-1)] 3)).alloc (.cells #[.int .i64 300, .int .i64 0, .int .i64 3000, .int .i64 3001, .int .i64 (-1)] 3)).drew (w2.heap.size + 1 + 1) 3 #[.int .i64 300, .int .i64 0, .int .i64 3000, .int .i64 3001, .int .i64 (-1)] by rw [← hs2]; exact blkDrewN (Blk.new _ _ _))
  have hs3 : ((w2.alloc (.cells (triA (d, m, c)) 30)).alloc (.cells #[.int .i64 300, .int .i64 0, .int .i64 3000, .int .i64 3001, .int .i64 (-1)] 3)).heap.size = w2.heap.size + 1 + 1 := by simp
  have kA3 := Lib.hid (show Blk (((w2.alloc (.cells (triA (d, m, c)) 30)).alloc (.cells #[.int .i64 300, .int .i64 0, .int .i64 3000, .int .i64 3001, .int .i64 (-1)] 3)).alloc (.cells #[.int .i64 1, .int .i64 3, .int .i64 0, .int .i64 30, .int .i64 31, .int .i64 (-1)] 3)).drew (w2.heap.size + 1 + 1) 3 #[.int .i64 1, .int .i64 3, .int .i64 0, .int .i64 30, .int .i64 31, .int .i64 (-1)] by rw [← hs3]; exact blkDrewN (Blk.new _ _ _))
  have kB3 := Lib.hid (show Blk (((w2.alloc (.cells (triA (d, m, c)) 30)).alloc (.cells #[.int .i64 300, .int .i64 0, .int .i64 3000, .int .i64 3001, .int .i64 (-1)] 3)).alloc (.cells #[.int .i64 1, .int .i64 3, .int .i64 0, .int .i64 30, .int .i64 31, .int .i64 (-1)] 3)).drew (w2.heap.size + 1) 3 #[.int .i64 300, .int .i64 0, .int .i64 3000, .int .i64 3001, .int .i64 (-1)] by rw [← hs1]; exact blkDrewN ((Blk.new _ _ _).alloc _))
  have Q01 := Lib.hid ((Q0.out.alloc (.cells #[.int .i64 1, .int .i64 3, .int .i64 0, .int .i64 30, .int .i64 31, .int .i64 (-1)] 3)).drew)
  have Q02 := Lib.hid (((Q0.out.alloc (.cells #[.int .i64 1, .int .i64 3, .int .i64 0, .int .i64 30, .int .i64 31, .int .i64 (-1)] 3)).alloc (.cells #[.int .i64 300, .int .i64 0, .int .i64 3000, .int .i64 3001, .int .i64 (-1)] 3)).drew)
  have Q03 := Lib.hid (((Q0.out.alloc (.cells #[.int .i64 300, .int .i64 0, .int .i64 3000, .int .i64 3001, .int .i64 (-1)] 3)).alloc (.cells #[.int .i64 1, .int .i64 3, .int .i64 0, .int .i64 30, .int .i64 31, .int .i64 (-1)] 3)).drew)
  have C1 := Lib.hid (one_any (-1) 31 ((w2.alloc (.cells (triA (d, m, c)) 30)).alloc (.cells #[.int .i64 1, .int .i64 3, .int .i64 0, .int .i64 30, .int .i64 31, .int .i64 (-1)] 3)).drew g (0 + 3 + 1 + 1) (w2.heap.size + 1) #[.int .i64 1, .int .i64 3, .int .i64 0, .int .i64 30, .int .i64 31, .int .i64 (-1)] 3 Q01.out.1 (by omega) kA1.out (by omega) (by simp) (by simp) (by decide) 6 6 (by rfl))
  have C2 := Lib.hid (one_any (-1) 31 (((w2.alloc (.cells (triA (d, m, c)) 30)).alloc (.cells #[.int .i64 1, .int .i64 3, .int .i64 0, .int .i64 30, .int .i64 31, .int .i64 (-1)] 3)).alloc (.cells #[.int .i64 300, .int .i64 0, .int .i64 3000, .int .i64 3001, .int .i64 (-1)] 3)).drew g (0 + 3 + 1 + 1) (w2.heap.size + 1) #[.int .i64 1, .int .i64 3, .int .i64 0, .int .i64 30, .int .i64 31, .int .i64 (-1)] 3 Q02.out.1 (by omega) kA2.out (by omega) (by simp) (by simp) (by decide) 6 6 (by rfl))
  have C3 := Lib.hid (one_any (-1) 31 (((w2.alloc (.cells (triA (d, m, c)) 30)).alloc (.cells #[.int .i64 300, .int .i64 0, .int .i64 3000, .int .i64 3001, .int .i64 (-1)] 3)).alloc (.cells #[.int .i64 1, .int .i64 3, .int .i64 0, .int .i64 30, .int .i64 31, .int .i64 (-1)] 3)).drew g (0 + 3 + 1 + 1) (w2.heap.size + 1 + 1) #[.int .i64 1, .int .i64 3, .int .i64 0, .int .i64 30, .int .i64 31, .int .i64 (-1)] 3 Q03.out.1 (by omega) kA3.out (by omega) (by simp) (by simp) (by decide) 6 6 (by rfl))
  have D := Lib.hid (fun (W : World) (b p : Nat) (hq : Rdr W g p) (hp : p ≤ 800000) (hk : Blk W b 3 #[.int .i64 300, .int .i64 0, .int .i64 3000, .int .i64 3001, .int .i64 (-1)]) (hb : g < b) => one_any (-1) 3001 W g p b #[.int .i64 300, .int .i64 0, .int .i64 3000, .int .i64 3001, .int .i64 (-1)] 3 hq (by omega) hk (by omega) (by simp) (by simp) (by decide) 5 5 (by rfl))
  clear hs1 hs2 hs3
  go_region_held3 (NtS w2.heap.size d m c) (first | with_reducible exact Q0.out.x3 | with_reducible exact Q0.out.drew.x3 | with_reducible exact (Q0.out.alloc _).x3 | with_reducible exact (Q0.out.alloc _).drew.x3 | with_reducible exact ((Q0.out.alloc _).alloc _).drew.x3 | with_reducible exact QQ.out.x3 | with_reducible exact (QQ.out.alloc _).x3 | with_reducible exact (Q2.x3p hne3 _ _ _) | with_reducible exact Q2.x3) (first | ((go_at_call 58; (with_reducible refine (C1.out).mono ?_); rintro e w5 ⟨xa, rfl, ⟨xa0, xa1⟩, hr5, hg5⟩; have QQ := Lib.hid (FcQ.one Q01.out hr5 hg5 hne2 hne hwg); have hgw5 := hr5.lt)) | ((go_at_call 58; (with_reducible refine (C2.out).mono ?_); rintro e w5 ⟨xa, rfl, ⟨xa0, xa1⟩, hr5, hg5⟩; have QQ := Lib.hid (FcQ.one Q02.out hr5 hg5 hne2 hne hwg); have KB := Lib.hid (Blk.grown kB2.out hg5 (by omega)); have hgw5 := hr5.lt)) | ((go_at_call 58; (with_reducible refine (C3.out).mono ?_); rintro e w5 ⟨xa, rfl, ⟨xa0, xa1⟩, hr5, hg5⟩; have QQ := Lib.hid (FcQ.one Q03.out hr5 hg5 hne2 hne hwg); have KB := Lib.hid (Blk.grown kB3.out hg5 (by omega)); have hgw5 := hr5.lt)) | ((go_at_call 58; (with_reducible refine (D.out _ _ _ QQ.out.rd (by omega) KB.out (by omega)).mono ?_); rintro e w6 ⟨xb, rfl, ⟨xb0, xb1⟩, hr6, hg6⟩; have Q2 := FcQ.one (by first | with_reducible exact QQ.out | with_reducible exact (QQ.out.alloc _)) hr6 hg6 hne2 hne hwg; obtain ⟨y0, y1, y2⟩ := Q2.2.2.1.three.1; obtain ⟨f0, f1, f2⟩ := Q2.2.2.1.three.2)) | ((go_at_call 58; (with_reducible refine (D.out _ _ _ (QQ.out.alloc _).rd (by omega) (Blk.new _ _ _) (by omega)).mono ?_); rintro e w6 ⟨xb, rfl, ⟨xb0, xb1⟩, hr6, hg6⟩; have Q2 := FcQ.one (by first | with_reducible exact QQ.out | with_reducible exact (QQ.out.alloc _)) hr6 hg6 hne2 hne hwg; obtain ⟨y0, y1, y2⟩ := Q2.2.2.1.three.1; obtain ⟨f0, f1, f2⟩ := Q2.2.2.1.three.2)))
  all_goals go_wp2_with fail
  all_goals
    obtain ⟨⟨r0', r1', r2'⟩, -⟩ := (Q2.2.2.1.put3 d m c).three
    refine bodyPost_ret (v := .tuple #[triV (d, m, c), .int .i64 xa, .int .i64 xb]) (by simp [results, Try.results29, go_sem, r0', r1', r2']) rfl ⟨d, m, c, xa, xb, rfl, by omega, by omega, put3_below Q2.2.2.2 (Nat.le_refl _) _ _ _⟩
end Go.Proofs.Ythlnmbnaimobgaa
