/- Dates read out of texts, on both sides. -/
import Derived.Test.YtapalkohfhohhaaDoorDv
import Derived.Test.YtapalkohfhohhaaDoorSpec4
import Derived.Outline
namespace Go.Proofs.YtapalkohfhohhaaDoor
open Go.RowKit
set_option maxHeartbeats 400000 in
theorem sfmtD_any (y m d : Int) (w : World) :
    Calls Tryd.prog 15 #[dtV y m d] w fun e w' => e = .returned (str (Dt.fmt y m d)) ∧ Below w.heap.size w w' := by
  have K := (Kp.refl w).new 24 (dtA y m d)
  obtain ⟨x0, x1, x2⟩ := K.d1
  cases h : vldB y m d with
  | false =>
    rw [Dt.fmt_no h]
    have H := Lib.hid h; clear h
    go_enter Tryd.func15, Tryd.ntmps15
    go_wp2_with fail
    refine (sValidDate_any _ _ _ _).mono ?_
    rw [H.out]
    rintro e w1 ⟨rfl, hb⟩
    replace K := K.below hb
    clear hb x0 x1 x2
    go_wp2_with fail
    go_ret
    exact ⟨rfl, K.1⟩
  | true =>
    rw [Dt.fmt_yes h]
    have FM := Lib.hid (fun W => sfmtD0_any y m d W h)
    have H := Lib.hid h; clear h
    go_enter Tryd.func15, Tryd.ntmps15
    go_wp2_with fail
    refine (sValidDate_any _ _ _ _).mono ?_
    rw [H.out]
    rintro e w1 ⟨rfl, hb⟩
    replace K := K.below hb
    clear hb x0 x1 x2
    obtain ⟨x0, x1, x2⟩ := K.d1
    go_wp2_with fail
    refine (FM.out _).mono ?_
    rintro e w2 ⟨rfl, hb⟩
    replace K := K.below hb
    clear hb x0 x1 x2
    go_wp2_with fail
    go_ret
    exact ⟨rfl, K.1⟩
theorem Blk.putD {w w' : World} {b : Nat} {t : TypeId} {cs : Array Value} (h : Blk w b t cs) (i : Nat) (v : Value) (h2 : w' = w.setCell ⟨b, i, none⟩ v) : Blk w' b t (cs.setIfInBounds i v) := by
  subst h2
  unfold Blk at *
  simp only [World.setCell, Array.getElem?_modify, if_true, h, Option.map_some]
  rfl
abbrev dM (w : World) (b : Nat) (y m d : Int) : World := ((w.setCell ⟨b, 0, none⟩ (.int .i64 y)).setCell ⟨b, 1, none⟩ (.int .i64 m)).setCell ⟨b, 2, none⟩ (.int .i64 d)
theorem Blk.putD3 {W : World} {b : Nat} {T : TypeId} {y0 m0 d0 : Int} (k : Blk W b T (dtA y0 m0 d0)) (y m d : Int) : Blk (dM W b y m d) b T (dtA y m d) := by
  have h1 := k.putD 0 (.int .i64 y) rfl
  have h2 := h1.putD 1 (.int .i64 m) rfl
  exact h2.putD 2 (.int .i64 d) rfl
theorem Blk.farD {W : World} {g : Nat} {T : TypeId} {cs : Array Value} (k : Blk W g T cs) {b : Nat} (hq : g ≠ b) (y m d : Int) : Blk (dM W b y m d) g T cs := ((k.far (q := ⟨b, 0, none⟩) hq _).far (q := ⟨b, 1, none⟩) hq _).far (q := ⟨b, 2, none⟩) hq _
theorem dM_below {B : Nat} {a W : World} (k : Below B a W) {b : Nat} (hq : B ≤ b) (y m d : Int) : Below B a (dM W b y m d) := ((k.setCell (p := ⟨b, 0, none⟩) hq _).setCell (p := ⟨b, 1, none⟩) hq _).setCell (p := ⟨b, 2, none⟩) hq _
theorem dM_grown {a W : World} {g : Nat} (h : a.grownBy W (some g)) {b : Nat} (hb : a.heap.size ≤ b) (y m d : Int) : a.grownBy (dM W b y m d) (some g) := grown_setCell (grown_setCell (grown_setCell h (p := ⟨b, 0, none⟩) hb _) (p := ⟨b, 1, none⟩) hb _) (p := ⟨b, 2, none⟩) hb _
set_option maxHeartbeats 1000000 in
theorem date_any (g : Nat) (l : List UInt8) (w : World) (hc : Cur w g l) :
    Calls Tryd.prog 41 #[.pointer (some ⟨g, 0, none⟩)] w fun e w' => e = .returned (dtV (Dt.read l).1.1 (Dt.read l).1.2.1 (Dt.read l).1.2.2) ∧ Cur w' g (Dt.read l).2 ∧ w.grownBy w' (some g) := by
  have hgl := hc.lt
  have C0 := Lib.hid (hc.alloc (.cells (dtA 0 0 0) 24)); clear hc
  have kR := Blk.new w (dtA 0 0 0) 24
  have hg := grown_alloc (grown_refl w g) (.cells (dtA 0 0 0) 24)
  obtain ⟨y, r1, h1⟩ : ∃ y r, rdN l 0 = (y, r) := ⟨_, _, rfl⟩
  obtain ⟨m, r2, h2⟩ : ∃ y r, rdN (skp 45 r1) 0 = (y, r) := ⟨_, _, rfl⟩
  obtain ⟨d, r3, h3⟩ : ∃ y r, rdN (skp 45 r2) 0 = (y, r) := ⟨_, _, rfl⟩
  have E : Dt.read l = ((y, m, d), r3) := by
    unfold Dt.read
    rw [h1]
    simp only
    rw [h2]
    simp only
    rw [h3]
  rw [E]
  simp only
  have H1 := Lib.hid h1
  have H2 := Lib.hid h2
  have H3 := Lib.hid h3
  clear h1 h2 h3 E
  go_enter Tryd.func41, Tryd.ntmps41
  go_wp2_with fail
  refine (number_any _ _ _ C0.out).mono ?_
  rw [H1.out]
  rintro e w1 ⟨rfl, c1, g1⟩
  have hs1 := c1.lt
  have C1 := Lib.hid (c1.alloc (.cells (dtA y 0 0) 24)); clear c1
  replace kR := (kR.grown g1 (by omega)).alloc (.cells (dtA y 0 0) 24)
  have kD := Blk.new w1 (dtA y 0 0) 24
  replace hg := grown_alloc (grown_trans hg g1) (.cells (dtA y 0 0) 24)
  have hRD : w.heap.size < w1.heap.size := by have := g1.size; simp at this; omega
  clear g1 C0
  go_wp2_with fail
  refine (skip_any _ _ 45 _ C1.out).mono ?_
  rintro e w2 ⟨rfl, c2, g2⟩
  have C2 := Lib.hid c2; clear c2
  replace kR := kR.grown g2 (by omega)
  replace kD := kD.grown g2 (by omega)
  replace hg := grown_trans hg g2
  clear g2 C1
  go_wp2_with fail
  refine (number_any _ _ _ C2.out).mono ?_
  try dsimp only
  rw [H2.out]
  rintro e w3 ⟨rfl, c3, g3⟩
  replace kR := kR.grown g3 (by omega)
  replace kD := kD.grown g3 (by omega)
  replace hg := grown_trans hg g3
  obtain ⟨⟨x0, x1, x2⟩, f0, f1, f2⟩ := kD.three
  have kD2 : Blk (w3.setCell ⟨w1.heap.size, 1, none⟩ (.int .i64 m)) w1.heap.size 24 (dtA y m 0) := kD.putD 1 _ rfl
  have C3 := Lib.hid (c3.far (q := ⟨w1.heap.size, 1, none⟩) (by show g ≠ w1.heap.size; omega) (.int .i64 m))
  have kR2 := kR.far (q := ⟨w1.heap.size, 1, none⟩) (by show w.heap.size ≠ w1.heap.size; omega) (.int .i64 m)
  have hg2 := grown_setCell hg (p := ⟨w1.heap.size, 1, none⟩) (by show w.heap.size ≤ w1.heap.size; omega) (.int .i64 m)
  clear g3 C2 c3 kD kR hg
  go_wp2_with fail
  clear x0 x1 x2 f0 f1 f2
  refine (skip_any _ _ 45 _ C3.out).mono ?_
  rintro e w4 ⟨rfl, c4, g4⟩
  have C4 := Lib.hid c4; clear c4
  replace kR2 := kR2.grown g4 (by omega)
  replace kD2 := kD2.grown g4 (by omega)
  replace hg2 := grown_trans hg2 g4
  clear g4 C3
  go_wp2_with fail
  refine (number_any _ _ _ C4.out).mono ?_
  try dsimp only
  rw [H3.out]
  rintro e w5 ⟨rfl, c5, g5⟩
  replace kR2 := kR2.grown g5 (by omega)
  replace kD2 := kD2.grown g5 (by omega)
  replace hg2 := grown_trans hg2 g5
  obtain ⟨⟨x0, x1, x2⟩, f0, f1, f2⟩ := kD2.three
  have kD3 : Blk (w5.setCell ⟨w1.heap.size, 2, none⟩ (.int .i64 d)) w1.heap.size 24 (dtA y m d) := kD2.putD 2 _ rfl
  have c6 := c5.far (q := ⟨w1.heap.size, 2, none⟩) (by show g ≠ w1.heap.size; omega) (.int .i64 d)
  have kR3 := kR2.far (q := ⟨w1.heap.size, 2, none⟩) (by show w.heap.size ≠ w1.heap.size; omega) (.int .i64 d)
  have hg3 := grown_setCell hg2 (p := ⟨w1.heap.size, 2, none⟩) (by show w.heap.size ≤ w1.heap.size; omega) (.int .i64 d)
  obtain ⟨⟨i0, i1, i2⟩, j0, j1, j2⟩ := kR3.three
  obtain ⟨⟨u0, u1, u2⟩, -⟩ := kD3.three
  clear g5 C4 hg2
  go_wp2_with fail
  obtain ⟨q0, q1, q2⟩ := (kR3.putD3 y m d).three.1
  refine bodyPost_ret (v := dtV y m d) (by simp [results, Tryd.results41, go_sem, q0, q1, q2]) rfl ⟨rfl, c6.farD (by omega) y m d, dM_grown hg3 (Nat.le_refl _) y m d⟩
end Go.Proofs.YtapalkohfhohhaaDoor
