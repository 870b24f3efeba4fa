/- Gains between positions, on both sides. -/
import Derived.Test.YtoledkecgfhdbaaMkB
import Derived.StillTailTactics
namespace Go.Proofs.Ytoledkecgfhdbaa
open Go.RowKit
def Gn.ok (a b : Tri) (x y : Int) : Bool := Mk.one a && (Mk.one b && (btw x 0 50000 && btw y (-1000000000) 1000000000))
theorem Gn.n0 {a b : Tri} {x y : Int} (h : Mk.one a = false) : Gn.ok a b x y = false := by unfold Gn.ok; rw [h]; rfl
theorem Gn.n1 {a b : Tri} {x y : Int} (h0 : Mk.one a = true) (h : Mk.one b = false) : Gn.ok a b x y = false := by unfold Gn.ok; rw [h0, h]; rfl
theorem Gn.n2 {a b : Tri} {x y : Int} (h0 : Mk.one a = true) (h1 : Mk.one b = true) (h : btw x 0 50000 = false) : Gn.ok a b x y = false := by unfold Gn.ok; rw [h0, h1, h]; rfl
theorem Gn.n3 {a b : Tri} {x y : Int} (h0 : Mk.one a = true) (h1 : Mk.one b = true) (h2 : btw x 0 50000 = true) : Gn.ok a b x y = btw y (-1000000000) 1000000000 := by unfold Gn.ok; rw [h0, h1, h2]; rfl
theorem Gn.iff {a b : Tri} {x y : Int} : Gn.ok a b x y = true ↔ Mk.one a = true ∧ Mk.one b = true ∧ btw x 0 50000 = true ∧ btw y (-1000000000) 1000000000 = true := by
  unfold Gn.ok; rw [Bool.and_eq_true, Bool.and_eq_true, Bool.and_eq_true]
def Gn.parts (a b : Tri) (x y : Int) : Tri := if Gn.ok a b x y = true then (a.1 * (b.2.2 - a.2.2 + x), a.1 * (b.2.1 - a.2.1), (b.1 - a.1) * (b.2.1 + b.2.2) - y) else (0, 0, 0)
def Gn.gain (a b : Tri) (x y : Int) : Int := if Gn.ok a b x y = true then b.1 * (b.2.1 + b.2.2) - a.1 * (a.2.1 + a.2.2) + a.1 * x - y else 0
theorem Gn.parts_no {a b : Tri} {x y : Int} (h : Gn.ok a b x y = false) : Gn.parts a b x y = (0, 0, 0) := if_neg (by rw [h]; simp)
theorem Gn.gain_no {a b : Tri} {x y : Int} (h : Gn.ok a b x y = false) : Gn.gain a b x y = 0 := if_neg (by rw [h]; simp)
theorem Gn.parts_yes {a b : Tri} {x y : Int} (h : Gn.ok a b x y = true) : Gn.parts a b x y = (a.1 * (b.2.2 - a.2.2 + x), a.1 * (b.2.1 - a.2.1), (b.1 - a.1) * (b.2.1 + b.2.2) - y) := if_pos h
theorem Gn.gain_yes {a b : Tri} {x y : Int} (h : Gn.ok a b x y = true) : Gn.gain a b x y = b.1 * (b.2.1 + b.2.2) - a.1 * (a.2.1 + a.2.2) + a.1 * x - y := if_pos h
/-- All bounds of a gain's numbers. -/
theorem Gn.bd {m c a n d b x y : Int} (h : Gn.ok (m, c, a) (n, d, b) x y = true) :
    (-9999 ≤ m ∧ m ≤ 9999) ∧ (0 ≤ c ∧ c ≤ 50000) ∧ (0 ≤ a ∧ a ≤ 50000) ∧ (-9999 ≤ n ∧ n ≤ 9999) ∧ (0 ≤ d ∧ d ≤ 50000) ∧ (0 ≤ b ∧ b ≤ 50000) ∧ (0 ≤ x ∧ x ≤ 50000) ∧ (-1000000000 ≤ y ∧ y ≤ 1000000000)
    ∧ (-1000000000 ≤ m * (b - a + x) ∧ m * (b - a + x) ≤ 1000000000) ∧ (-1000000000 ≤ m * (d - c) ∧ m * (d - c) ≤ 1000000000) ∧ (-2000000000 ≤ (n - m) * (d + b) ∧ (n - m) * (d + b) ≤ 2000000000)
    ∧ (-1000000000 ≤ m * (c + a) ∧ m * (c + a) ≤ 1000000000) ∧ (-1000000000 ≤ n * (d + b) ∧ n * (d + b) ≤ 1000000000) ∧ (-1000000000 ≤ m * x ∧ m * x ≤ 1000000000) := by
  obtain ⟨ha, hb, hx, hy⟩ := Gn.iff.1 h
  obtain ⟨⟨m0, m1⟩, ⟨c0, c1⟩, a0, a1⟩ := Mk.one_iff.1 ha
  obtain ⟨⟨n0, n1⟩, ⟨d0, d1⟩, b0, b1⟩ := Mk.one_iff.1 hb
  obtain ⟨x0, x1⟩ := btw_iff.1 hx
  obtain ⟨y0, y1⟩ := btw_iff.1 hy
  have e1 := mulN (m := m) (s := b - a + x) (A := 9999) (B := 100000) (by omega) (by omega)
  have e2 := mulN (m := m) (s := d - c) (A := 9999) (B := 50000) (by omega) (by omega)
  have e3 := mulN (m := n - m) (s := d + b) (A := 19998) (B := 100000) (by omega) (by omega)
  have e4 := mulN (m := m) (s := c + a) (A := 9999) (B := 100000) (by omega) (by omega)
  have e5 := mulN (m := n) (s := d + b) (A := 9999) (B := 100000) (by omega) (by omega)
  have e6 := mulN (m := m) (s := x) (A := 9999) (B := 50000) (by omega) (by omega)
  refine ⟨⟨m0, m1⟩, ⟨c0, c1⟩, ⟨a0, a1⟩, ⟨n0, n1⟩, ⟨d0, d1⟩, ⟨b0, b1⟩, ⟨x0, x1⟩, ⟨y0, y1⟩, ⟨by omega, by omega⟩, ⟨by omega, by omega⟩, ⟨by omega, by omega⟩, ⟨by omega, by omega⟩, ⟨by omega, by omega⟩, by omega, by omega⟩
set_option maxHeartbeats 2000000 in
theorem validGain_any (m c a n d b x y : Int) (w : World) :
    Calls Try.prog 35 #[triV (m, c, a), triV (n, d, b), .int .i64 x, .int .i64 y] w fun e w' => e = .returned (.bool (Gn.ok (m, c, a) (n, d, b) x y)) ∧ Below w.heap.size w w' := by
  have K0 := ((Kp.refl w).new 24 (mkA (m, c, a))).new 24 (mkA (n, d, b))
  simp only [World.size_alloc] at K0
  have VM := Lib.hid (fun W => mvalid_any (m, c, a) W)
  have VN := Lib.hid (fun W => mvalid_any (n, d, b) W)
  cases h0 : Mk.one (m, c, a) with
  | false =>
    have E := Lib.hid (Gn.n0 (b := (n, d, b)) (x := x) (y := y) h0)
    have H0 := Lib.hid h0; clear h0
    have K := K0
    obtain ⟨y0, y1, y2⟩ := K.s1
    obtain ⟨x0, x1, x2⟩ := K.s2
    go_enter Try.func35, Try.ntmps35
    go_wp2_with fail
    refine (VM.out _).mono ?_
    rintro e w1 ⟨rfl, hb1⟩
    replace K := K.below hb1
    clear hb1 x0 x1 x2 y0 y1 y2
    obtain ⟨y0, y1, y2⟩ := K.s1
    obtain ⟨x0, x1, x2⟩ := K.s2
    rw [H0.out]
    go_wp2_with fail
    go_ret
    exact ⟨ret_bool E.out.symm, K.1⟩
  | true =>
    cases h1 : Mk.one (n, d, b) with
    | false =>
      have E := Lib.hid (Gn.n1 (x := x) (y := y) h0 h1)
      have H0 := Lib.hid h0; clear h0
      have H1 := Lib.hid h1; clear h1
      have K := K0
      obtain ⟨y0, y1, y2⟩ := K.s1
      obtain ⟨x0, x1, x2⟩ := K.s2
      go_enter Try.func35, Try.ntmps35
      go_wp2_with fail
      refine (VM.out _).mono ?_
      rintro e w1 ⟨rfl, hb1⟩
      replace K := K.below hb1
      clear hb1 x0 x1 x2 y0 y1 y2
      obtain ⟨y0, y1, y2⟩ := K.s1
      obtain ⟨x0, x1, x2⟩ := K.s2
      rw [H0.out]
      go_wp2_with fail
      refine (VN.out _).mono ?_
      rintro e w2 ⟨rfl, hb2⟩
      replace K := K.below hb2
      clear hb2 x0 x1 x2 y0 y1 y2
      obtain ⟨y0, y1, y2⟩ := K.s1
      obtain ⟨x0, x1, x2⟩ := K.s2
      rw [H1.out]
      go_wp2_with fail
      go_ret
      exact ⟨ret_bool E.out.symm, K.1⟩
    | true =>
      cases h2 : btw x 0 50000 with
      | false =>
        have E := Lib.hid (Gn.n2 (y := y) h0 h1 h2)
        have H0 := Lib.hid h0; clear h0
        have H1 := Lib.hid h1; clear h1
        have H2 := Lib.hid h2; clear h2
        have K := K0
        obtain ⟨y0, y1, y2⟩ := K.s1
        obtain ⟨x0, x1, x2⟩ := K.s2
        go_enter Try.func35, Try.ntmps35
        go_wp2_with fail
        refine (VM.out _).mono ?_
        rintro e w1 ⟨rfl, hb1⟩
        replace K := K.below hb1
        clear hb1 x0 x1 x2 y0 y1 y2
        obtain ⟨y0, y1, y2⟩ := K.s1
        obtain ⟨x0, x1, x2⟩ := K.s2
        rw [H0.out]
        go_wp2_with fail
        refine (VN.out _).mono ?_
        rintro e w2 ⟨rfl, hb2⟩
        replace K := K.below hb2
        clear hb2 x0 x1 x2 y0 y1 y2
        obtain ⟨y0, y1, y2⟩ := K.s1
        obtain ⟨x0, x1, x2⟩ := K.s2
        rw [H1.out]
        go_wp2_with fail
        refine (vprice_any _ _).mono ?_
        rintro e w' ⟨rfl, rfl⟩
        rw [H2.out]
        go_wp2_with fail
        go_ret
        exact ⟨ret_bool E.out.symm, K.1⟩
      | true =>
        cases h3 : btw y (-1000000000) 1000000000 with
        | false =>
          have E := Lib.hid ((Gn.n3 (y := y) h0 h1 h2).trans h3)
          have H0 := Lib.hid h0; clear h0
          have H1 := Lib.hid h1; clear h1
          have H2 := Lib.hid h2; clear h2
          have H3 := Lib.hid h3; clear h3
          have K := K0
          obtain ⟨y0, y1, y2⟩ := K.s1
          obtain ⟨x0, x1, x2⟩ := K.s2
          go_enter Try.func35, Try.ntmps35
          go_wp2_with fail
          refine (VM.out _).mono ?_
          rintro e w1 ⟨rfl, hb1⟩
          replace K := K.below hb1
          clear hb1 x0 x1 x2 y0 y1 y2
          obtain ⟨y0, y1, y2⟩ := K.s1
          obtain ⟨x0, x1, x2⟩ := K.s2
          rw [H0.out]
          go_wp2_with fail
          refine (VN.out _).mono ?_
          rintro e w2 ⟨rfl, hb2⟩
          replace K := K.below hb2
          clear hb2 x0 x1 x2 y0 y1 y2
          obtain ⟨y0, y1, y2⟩ := K.s1
          obtain ⟨x0, x1, x2⟩ := K.s2
          rw [H1.out]
          go_wp2_with fail
          refine (vprice_any _ _).mono ?_
          rintro e w' ⟨rfl, rfl⟩
          rw [H2.out]
          go_wp2_with fail
          refine (vamountK_any _ _).mono ?_
          rintro e w' ⟨rfl, rfl⟩
          rw [H3.out]
          go_wp2_with fail
          go_ret
          exact ⟨ret_bool E.out.symm, K.1⟩
        | true =>
          have E := Lib.hid ((Gn.n3 (y := y) h0 h1 h2).trans h3)
          have H0 := Lib.hid h0; clear h0
          have H1 := Lib.hid h1; clear h1
          have H2 := Lib.hid h2; clear h2
          have H3 := Lib.hid h3; clear h3
          have K := K0
          obtain ⟨y0, y1, y2⟩ := K.s1
          obtain ⟨x0, x1, x2⟩ := K.s2
          go_enter Try.func35, Try.ntmps35
          go_wp2_with fail
          refine (VM.out _).mono ?_
          rintro e w1 ⟨rfl, hb1⟩
          replace K := K.below hb1
          clear hb1 x0 x1 x2 y0 y1 y2
          obtain ⟨y0, y1, y2⟩ := K.s1
          obtain ⟨x0, x1, x2⟩ := K.s2
          rw [H0.out]
          go_wp2_with fail
          refine (VN.out _).mono ?_
          rintro e w2 ⟨rfl, hb2⟩
          replace K := K.below hb2
          clear hb2 x0 x1 x2 y0 y1 y2
          obtain ⟨y0, y1, y2⟩ := K.s1
          obtain ⟨x0, x1, x2⟩ := K.s2
          rw [H1.out]
          go_wp2_with fail
          refine (vprice_any _ _).mono ?_
          rintro e w' ⟨rfl, rfl⟩
          rw [H2.out]
          go_wp2_with fail
          refine (vamountK_any _ _).mono ?_
          rintro e w' ⟨rfl, rfl⟩
          rw [H3.out]
          go_wp2_with fail
          go_ret
          exact ⟨ret_bool E.out.symm, K.1⟩
theorem Kp.s3 {w W : World} {x y : Nat × TypeId × Array Value} {l : List (Nat × TypeId × Array Value)} {b : Nat} {T : TypeId} {m c a : Int} (k : Kp w (x :: y :: (b, T, mkA (m, c, a)) :: l) W) : MkS b m c a W := k.third.three.1
/-- Two positions, each in a block of its own. -/
abbrev MkT (g : Nat) (m c a : Int) (k : Nat) (n d b : Int) (w : World) : Prop := (w.cell? ⟨g, 0, none⟩ = some (.int .i64 m) ∧ w.cell? ⟨g, 1, none⟩ = some (.int .i64 c) ∧ w.cell? ⟨g, 2, none⟩ = some (.int .i64 a)) ∧ w.cell? ⟨k, 0, none⟩ = some (.int .i64 n) ∧ w.cell? ⟨k, 1, none⟩ = some (.int .i64 d) ∧ w.cell? ⟨k, 2, none⟩ = some (.int .i64 b)
theorem Kp.s1s2 {w W : World} {l : List (Nat × TypeId × Array Value)} {g k : Nat} {T : TypeId} {m c a n d b : Int} (h : Kp w ((k, T, mkA (n, d, b)) :: (g, T, mkA (m, c, a)) :: l) W) : MkT g m c a k n d b W := ⟨h.s2, h.s1⟩
theorem Kp.s2s3 {w W : World} {x : Nat × TypeId × Array Value} {l : List (Nat × TypeId × Array Value)} {g k : Nat} {T : TypeId} {m c a n d b : Int} (h : Kp w (x :: (k, T, mkA (n, d, b)) :: (g, T, mkA (m, c, a)) :: l) W) : MkT g m c a k n d b W := ⟨h.s3, h.s2⟩
abbrev pM (w : World) (b : Nat) (d m c : Int) : World := ((w.setCell ⟨b, 0, none⟩ (.int .i64 d)).setCell ⟨b, 1, none⟩ (.int .i64 m)).setCell ⟨b, 2, none⟩ (.int .i64 c)
theorem Kp.tail {w W : World} {l : List (Nat × TypeId × Array Value)} {x : Nat × TypeId × Array Value} (k : Kp w (x :: l) W) : Kp w l W := ⟨k.1, fun t ht => k.2 t (List.mem_cons_of_mem _ ht)⟩
theorem Blk.putM {w w' : World} {b : Nat} {t : TypeId} {cs : Array Value} (h : Blk w b t cs) (i : Nat) (v : Value) (h2 : w' = w.setCell ⟨b, i, none⟩ v) : Blk w' b t (cs.setIfInBounds i v) := by
  subst h2
  unfold Blk at *
  simp only [World.setCell, Array.getElem?_modify, if_true, h, Option.map_some]
  rfl
theorem Blk.putM3 {W : World} {b : Nat} {T : TypeId} {d0 m0 c0 : Int} (k : Blk W b T (mkA (d0, m0, c0))) (d m c : Int) : Blk (pM W b d m c) b T (mkA (d, m, c)) := by
  have h1 := k.putM 0 (.int .i64 d) rfl
  have h2 := h1.putM 1 (.int .i64 m) rfl
  exact h2.putM 2 (.int .i64 c) rfl
theorem Kp.putM {w W : World} {l : List (Nat × TypeId × Array Value)} {b : Nat} {T : TypeId} {x y z : Int} (k : Kp w ((b, T, mkA (x, y, z)) :: l) W) (hne : ∀ t ∈ l, t.1 ≠ b) (hw : w.heap.size ≤ b) (d m c : Int) : Kp w ((b, T, mkA (d, m, c)) :: l) (pM W b d m c) :=
  (((k.tail.set (p := ⟨b, 0, none⟩) hne hw _).set (p := ⟨b, 1, none⟩) hne hw _).set (p := ⟨b, 2, none⟩) hne hw _).add (k.first.putM3 d m c)
theorem Kp.putE {w W : World} {T U : TypeId} {m c a n d b x y z : Int} (k : Kp w [(w.heap.size + 1 + 1, U, mkA (x, y, z)), (w.heap.size + 1, T, mkA (n, d, b)), (w.heap.size, T, mkA (m, c, a))] W) (u v t : Int) :
    Kp w [(w.heap.size + 1 + 1, U, mkA (u, v, t)), (w.heap.size + 1, T, mkA (n, d, b)), (w.heap.size, T, mkA (m, c, a))] (pM W (w.heap.size + 1 + 1) u v t) :=
  k.putM (fun q hq => by
    simp only [List.mem_cons, List.not_mem_nil, or_false] at hq
    rcases hq with rfl | rfl <;> simp <;> omega) (by omega) u v t
set_option maxHeartbeats 2000000 in
theorem gain_any (m c a n d b x y : Int) (w : World) :
    Calls Try.prog 19 #[triV (m, c, a), triV (n, d, b), .int .i64 x, .int .i64 y] w fun e w' => e = .returned (.tuple #[.int .i64 (Gn.gain (m, c, a) (n, d, b) x y), .bool (Gn.ok (m, c, a) (n, d, b) x y)]) ∧ Below w.heap.size w w' := by
  have K0 := ((Kp.refl w).new 24 (mkA (m, c, a))).new 24 (mkA (n, d, b))
  simp only [World.size_alloc] at K0
  have GM := Lib.hid (fun W => validGain_any m c a n d b x y W)
  have K := K0
  obtain ⟨y0, y1, y2⟩ := K.s1
  obtain ⟨x0, x1, x2⟩ := K.s2
  cases h : Gn.ok (m, c, a) (n, d, b) x y with
  | false =>
    rw [Gn.gain_no h]
    have H := Lib.hid h; clear h
    go_enter Try.func19, Try.ntmps19
    go_wp2_with fail
    refine (GM.out _).mono ?_
    rintro e w1 ⟨rfl, hb1⟩
    rw [H.out]
    replace K := K.below hb1
    clear hb1 x0 x1 x2 y0 y1 y2
    go_wp2_with fail
    go_ret2
    exact ⟨rfl, K.1⟩
  | true =>
    rw [Gn.gain_yes h]
    obtain ⟨ha, hb, -, -⟩ := Gn.iff.1 h
    have WM := Lib.hid (fun W => worth_any m c a W ha)
    have WN := Lib.hid (fun W => worth_any n d b W hb)
    clear ha hb
    obtain ⟨⟨m0, m1⟩, ⟨c0, c1⟩, ⟨a0, a1⟩, ⟨n0, n1⟩, ⟨d0, d1⟩, ⟨b0, b1⟩, ⟨p0, p1⟩, ⟨q0, q1⟩, ⟨e0, e0'⟩, ⟨e1, e1'⟩, ⟨e2, e2'⟩, ⟨e3, e3'⟩, ⟨e4, e4'⟩, e5, e5'⟩ := Gn.bd h
    have W0 : IntKind.i64.wrap (n * (d + b) - m * (c + a)) = n * (d + b) - m * (c + a) := IntWalk.i64_in _ (by omega)
    have W1 : IntKind.i64.wrap (m * x) = m * x := IntWalk.i64_in _ (by omega)
    have W2 : IntKind.i64.wrap (n * (d + b) - m * (c + a) + m * x) = n * (d + b) - m * (c + a) + m * x := IntWalk.i64_in _ (by omega)
    have W3 : IntKind.i64.wrap (n * (d + b) - m * (c + a) + m * x - y) = n * (d + b) - m * (c + a) + m * x - y := IntWalk.i64_in _ (by omega)
    have H := Lib.hid h; clear h
    go_enter Try.func19, Try.ntmps19
    go_wp2_with fail
    refine (GM.out _).mono ?_
    rintro e w1 ⟨rfl, hb1⟩
    rw [H.out]
    replace K := K.below hb1
    clear hb1 x0 x1 x2 y0 y1 y2
    obtain ⟨y0, y1, y2⟩ := K.s1
    obtain ⟨x0, x1, x2⟩ := K.s2
    go_wp2_with fail
    go_region_held3 (MkT w.heap.size m c a (w.heap.size + 1) n d b) (first | with_reducible exact KA2.s1s2 | with_reducible exact KA1.s1s2 | with_reducible exact K.drew.s1s2 | fail "nokeep") ((go_at_call 31; (first | (with_reducible refine (WN.out _).mono ?_) | (with_reducible refine (WM.out _).mono ?_)); rintro e _ ⟨rfl, hbx⟩; (first | (have KA2 := KA1.below hbx) | (have KA1 := K.drew.below hbx))))
    all_goals (go_wp2_with fail; go_ret2; exact ⟨rfl, KA2.1⟩)
set_option maxHeartbeats 2000000 in
theorem explain_any (m c a n d b x y : Int) (w : World) :
    Calls Try.prog 17 #[triV (m, c, a), triV (n, d, b), .int .i64 x, .int .i64 y] w fun e w' => e = .returned (.tuple #[triV (Gn.parts (m, c, a) (n, d, b) x y), .bool (Gn.ok (m, c, a) (n, d, b) x y)]) ∧ Below w.heap.size w w' := by
  have K0 := ((Kp.refl w).new 24 (mkA (m, c, a))).new 24 (mkA (n, d, b))
  simp only [World.size_alloc] at K0
  have GM := Lib.hid (fun W => validGain_any m c a n d b x y W)
  have K := K0.new 32 (mkA (0, 0, 0))
  simp only [World.size_alloc] at K
  obtain ⟨y0, y1, y2⟩ := K.s2
  obtain ⟨x0, x1, x2⟩ := K.s3
  cases h : Gn.ok (m, c, a) (n, d, b) x y with
  | false =>
    rw [Gn.parts_no h]
    have H := Lib.hid h; clear h
    go_enter Try.func17, Try.ntmps17
    go_wp2_with fail
    refine (GM.out _).mono ?_
    rintro e w1 ⟨rfl, hb1⟩
    rw [H.out]
    replace K := K.below hb1
    clear hb1 x0 x1 x2 y0 y1 y2
    obtain ⟨⟨z0, z1, z2⟩, f0, f1, f2⟩ := K.first.three
    go_wp2_with fail
    obtain ⟨r0, r1, r2⟩ := (K.putE 0 0 0).s1
    refine bodyPost_ret (v := .tuple #[triV (0, 0, 0), .bool false]) (by simp [results, Try.results17, go_sem, r0, r1, r2]) rfl ⟨rfl, ?_⟩
    repeat (refine Below.setCell ?_ (by simp <;> omega) _)
    exact K.1
  | true =>
    rw [Gn.parts_yes h]
    obtain ⟨-, hb, -, -⟩ := Gn.iff.1 h
    have DN := Lib.hid (fun W => dirty_any n d b W hb)
    clear hb
    obtain ⟨⟨m0, m1⟩, ⟨c0, c1⟩, ⟨a0, a1⟩, ⟨n0, n1⟩, ⟨d0, d1⟩, ⟨b0, b1⟩, ⟨p0, p1⟩, ⟨q0, q1⟩, ⟨e0, e0'⟩, ⟨e1, e1'⟩, ⟨e2, e2'⟩, ⟨e3, e3'⟩, ⟨e4, e4'⟩, e5, e5'⟩ := Gn.bd h
    have W0 : IntKind.i64.wrap (b - a) = b - a := IntWalk.i64_in _ (by omega)
    have W1 : IntKind.i64.wrap (b - a + x) = b - a + x := IntWalk.i64_in _ (by omega)
    have W2 : IntKind.i64.wrap (m * (b - a + x)) = m * (b - a + x) := IntWalk.i64_in _ (by omega)
    have W3 : IntKind.i64.wrap (d - c) = d - c := IntWalk.i64_in _ (by omega)
    have W4 : IntKind.i64.wrap (m * (d - c)) = m * (d - c) := IntWalk.i64_in _ (by omega)
    have W5 : IntKind.i64.wrap (n - m) = n - m := IntWalk.i64_in _ (by omega)
    have W6 : IntKind.i64.wrap (d + b) = d + b := IntWalk.i64_in _ (by omega)
    have W7 : IntKind.i64.wrap ((n - m) * (d + b)) = (n - m) * (d + b) := IntWalk.i64_in _ (by omega)
    have W8 : IntKind.i64.wrap ((n - m) * (d + b) - y) = (n - m) * (d + b) - y := IntWalk.i64_in _ (by omega)
    have H := Lib.hid h; clear h
    go_enter Try.func17, Try.ntmps17
    go_wp2_with fail
    refine (GM.out _).mono ?_
    rintro e w1 ⟨rfl, hb1⟩
    rw [H.out]
    replace K := K.below hb1
    clear hb1 x0 x1 x2 y0 y1 y2
    obtain ⟨⟨z0, z1, z2⟩, f0, f1, f2⟩ := K.first.three
    obtain ⟨y0, y1, y2⟩ := K.s2
    obtain ⟨x0, x1, x2⟩ := K.s3
    go_wp2_with fail
    go_region_held3 (MkT w.heap.size m c a (w.heap.size + 1) n d b) (first | with_reducible exact KA1.s2s3 | with_reducible exact K.drew.s2s3 | with_reducible exact (KA1.putE _ _ _).s2s3 | fail "nokeep") ((go_at_call 36; (with_reducible refine (DN.out _).mono ?_); rintro e _ ⟨rfl, hbx⟩; have KA1 := K.drew.below hbx; obtain ⟨⟨z0, z1, z2⟩, f0, f1, f2⟩ := KA1.first.three))
    all_goals go_wp2_with fail
    all_goals
      obtain ⟨r0, r1, r2⟩ := (KA1.putE (m * (b - a + x)) (m * (d - c)) ((n - m) * (d + b) - y)).s1
      refine bodyPost_ret (v := .tuple #[triV (m * (b - a + x), m * (d - c), (n - m) * (d + b) - y), .bool true]) (by simp [results, Try.results17, go_sem, r0, r1, r2]) rfl ⟨rfl, ?_⟩
      repeat (refine Below.setCell ?_ (by simp <;> omega) _)
      exact KA1.1
set_option maxHeartbeats 2000000 in
theorem sexplain_any (m c a n d b x y : Int) (w : World) (h : Gn.ok (m, c, a) (n, d, b) x y = true) :
    Calls Try.prog 38 #[triV (m, c, a), triV (n, d, b), .int .i64 x, .int .i64 y] w fun e w' => e = .returned (triV (m * (b - a + x), m * (d - c), (n - m) * (d + b) - y)) ∧ Below w.heap.size w w' := by
  have K0 := ((Kp.refl w).new 24 (mkA (m, c, a))).new 24 (mkA (n, d, b))
  simp only [World.size_alloc] at K0
  have K := K0.new 32 (mkA (0, 0, 0))
  simp only [World.size_alloc] at K
  obtain ⟨⟨z0, z1, z2⟩, f0, f1, f2⟩ := K.first.three
  obtain ⟨y0, y1, y2⟩ := K.s2
  obtain ⟨x0, x1, x2⟩ := K.s3
  obtain ⟨⟨m0, m1⟩, ⟨c0, c1⟩, ⟨a0, a1⟩, ⟨n0, n1⟩, ⟨d0, d1⟩, ⟨b0, b1⟩, ⟨p0, p1⟩, ⟨q0, q1⟩, ⟨e0, e0'⟩, ⟨e1, e1'⟩, ⟨e2, e2'⟩, ⟨e3, e3'⟩, ⟨e4, e4'⟩, e5, e5'⟩ := Gn.bd h
  have W0 : IntKind.i64.wrap (b - a) = b - a := IntWalk.i64_in _ (by omega)
  have W1 : IntKind.i64.wrap (b - a + x) = b - a + x := IntWalk.i64_in _ (by omega)
  have W2 : IntKind.i64.wrap (m * (b - a + x)) = m * (b - a + x) := IntWalk.i64_in _ (by omega)
  have W3 : IntKind.i64.wrap (d - c) = d - c := IntWalk.i64_in _ (by omega)
  have W4 : IntKind.i64.wrap (m * (d - c)) = m * (d - c) := IntWalk.i64_in _ (by omega)
  have W5 : IntKind.i64.wrap (n - m) = n - m := IntWalk.i64_in _ (by omega)
  have W6 : IntKind.i64.wrap (d + b) = d + b := IntWalk.i64_in _ (by omega)
  have W7 : IntKind.i64.wrap ((n - m) * (d + b)) = (n - m) * (d + b) := IntWalk.i64_in _ (by omega)
  have W8 : IntKind.i64.wrap ((n - m) * (d + b) - y) = (n - m) * (d + b) - y := IntWalk.i64_in _ (by omega)
  clear h
  go_enter Try.func38, Try.ntmps38
  go_wp2_with fail
  have K2 := K0.new 32 (mkA (m * (b - a + x), m * (d - c), (n - m) * (d + b) - y))
  refine bodyPost_ret (v := triV (m * (b - a + x), m * (d - c), (n - m) * (d + b) - y)) (by simp [results, Try.results38, go_sem]) rfl ⟨rfl, K2.1⟩
set_option maxHeartbeats 2000000 in
theorem sExplain_any (m c a n d b x y : Int) (w : World) :
    Calls Try.prog 18 #[triV (m, c, a), triV (n, d, b), .int .i64 x, .int .i64 y] w fun e w' => e = .returned (.tuple #[triV (Gn.parts (m, c, a) (n, d, b) x y), .bool (Gn.ok (m, c, a) (n, d, b) x y)]) ∧ Below w.heap.size w w' := by
  have K0 := ((Kp.refl w).new 24 (mkA (m, c, a))).new 24 (mkA (n, d, b))
  simp only [World.size_alloc] at K0
  have VM := Lib.hid (fun W => smvalid_any (m, c, a) W)
  have VN := Lib.hid (fun W => smvalid_any (n, d, b) W)
  have K1 := K0.new 32 (mkA (0, 0, 0))
  simp only [World.size_alloc] at K1
  cases h0 : Mk.one (m, c, a) with
  | false =>
    have E := Lib.hid (Gn.n0 (b := (n, d, b)) (x := x) (y := y) h0)
    rw [E.out, Gn.parts_no E.out]
    have H0 := Lib.hid h0; clear h0
    have K := K1
    obtain ⟨y0, y1, y2⟩ := K.s2
    obtain ⟨x0, x1, x2⟩ := K.s3
    go_enter Try.func18, Try.ntmps18
    go_wp2_with fail
    refine (VM.out _).mono ?_
    rintro e w1 ⟨rfl, hb1⟩
    replace K := K.below hb1
    clear hb1 x0 x1 x2 y0 y1 y2
    obtain ⟨y0, y1, y2⟩ := K.s2
    obtain ⟨x0, x1, x2⟩ := K.s3
    obtain ⟨⟨z0, z1, z2⟩, f0, f1, f2⟩ := K.first.three
    rw [H0.out]
    go_wp2_with fail
    obtain ⟨r0, r1, r2⟩ := (K.putE 0 0 0).s1
    refine bodyPost_ret (v := .tuple #[triV (0, 0, 0), .bool false]) (by simp [results, Try.results18, go_sem, r0, r1, r2]) rfl ⟨rfl, ?_⟩
    repeat (refine Below.setCell ?_ (by simp <;> omega) _)
    exact K.1
  | true =>
    cases h1 : Mk.one (n, d, b) with
    | false =>
      have E := Lib.hid (Gn.n1 (x := x) (y := y) h0 h1)
      rw [E.out, Gn.parts_no E.out]
      have H0 := Lib.hid h0; clear h0
      have H1 := Lib.hid h1; clear h1
      have K := K1
      obtain ⟨y0, y1, y2⟩ := K.s2
      obtain ⟨x0, x1, x2⟩ := K.s3
      go_enter Try.func18, Try.ntmps18
      go_wp2_with fail
      refine (VM.out _).mono ?_
      rintro e w1 ⟨rfl, hb1⟩
      replace K := K.below hb1
      clear hb1 x0 x1 x2 y0 y1 y2
      obtain ⟨y0, y1, y2⟩ := K.s2
      obtain ⟨x0, x1, x2⟩ := K.s3
      obtain ⟨⟨z0, z1, z2⟩, f0, f1, f2⟩ := K.first.three
      rw [H0.out]
      go_wp2_with fail
      refine (VN.out _).mono ?_
      rintro e w2 ⟨rfl, hb2⟩
      replace K := K.below hb2
      clear hb2 x0 x1 x2 y0 y1 y2
      obtain ⟨y0, y1, y2⟩ := K.s2
      obtain ⟨x0, x1, x2⟩ := K.s3
      clear z0 z1 z2 f0 f1 f2
      obtain ⟨⟨z0, z1, z2⟩, f0, f1, f2⟩ := K.first.three
      rw [H1.out]
      go_wp2_with fail
      obtain ⟨r0, r1, r2⟩ := (K.putE 0 0 0).s1
      refine bodyPost_ret (v := .tuple #[triV (0, 0, 0), .bool false]) (by simp [results, Try.results18, go_sem, r0, r1, r2]) rfl ⟨rfl, ?_⟩
      repeat (refine Below.setCell ?_ (by simp <;> omega) _)
      exact K.1
    | true =>
      cases h2 : btw x 0 50000 with
      | false =>
        have E := Lib.hid (Gn.n2 (y := y) h0 h1 h2)
        rw [E.out, Gn.parts_no E.out]
        have H0 := Lib.hid h0; clear h0
        have H1 := Lib.hid h1; clear h1
        have H2 := Lib.hid h2; clear h2
        have K := K1
        obtain ⟨y0, y1, y2⟩ := K.s2
        obtain ⟨x0, x1, x2⟩ := K.s3
        go_enter Try.func18, Try.ntmps18
        go_wp2_with fail
        refine (VM.out _).mono ?_
        rintro e w1 ⟨rfl, hb1⟩
        replace K := K.below hb1
        clear hb1 x0 x1 x2 y0 y1 y2
        obtain ⟨y0, y1, y2⟩ := K.s2
        obtain ⟨x0, x1, x2⟩ := K.s3
        obtain ⟨⟨z0, z1, z2⟩, f0, f1, f2⟩ := K.first.three
        rw [H0.out]
        go_wp2_with fail
        refine (VN.out _).mono ?_
        rintro e w2 ⟨rfl, hb2⟩
        replace K := K.below hb2
        clear hb2 x0 x1 x2 y0 y1 y2
        obtain ⟨y0, y1, y2⟩ := K.s2
        obtain ⟨x0, x1, x2⟩ := K.s3
        clear z0 z1 z2 f0 f1 f2
        obtain ⟨⟨z0, z1, z2⟩, f0, f1, f2⟩ := K.first.three
        rw [H1.out]
        go_wp2_with fail
        refine (inRange_any _ _ _ _).mono ?_
        rintro e w' ⟨rfl, rfl⟩
        rw [H2.out]
        go_wp2_with fail
        obtain ⟨r0, r1, r2⟩ := (K.putE 0 0 0).s1
        refine bodyPost_ret (v := .tuple #[triV (0, 0, 0), .bool false]) (by simp [results, Try.results18, go_sem, r0, r1, r2]) rfl ⟨rfl, ?_⟩
        repeat (refine Below.setCell ?_ (by simp <;> omega) _)
        exact K.1
      | true =>
        cases h3 : btw y (-1000000000) 1000000000 with
        | false =>
          have E := Lib.hid ((Gn.n3 (y := y) h0 h1 h2).trans h3)
          rw [E.out, Gn.parts_no E.out]
          have H0 := Lib.hid h0; clear h0
          have H1 := Lib.hid h1; clear h1
          have H2 := Lib.hid h2; clear h2
          have H3 := Lib.hid h3; clear h3
          have K := K1
          obtain ⟨y0, y1, y2⟩ := K.s2
          obtain ⟨x0, x1, x2⟩ := K.s3
          go_enter Try.func18, Try.ntmps18
          go_wp2_with fail
          refine (VM.out _).mono ?_
          rintro e w1 ⟨rfl, hb1⟩
          replace K := K.below hb1
          clear hb1 x0 x1 x2 y0 y1 y2
          obtain ⟨y0, y1, y2⟩ := K.s2
          obtain ⟨x0, x1, x2⟩ := K.s3
          obtain ⟨⟨z0, z1, z2⟩, f0, f1, f2⟩ := K.first.three
          rw [H0.out]
          go_wp2_with fail
          refine (VN.out _).mono ?_
          rintro e w2 ⟨rfl, hb2⟩
          replace K := K.below hb2
          clear hb2 x0 x1 x2 y0 y1 y2
          obtain ⟨y0, y1, y2⟩ := K.s2
          obtain ⟨x0, x1, x2⟩ := K.s3
          clear z0 z1 z2 f0 f1 f2
          obtain ⟨⟨z0, z1, z2⟩, f0, f1, f2⟩ := K.first.three
          rw [H1.out]
          go_wp2_with fail
          refine (inRange_any _ _ _ _).mono ?_
          rintro e w' ⟨rfl, rfl⟩
          rw [H2.out]
          go_wp2_with fail
          refine (inRange_any _ _ _ _).mono ?_
          rintro e w' ⟨rfl, rfl⟩
          rw [H3.out]
          go_wp2_with fail
          obtain ⟨r0, r1, r2⟩ := (K.putE 0 0 0).s1
          refine bodyPost_ret (v := .tuple #[triV (0, 0, 0), .bool false]) (by simp [results, Try.results18, go_sem, r0, r1, r2]) rfl ⟨rfl, ?_⟩
          repeat (refine Below.setCell ?_ (by simp <;> omega) _)
          exact K.1
        | true =>
          have h := (Gn.n3 (y := y) h0 h1 h2).trans h3
          rw [h, Gn.parts_yes h]
          have EM := Lib.hid (fun W => sexplain_any m c a n d b x y W h)
          clear h
          have H0 := Lib.hid h0; clear h0
          have H1 := Lib.hid h1; clear h1
          have H2 := Lib.hid h2; clear h2
          have H3 := Lib.hid h3; clear h3
          have K := K1
          obtain ⟨y0, y1, y2⟩ := K.s2
          obtain ⟨x0, x1, x2⟩ := K.s3
          go_enter Try.func18, Try.ntmps18
          go_wp2_with fail
          refine (VM.out _).mono ?_
          rintro e w1 ⟨rfl, hb1⟩
          replace K := K.below hb1
          clear hb1 x0 x1 x2 y0 y1 y2
          obtain ⟨y0, y1, y2⟩ := K.s2
          obtain ⟨x0, x1, x2⟩ := K.s3
          obtain ⟨⟨z0, z1, z2⟩, f0, f1, f2⟩ := K.first.three
          rw [H0.out]
          go_wp2_with fail
          refine (VN.out _).mono ?_
          rintro e w2 ⟨rfl, hb2⟩
          replace K := K.below hb2
          clear hb2 x0 x1 x2 y0 y1 y2
          obtain ⟨y0, y1, y2⟩ := K.s2
          obtain ⟨x0, x1, x2⟩ := K.s3
          clear z0 z1 z2 f0 f1 f2
          obtain ⟨⟨z0, z1, z2⟩, f0, f1, f2⟩ := K.first.three
          rw [H1.out]
          go_wp2_with fail
          refine (inRange_any _ _ _ _).mono ?_
          rintro e w' ⟨rfl, rfl⟩
          rw [H2.out]
          go_wp2_with fail
          refine (inRange_any _ _ _ _).mono ?_
          rintro e w' ⟨rfl, rfl⟩
          rw [H3.out]
          go_wp2_with fail
          refine (EM.out _).mono ?_
          rintro e w3 ⟨rfl, hb3⟩
          replace K := K.below hb3
          clear hb3 x0 x1 x2 y0 y1 y2 z0 z1 z2 f0 f1 f2
          obtain ⟨⟨z0, z1, z2⟩, f0, f1, f2⟩ := K.first.three
          go_wp2_with fail
          obtain ⟨r0, r1, r2⟩ := (K.putE (m * (b - a + x)) (m * (d - c)) ((n - m) * (d + b) - y)).s1
          refine bodyPost_ret (v := .tuple #[triV (m * (b - a + x), m * (d - c), (n - m) * (d + b) - y), .bool true]) (by simp [results, Try.results18, go_sem, r0, r1, r2]) rfl ⟨rfl, ?_⟩
          repeat (refine Below.setCell ?_ (by simp <;> omega) _)
          exact K.1
set_option maxHeartbeats 2000000 in
theorem sGain_any (m c a n d b x y : Int) (w : World) :
    Calls Try.prog 21 #[triV (m, c, a), triV (n, d, b), .int .i64 x, .int .i64 y] w fun e w' => e = .returned (.tuple #[.int .i64 (Gn.gain (m, c, a) (n, d, b) x y), .bool (Gn.ok (m, c, a) (n, d, b) x y)]) ∧ Below w.heap.size w w' := by
  have K0 := ((Kp.refl w).new 24 (mkA (m, c, a))).new 24 (mkA (n, d, b))
  simp only [World.size_alloc] at K0
  have GM := Lib.hid (fun W => sExplain_any m c a n d b x y W)
  have K := K0
  obtain ⟨y0, y1, y2⟩ := K.s1
  obtain ⟨x0, x1, x2⟩ := K.s2
  cases h : Gn.ok (m, c, a) (n, d, b) x y with
  | false =>
    rw [Gn.gain_no h]
    have H := Lib.hid h; clear h
    go_enter Try.func21, Try.ntmps21
    go_wp2_with fail
    refine (GM.out _).mono ?_
    rintro e w1 ⟨rfl, hb1⟩
    rw [H.out]
    replace K := K.below hb1
    clear hb1 x0 x1 x2 y0 y1 y2
    generalize Gn.parts (m, c, a) (n, d, b) x y = r
    obtain ⟨r0, r1, r2⟩ := r
    replace K := K.new 32 (mkA (r0, r1, r2))
    go_wp2_with fail
    go_ret2
    exact ⟨rfl, K.1⟩
  | true =>
    rw [Gn.gain_yes h]
    obtain ⟨ha, hb, -, -⟩ := Gn.iff.1 h
    have WM := Lib.hid (fun W => sworth_any m c a W ha)
    have WN := Lib.hid (fun W => sworth_any n d b W hb)
    clear ha hb
    obtain ⟨⟨m0, m1⟩, ⟨c0, c1⟩, ⟨a0, a1⟩, ⟨n0, n1⟩, ⟨d0, d1⟩, ⟨b0, b1⟩, ⟨p0, p1⟩, ⟨q0, q1⟩, ⟨e0, e0'⟩, ⟨e1, e1'⟩, ⟨e2, e2'⟩, ⟨e3, e3'⟩, ⟨e4, e4'⟩, e5, e5'⟩ := Gn.bd h
    have W0 : IntKind.i64.wrap (n * (d + b) - m * (c + a)) = n * (d + b) - m * (c + a) := IntWalk.i64_in _ (by omega)
    have W1 : IntKind.i64.wrap (m * x) = m * x := IntWalk.i64_in _ (by omega)
    have W2 : IntKind.i64.wrap (n * (d + b) - m * (c + a) + m * x) = n * (d + b) - m * (c + a) + m * x := IntWalk.i64_in _ (by omega)
    have W3 : IntKind.i64.wrap (n * (d + b) - m * (c + a) + m * x - y) = n * (d + b) - m * (c + a) + m * x - y := IntWalk.i64_in _ (by omega)
    have H := Lib.hid h; clear h
    go_enter Try.func21, Try.ntmps21
    go_wp2_with fail
    refine (GM.out _).mono ?_
    rintro e w1 ⟨rfl, hb1⟩
    rw [H.out]
    replace K := K.below hb1
    clear hb1 x0 x1 x2 y0 y1 y2
    generalize Gn.parts (m, c, a) (n, d, b) x y = r
    obtain ⟨r0, r1, r2⟩ := r
    replace K := K.new 32 (mkA (r0, r1, r2))
    obtain ⟨z0, z1, z2⟩ := K.s1
    obtain ⟨y0, y1, y2⟩ := K.s2
    obtain ⟨x0, x1, x2⟩ := K.s3
    go_wp2_with fail
    go_region_held3 (MkT w.heap.size m c a (w.heap.size + 1) n d b) (first | with_reducible exact KA2.s2s3 | with_reducible exact KA1.s2s3 | with_reducible exact K.drew.s2s3 | fail "nokeep") ((go_at_call 33; (first | (with_reducible refine (WN.out _).mono ?_) | (with_reducible refine (WM.out _).mono ?_)); rintro e _ ⟨rfl, hbx⟩; (first | (have KA2 := KA1.below hbx) | (have KA1 := K.drew.below hbx))))
    all_goals (go_wp2_with fail; go_ret2; exact ⟨rfl, KA2.1⟩)
end Go.Proofs.Ytoledkecgfhdbaa
