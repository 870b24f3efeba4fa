/- Coupons, on both sides. -/
import Derived.Test.YtkdooncfchmkfaaDoorBnd
import Derived.Test.YtkdooncfchmkfaaDoorZA
import Derived.Test.YtkdooncfchmkfaaDoorSpec2
import Derived.RegionTactic
import Derived.Deep.RegionHeld3
import Derived.Tactics2
import Derived.WalkKit
import Derived.StillTactics
import Derived.Test.YtkdooncfchmkfaaDoorMath1
namespace Go.Proofs.YtkdooncfchmkfaaDoor
open Go.RowKit
/-- What a whole period pays. -/
def wholeV (m r : Int) : Int := Rt.near (10000 * r * m) 120000
/-- The first day of the period that has all months. -/
noncomputable def fullF (m f t : Int) : Int := if addV t (-m) < 0 then f else addV t (-m)
/-- A coupon. -/
noncomputable def cpnV (m r f t : Int) (z : Bool) : Int := if z = true then wholeV m r else Rt.near (wholeV m r * (t - f)) (t - fullF m f t)
theorem rm_bd {m r : Int} (m0 : 1 ≤ m) (m1 : m ≤ 12) (r0 : 0 ≤ r) (r1 : r ≤ 3000) : 0 ≤ 10000 * r * m ∧ 10000 * r * m ≤ 360000000 := by
  have h : m = 1 ∨ m = 2 ∨ m = 3 ∨ m = 4 ∨ m = 5 ∨ m = 6 ∨ m = 7 ∨ m = 8 ∨ m = 9 ∨ m = 10 ∨ m = 11 ∨ m = 12 := by omega
  rcases h with rfl | rfl | rfl | rfl | rfl | rfl | rfl | rfl | rfl | rfl | rfl | rfl <;> omega
theorem whole_bd {m r : Int} (m0 : 1 ≤ m) (m1 : m ≤ 12) (r0 : 0 ≤ r) (r1 : r ≤ 3000) : 0 ≤ wholeV m r ∧ wholeV m r ≤ 3000 := by
  obtain ⟨a, b⟩ := rm_bd m0 m1 r0 r1
  unfold wholeV Rt.near
  omega
theorem Blk.put {w w' : World} {b : Nat} {t : TypeId} {cs : Array Value} (h : Blk w b t cs) (i : Nat) (v : Value) (h2 : w' = w.setCell ⟨b, i, none⟩ v) : Blk w' b t (cs.setIfInBounds i v) := by
  subst h2
  unfold Blk at h ⊢
  simp only [World.setCell]
  rw [Array.getElem?_modify, if_pos rfl, h]
  rfl
set_option maxRecDepth 8000 in
set_option maxHeartbeats 1000000 in
theorem days_any (f t : Int) (z : Bool) (w : World) (h0 : 0 ≤ f) (h1 : f ≤ 40000) (h2 : 0 ≤ t) (h3 : t ≤ 40000) :
    Calls Tryd.prog 49 #[.agg #[.int .i64 f, .int .i64 t, .bool z]] w fun x w' => x = .returned (.int .i64 (t - f)) ∧ Below w.heap.size w w' := by
  go_enter Tryd.func49, Tryd.ntmps49
  go_wp2_with fail
  go_ret
  exact ⟨rfl, (Below.refl _ _).alloc (Nat.le_refl _) _⟩
set_option maxRecDepth 8000 in
set_option maxHeartbeats 1000000 in
theorem full_any (s e m r f t : Int) (w : World) (hT : Tab w) (m0 : 1 ≤ m) (m1 : m ≤ 12) :
    Calls Tryd.prog 91 #[.agg #[.int .i64 s, .int .i64 e, .int .i64 m, .int .i64 r], .agg #[.int .i64 f, .int .i64 t, .bool false]] w fun x w' => (∃ z, x = .returned (.agg #[.int .i64 (fullF m f t), .int .i64 t, .bool z])) ∧ Below w.heap.size w w' := by
  have HT := Lib.hid hT; clear hT
  have HA := Lib.hid (fun W h => addMonths_any t (-m) W h)
  obtain ⟨q, hq⟩ : ∃ q, q = addV t (-m) := ⟨_, rfl⟩
  have HQ : Hid (fullF m f t = if q < 0 then f else q) := Lib.hid (by rw [hq]; rfl)
  rw [← hq] at HA
  clear hq
  go_enter Tryd.func91, Tryd.ntmps91
  go_wp2_with fail
  refine (HA.out _ (((HT.out.alloc _).alloc _).alloc _)).mono ?_
  rintro x w1 ⟨rfl, hb1⟩
  have HB0 : Hid (Below w.heap.size w (((w.alloc (.cells #[.int .i64 s, .int .i64 e, .int .i64 m, .int .i64 r] 27)).alloc (.cells #[.int .i64 f, .int .i64 t, .bool false] 58)).alloc (.cells #[.int .i64 0, .int .i64 0, .bool false] 58))) := Lib.hid ((((Below.refl _ _).alloc (Nat.le_refl _) _).alloc (by simp) _).alloc (by simp <;> omega) _)
  have hC := HB0.out.trans (hb1.mono (by simp <;> omega))
  have hsz := hb1.size
  simp only [World.size_alloc] at hsz
  have kP := ((Blk.new (w.alloc (.cells #[.int .i64 s, .int .i64 e, .int .i64 m, .int .i64 r] 27)) #[.int .i64 f, .int .i64 t, .bool false] 58).alloc (.cells #[.int .i64 0, .int .i64 0, .bool false] 58)).below hb1 (by simp)
  have kR := (Blk.new ((w.alloc (.cells #[.int .i64 s, .int .i64 e, .int .i64 m, .int .i64 r] 27)).alloc (.cells #[.int .i64 f, .int .i64 t, .bool false] 58)) #[.int .i64 0, .int .i64 0, .bool false] 58).below hb1 (by simp)
  simp only [World.size_alloc] at kP kR
  obtain ⟨⟨g0, g1, g2⟩, u0, u1, u2⟩ := kP.three
  obtain ⟨⟨h0, h1, h2⟩, v0, v1, v2⟩ := kR.three
  by_cases hq : q < 0
  · have E := Lib.hid (show fullF m f t = f by rw [HQ.out, if_pos hq])
    have hq' := decide_eq_true hq
    clear hq
    go_wp2_with fail
    have kS : Blk (((w1.setCell ⟨w.heap.size + 1 + 1, 0, none⟩ (.int .i64 f)).setCell ⟨w.heap.size + 1 + 1, 1, none⟩ (.int .i64 t)).setCell ⟨w.heap.size + 1 + 1, 2, none⟩ (.bool false)) (w.heap.size + 1 + 1) 58 #[.int .i64 f, .int .i64 t, .bool false] := ((kR.put 0 _ rfl).put 1 _ rfl).put 2 _ rfl
    obtain ⟨⟨r0, r1, r2⟩, -⟩ := kS.three
    refine bodyPost_ret (v := .agg #[.int .i64 f, .int .i64 t, .bool false]) (by simp [results, Tryd.results91, go_sem, r0, r1, r2]) rfl ⟨⟨_, by rw [E.out]⟩, ((hC.setCell (by simp <;> omega) _).setCell (by simp <;> omega) _).setCell (by simp <;> omega) _⟩
  · have E := Lib.hid (show fullF m f t = q by rw [HQ.out, if_neg hq])
    have hq' := decide_eq_false hq
    clear hq
    go_wp2_with fail
    have kS : Blk (((w1.setCell ⟨w.heap.size + 1 + 1, 0, none⟩ (.int .i64 q)).setCell ⟨w.heap.size + 1 + 1, 1, none⟩ (.int .i64 t)).setCell ⟨w.heap.size + 1 + 1, 2, none⟩ (.bool true)) (w.heap.size + 1 + 1) 58 #[.int .i64 q, .int .i64 t, .bool true] := ((kR.put 0 _ rfl).put 1 _ rfl).put 2 _ rfl
    obtain ⟨⟨r0, r1, r2⟩, -⟩ := kS.three
    refine bodyPost_ret (v := .agg #[.int .i64 q, .int .i64 t, .bool true]) (by simp [results, Tryd.results91, go_sem, r0, r1, r2]) rfl ⟨⟨_, by rw [E.out]⟩, ((hC.setCell (by simp <;> omega) _).setCell (by simp <;> omega) _).setCell (by simp <;> omega) _⟩
abbrev S7 (n : Nat) (s e m r f t : Int) (w' : World) : Prop := w'.cell? ⟨n, 0, none⟩ = some (.int .i64 s) ∧ w'.cell? ⟨n, 1, none⟩ = some (.int .i64 e) ∧ w'.cell? ⟨n, 2, none⟩ = some (.int .i64 m) ∧ w'.cell? ⟨n, 3, none⟩ = some (.int .i64 r) ∧ w'.cell? ⟨n + 1, 0, none⟩ = some (.int .i64 f) ∧ w'.cell? ⟨n + 1, 1, none⟩ = some (.int .i64 t) ∧ w'.cell? ⟨n + 1, 2, none⟩ = some (.bool false)
theorem seven_new (w : World) (s e m r f t : Int) : S7 w.heap.size s e m r f t ((w.alloc (.cells #[.int .i64 s, .int .i64 e, .int .i64 m, .int .i64 r] 27)).alloc (.cells #[.int .i64 f, .int .i64 t, .bool false] 58)) := by
  obtain ⟨a, b, c, d⟩ := ((Blk.new w #[.int .i64 s, .int .i64 e, .int .i64 m, .int .i64 r] 27).alloc (.cells #[.int .i64 f, .int .i64 t, .bool false] 58)).four
  obtain ⟨⟨x, y, z⟩, -⟩ := (Blk.new (w.alloc (.cells #[.int .i64 s, .int .i64 e, .int .i64 m, .int .i64 r] 27)) #[.int .i64 f, .int .i64 t, .bool false] 58).three
  simp only [World.size_alloc] at x y z
  exact ⟨a, b, c, d, x, y, z⟩
theorem keep7 {n : Nat} {s e m r f t : Int} {W W' : World} (h : S7 n s e m r f t W) (hb : Below W.heap.size W W') (hn : n + 2 ≤ W.heap.size) : S7 n s e m r f t W' :=
  ⟨(hb.cell (p := ⟨n, 0, none⟩) (by show n < _; omega)).trans h.1, (hb.cell (p := ⟨n, 1, none⟩) (by show n < _; omega)).trans h.2.1, (hb.cell (p := ⟨n, 2, none⟩) (by show n < _; omega)).trans h.2.2.1, (hb.cell (p := ⟨n, 3, none⟩) (by show n < _; omega)).trans h.2.2.2.1,
    (hb.cell (p := ⟨n + 1, 0, none⟩) (by show n + 1 < _; omega)).trans h.2.2.2.2.1, (hb.cell (p := ⟨n + 1, 1, none⟩) (by show n + 1 < _; omega)).trans h.2.2.2.2.2.1, (hb.cell (p := ⟨n + 1, 2, none⟩) (by show n + 1 < _; omega)).trans h.2.2.2.2.2.2⟩
set_option maxRecDepth 8000 in
set_option maxHeartbeats 2000000 in
theorem coupon_any (s e m r f t : Int) (z : Bool) (w : World) (hT : Tab w) (m0 : 1 ≤ m) (m1 : m ≤ 12) (r0 : 0 ≤ r) (r1 : r ≤ 3000) (f0 : 0 ≤ f) (f1 : f < t) (t1 : t ≤ 36524) (hA : addV t (-m) < t) :
    Calls Tryd.prog 77 #[.agg #[.int .i64 s, .int .i64 e, .int .i64 m, .int .i64 r], .agg #[.int .i64 f, .int .i64 t, .bool z]] w fun x w' => x = .returned (.int .i64 (cpnV m r f t z)) ∧ Below w.heap.size w w' := by
  have HT := Lib.hid hT; clear hT
  obtain ⟨rm0, rm1⟩ := rm_bd m0 m1 r0 r1
  cases z with
  | true =>
    go_enter Tryd.func77, Tryd.ntmps77
    go_wp2_with fail
    refine (rounded_any _ _ _ (by omega) (by omega) (by omega) (by omega)).mono ?_
    rintro x w1 ⟨rfl, rfl⟩
    go_wp2_with fail
    go_ret
    exact ⟨rfl, ((Below.refl _ _).alloc (Nat.le_refl _) _).alloc (by simp) _⟩
  | false =>
    obtain ⟨W, hW⟩ : ∃ W, W = wholeV m r := ⟨_, rfl⟩
    have HW := Lib.hid hW
    go_enter Tryd.func77, Tryd.ntmps77
    go_wp2_with fail
    refine (rounded_any _ _ _ (by omega) (by omega) (by omega) (by omega)).mono ?_
    rintro x w1 ⟨rfl, rfl⟩
    go_wp2_with fail
    have HF := Lib.hid (full_any s e m r f t)
    have h0 : 0 ≤ fullF m f t ∧ fullF m f t < t := by unfold fullF; split <;> omega
    obtain ⟨h0, h1⟩ := h0
    obtain ⟨W0, hW0⟩ : ∃ W0, W0 = Rt.near (10000 * r * m) 120000 := ⟨_, rfl⟩
    have hwb := whole_bd m0 m1 r0 r1
    unfold wholeV at hwb
    rw [← hW0] at hwb ⊢
    have hpb := mul_bd (a := W0) (b := t - f) (A := 3000) (B := 40000) (by omega) (by omega) (by omega) (by omega)
    have hwr : IntKind.i64.wrap (W0 * (t - f)) = W0 * (t - f) := IntWalk.i64_in _ (by omega)
    have E := Lib.hid (show cpnV m r f t false = Rt.near (W0 * (t - f)) (t - fullF m f t) by unfold cpnV wholeV; rw [hW0]; rfl)
    have K0 : Hid (S7 w.heap.size s e m r f t ((w.alloc (.cells #[.int .i64 s, .int .i64 e, .int .i64 m, .int .i64 r] 27)).alloc (.cells #[.int .i64 f, .int .i64 t, .bool false] 58))) := Lib.hid (seven_new w s e m r f t)
    have HT0 := Lib.hid ((HT.out.alloc (.cells #[.int .i64 s, .int .i64 e, .int .i64 m, .int .i64 r] 27)).alloc (.cells #[.int .i64 f, .int .i64 t, .bool false] 58))
    have B0 := Lib.hid (((Below.refl w.heap.size w).alloc (Nat.le_refl _) (.cells #[.int .i64 s, .int .i64 e, .int .i64 m, .int .i64 r] 27)).alloc (by simp) (.cells #[.int .i64 f, .int .i64 t, .bool false] 58))
    have Z0 : Hid (w.heap.size + 2 ≤ ((w.alloc (.cells #[.int .i64 s, .int .i64 e, .int .i64 m, .int .i64 r] 27)).alloc (.cells #[.int .i64 f, .int .i64 t, .bool false] 58)).heap.size) := Lib.hid (by simp)
    generalize ((w.alloc (.cells #[.int .i64 s, .int .i64 e, .int .i64 m, .int .i64 r] 27)).alloc (.cells #[.int .i64 f, .int .i64 t, .bool false] 58)) = W1 at K0 HT0 B0 Z0 ⊢
    clear hW0 hW HW rm0 rm1
    go_region_held3 (S7 w.heap.size s e m r f t) (first | exact k3 | exact k2 | exact k1 | exact K0.out)
      (first
        | (go_at_call 49; refine (days_any f t false _ (by omega) (by omega) (by omega) (by omega)).mono ?_; rintro x w2 ⟨rfl, hb2⟩; have k1 := keep7 (by exact K0.out) hb2 (by exact Z0.out); have z1 := Nat.le_trans (by exact Z0.out) hb2.size)
        | (go_at_call 91; refine (HF.out _ (Tab.below (by exact HT0.out) hb2 (by exact HT0.out.pos)) m0 m1).mono ?_; rintro x w3 ⟨⟨z3, rfl⟩, hb3⟩; have k2 := keep7 (by exact k1) hb3 (by exact z1); have z2 := Nat.le_trans z1 hb3.size)
        | (go_at_call 49; refine (days_any (fullF m f t) t z3 _ (by omega) (by omega) (by omega) (by omega)).mono ?_; rintro x w4 ⟨rfl, hb4⟩; have k3 := keep7 (by exact k2) hb4 (by exact z2))
        | (go_at_call 90; refine (rounded_any _ _ _ (by omega) (by omega) (by omega) (by omega)).mono ?_; rintro x w5 ⟨rfl, rfl⟩))
    all_goals
      go_wp2_with fail
      go_ret
      exact ⟨ret_int E.out.symm, B0.out.drew.trans ((hb2.trans ((hb3.trans (hb4.mono hb3.size)).mono hb2.size)).mono B0.out.size)⟩
end Go.Proofs.YtkdooncfchmkfaaDoor
