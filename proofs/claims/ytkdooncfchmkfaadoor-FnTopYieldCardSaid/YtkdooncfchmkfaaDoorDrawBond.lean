/- Draws of bonds. -/
import Derived.Test.YtkdooncfchmkfaaDoorSchD
import Derived.Test.YtkdooncfchmkfaaDoorBnd
import Derived.Test.YtkdooncfchmkfaaDoorSpec2
import Derived.Test.YtkdooncfchmkfaaDoorCpn
import Derived.RegionTactic
import Derived.Deep.RegionHeld3
import Derived.Tactics2
import Derived.StillTactics
namespace Go.Proofs.YtkdooncfchmkfaaDoor
open Go.RowKit
theorem fourFz {w : World} {b : Nat} {t : TypeId} {x y z u : Value} (h : Blk w b t #[x, y, z, u]) :
    (w.frozen? ⟨b, 0, none⟩ = false ∧ w.frozen? ⟨b, 1, none⟩ = false ∧ w.frozen? ⟨b, 2, none⟩ = false ∧ w.frozen? ⟨b, 3, none⟩ = false) := by
  unfold Blk at h
  simp [World.frozen?, h]
/-- A bond's four cells, stored. -/
def put4 (w : World) (b : Nat) (s e m r : Int) : World := (((w.setCell ⟨b, 0, none⟩ (.int .i64 s)).setCell ⟨b, 1, none⟩ (.int .i64 e)).setCell ⟨b, 2, none⟩ (.int .i64 m)).setCell ⟨b, 3, none⟩ (.int .i64 r)
theorem put4_blk {w : World} {b : Nat} {x y z u : Value} (h : Blk w b 27 #[x, y, z, u]) (s e m r : Int) : Blk (put4 w b s e m r) b 27 #[.int .i64 s, .int .i64 e, .int .i64 m, .int .i64 r] :=
  (((h.put 0 _ rfl).put 1 _ rfl).put 2 _ rfl).put 3 _ rfl
theorem put4_grown {a w : World} {g b : Nat} (h : a.grownBy w (some g)) (hb : a.heap.size ≤ b) (s e m r : Int) : a.grownBy (put4 w b s e m r) (some g) :=
  grown_setCell (grown_setCell (grown_setCell (grown_setCell h hb _) hb _) hb _) hb _
theorem set_rdr {w : World} {g p b i : Nat} (h : Rdr w g p) (hb : g < b) (v : Value) : Rdr (w.setCell ⟨b, i, none⟩ v) g p :=
  h.below ((Below.refl (g + 1) w).setCell (by show g + 1 ≤ b; omega) v) (by omega)
theorem put4_rdr {w : World} {g p b : Nat} (h : Rdr w g p) (hb : g < b) (s e m r : Int) : Rdr (put4 w b s e m r) g p :=
  set_rdr (set_rdr (set_rdr (set_rdr h hb _) hb _) hb _) hb _
/-- A bond drawn. -/
def DBo (w : World) (g p : Nat) (x : Ending) (w' : World) : Prop :=
  ∃ s e m r : Int, x = .returned (.agg #[.int .i64 s, .int .i64 e, .int .i64 m, .int .i64 r]) ∧ (0 ≤ s ∧ s ≤ 20000) ∧ (-2 ≤ e ∧ e ≤ 60000) ∧ (0 ≤ m ∧ m ≤ 12) ∧ (-1 ≤ r ∧ r ≤ 3001) ∧ Rdr w' g (p + 10) ∧ w.grownBy w' (some g)
set_option maxRecDepth 8000 in
set_option maxHeartbeats 1000000 in
theorem randomBond_any (w : World) (g p : Nat) (h : Rdr w g p) (hp : p ≤ 900000) :
    Calls Tryd.prog 73 #[.pointer (some ⟨g, 0, none⟩)] w (DBo w g p) := by
  have hgl := h.lt
  go_enter Tryd.func73, Tryd.ntmps73
  go_wp2_with fail
  refine (pick_any _ _ _ _ (h.alloc _) (by omega) (by omega) (by omega)).mono ?_
  rintro x w1 ⟨u, rfl, ⟨hu, -⟩, hr1, hg1⟩
  obtain ⟨u0, u1⟩ := hu (by omega)
  go_wp2_with fail
  refine (pick_any _ _ _ _ hr1 (by omega) (by omega) (by omega)).mono ?_
  rintro x w2 ⟨v, rfl, ⟨hv, -⟩, hr2, hg2⟩
  obtain ⟨v0, v1⟩ := hv (by omega)
  go_wp2_with fail
  refine (one_any 3 12 _ g _ w2.heap.size _ _ (hr2.alloc _) (by omega) (heap_alloc_new w2 _) (by have := hr2.lt; omega) (by decide) (by decide) (by decide) 4 4 (by rfl)).mono ?_
  rintro x w3 ⟨m, rfl, ⟨m0, m1⟩, hr3, hg3⟩
  go_wp2_with fail
  refine (one_any 0 3000 _ g _ w3.heap.size _ _ (hr3.alloc _) (by omega) (heap_alloc_new w3 _) (by have := hr3.lt; omega) (by decide) (by decide) (by decide) 6 6 (by rfl)).mono ?_
  rintro x w4 ⟨r, rfl, ⟨r0, r1⟩, hr4, hg4⟩
  go_wp2_with fail
  have kB4 := Blk.new w4 #[.int .i64 (5000 + u * 31), .int .i64 (5000 + u * 31 + 200 + v * 9), .int .i64 m, .int .i64 r] 27
  have kR := ((((((Blk.new w #[.int .i64 0, .int .i64 0, .int .i64 0, .int .i64 0] 27).grown hg1 (by omega)).grown hg2 (by omega)).alloc (.cells #[.int .i64 6, .int .i64 12, .int .i64 3, .int .i64 6] 3)).grown hg3 (by omega)).alloc (.cells #[.int .i64 425, .int .i64 0, .int .i64 100, .int .i64 333, .int .i64 650, .int .i64 3000] 3)).grown hg4 (by omega)
  have hG4 := grown_trans (grown_alloc (grown_trans (grown_alloc (grown_trans (grown_trans (grown_alloc (grown_refl w g) (.cells #[.int .i64 0, .int .i64 0, .int .i64 0, .int .i64 0] 27)) hg1) hg2) (.cells #[.int .i64 6, .int .i64 12, .int .i64 3, .int .i64 6] 3)) hg3) (.cells #[.int .i64 425, .int .i64 0, .int .i64 100, .int .i64 333, .int .i64 650, .int .i64 3000] 3)) hg4
  have hlt4 := hr4.lt
  have hrl := kR.lt
  refine (pick_any _ _ _ _ (hr4.alloc _) (by omega) (by omega) (by omega)).mono ?_
  rintro x w5 ⟨c, rfl, ⟨hc, -⟩, hr5, hg5⟩
  obtain ⟨c0, c1⟩ := hc (by omega)
  have kB5 := kB4.grown hg5 (by omega)
  have kR5 := (kR.alloc (.cells #[.int .i64 (5000 + u * 31), .int .i64 (5000 + u * 31 + 200 + v * 9), .int .i64 m, .int .i64 r] 27)).grown hg5 (by omega)
  have hG5 := grown_trans (grown_alloc hG4 (.cells #[.int .i64 (5000 + u * 31), .int .i64 (5000 + u * 31 + 200 + v * 9), .int .i64 m, .int .i64 r] 27)) hg5
  clear hg1 hg2 hg3 hg4 hg5 hG4 kB4 kR
  obtain ⟨b0, b1, b2, b3⟩ := kB5.four
  obtain ⟨x0, x1, x2, x3⟩ := kR5.four
  obtain ⟨z0, z1, z2, z3⟩ := fourFz kR5
  obtain ⟨y0, y1, y2, y3⟩ := fourFz kB5
  obtain ⟨Bb, hBb⟩ : ∃ Bb, Bb = w4.heap.size := ⟨_, rfl⟩
  rw [← hBb] at b0 b1 b2 b3 y0 y1 y2 y3 kB5 hrl hlt4 ⊢
  clear hBb
  by_cases hc0 : c = 0
  · subst hc0
    have HMK := Lib.hid (show ∀ k : Int, 0 ≤ k → k < 8 → 0 ≤ m * (1 + k) ∧ m * (1 + k) ≤ 96 from fun k k0 k1 => by
      have := Int.mul_nonneg (show 0 ≤ m by omega) (show 0 ≤ 1 + k by omega)
      have h2 := Int.mul_le_mul (show m ≤ 12 from m1) (show 1 + k ≤ 8 by omega) (by omega) (by omega)
      omega)
    have hs := Lib.hid (show 0 ≤ 5000 + u * 31 ∧ 5000 + u * 31 ≤ 20000 by omega)
    have HR5 := Lib.hid hr5
    have KB5 := Lib.hid kB5
    have KR5 := Lib.hid kR5
    have HG5 := Lib.hid hG5
    clear hr5 kB5 kR5 hG5 x0 x1 x2 x3 z0 z1 z2 z3 y0 y1 y2 y3 b0 b1 b3
    go_wp2_with fail
    go_region_held3 (fun w' => w'.cell? ⟨Bb, 2, none⟩ = some (.int .i64 m)) (first | exact t2 | exact d2 | exact a2 | exact b2)
      (first
        | (go_at_call 53; refine (pick_any _ _ _ _ (by exact HR5.out) (by omega) (by omega) (by omega)).mono ?_; rintro x w6 ⟨k, rfl, ⟨hk, -⟩, hr6, hg6⟩; obtain ⟨k0, k1⟩ := hk (by omega); obtain ⟨q0, q1⟩ := HMK.out k k0 k1; have hw1 := IntWalk.i64_in (1 + k) (by omega); have hwr := IntWalk.i64_in (m * (1 + k)) (by omega); have KB6 := Lib.hid (Blk.grown (by exact KB5.out) hg6 (by omega)); have KR6 := Lib.hid (Blk.grown (by exact KR5.out) hg6 (by omega)); have a2 := KB6.out.four.2.2.1)
        | (go_at_call 62; refine (sAddMonths_yes _ _ _ (by omega) (by omega) (by omega) (by omega)).mono ?_; rintro x w7 ⟨rfl, hb7⟩; have hA := addV_bd (5000 + u * 31) (m * (1 + k)); have KB7 := KB6.out.below hb7 KB6.out.lt; have KR7 := Lib.hid (KR6.out.below hb7 KR6.out.lt); have d2 := KB7.four.2.2.1; have t2 := (KB7.put 1 (.int .i64 (addV (5000 + u * 31) (m * (1 + k)))) rfl).four.2.2.1; obtain ⟨b0, b1, -, b3⟩ := KB7.four; obtain ⟨y0, y1, y2, y3⟩ := fourFz KB7))
    all_goals
      have KB8 := Lib.hid (KB7.put 1 (.int .i64 (addV (5000 + u * 31) (m * (1 + k)))) rfl)
      have KR8 := Lib.hid (KR7.out.below ((Below.refl Bb w7).setCell (p := ⟨Bb, 1, none⟩) (Nat.le_refl _) (.int .i64 (addV (5000 + u * 31) (m * (1 + k))))) hrl)
      have HR8 := Lib.hid (set_rdr (i := 1) (hr6.below hb7 hr6.lt) hlt4 (.int .i64 (addV (5000 + u * 31) (m * (1 + k)))))
      have HG8 := Lib.hid (grown_setCell (p := ⟨Bb, 1, none⟩) (grown_trans (grown_trans (show w.grownBy w5.drew (some g) from ⟨HG5.out.os, HG5.out.tape, HG5.out.output, HG5.out.size, HG5.out.block⟩) hg6) (grown_below hb7)) (Nat.le_of_lt hrl) (.int .i64 (addV (5000 + u * 31) (m * (1 + k)))))
      clear t2 d2 a2 KB7 b0 b1 b2 b3 y0 y1 y2 y3
      obtain ⟨b0, b1, b2, b3⟩ := KB8.out.four
      obtain ⟨x0, x1, x2, x3⟩ := KR8.out.four
      obtain ⟨z0, z1, z2, z3⟩ := fourFz KR8.out
      obtain ⟨E, hE⟩ : ∃ E, E = addV (5000 + u * 31) (m * (1 + k)) := ⟨_, rfl⟩
      rw [← hE] at b0 b1 b2 b3 x0 x1 x2 x3 z0 z1 z2 z3 KB8 KR8 HR8 HG8 hA ⊢
      clear hE
      generalize w7.setCell ⟨Bb, 1, none⟩ (.int .i64 E) = w8 at b0 b1 b2 b3 x0 x1 x2 x3 z0 z1 z2 z3 KB8 KR8 HR8 HG8 ⊢
      go_wp2_with fail
      have k2 := put4_blk KR8.out (5000 + u * 31) E m r
      obtain ⟨r0', r1', r2', r3'⟩ := k2.four
      unfold put4 at r0' r1' r2' r3'
      refine bodyPost_ret (v := .agg #[.int .i64 (5000 + u * 31), .int .i64 E, .int .i64 m, .int .i64 r]) (by simp [results, Tryd.results73, go_sem, r0', r1', r2', r3']) rfl ⟨_, _, _, _, rfl, by omega, by omega, by omega, by omega, put4_rdr (HR8.out.more (by omega)) hgl _ _ _ _, put4_grown HG8.out (Nat.le_refl _) _ _ _ _⟩
  · have hcf : (c == 0) = false := by simp [hc0]
    go_wp2_with fail
    have k2 := put4_blk kR5 (5000 + u * 31) (5000 + u * 31 + 200 + v * 9) m r
    obtain ⟨r0', r1', r2', r3'⟩ := k2.four
    unfold put4 at r0' r1' r2' r3'
    refine bodyPost_ret (v := .agg #[.int .i64 (5000 + u * 31), .int .i64 (5000 + u * 31 + 200 + v * 9), .int .i64 m, .int .i64 r]) (by simp [results, Tryd.results73, go_sem, r0', r1', r2', r3']) rfl ⟨_, _, _, _, rfl, by omega, by omega, by omega, by omega, put4_rdr (hr5.more (by omega)) hgl _ _ _ _, put4_grown hG5 (Nat.le_refl _) _ _ _ _⟩
set_option maxRecDepth 8000 in
set_option maxHeartbeats 2000000 in
theorem anyBond_any (w : World) (g p : Nat) (h : Rdr w g p) (hp : p ≤ 800000) :
    Calls Tryd.prog 52 #[.pointer (some ⟨g, 0, none⟩)] w (DBo w g (p + 10)) := by
  have hgl := h.lt
  go_enter Tryd.func52, Tryd.ntmps52
  go_wp2_with fail
  refine (randomBond_any _ _ _ (h.alloc _) (by omega)).mono ?_
  rintro x w1 ⟨s, e, m, r, rfl, hs, he, hm, hr, hr1, hg1⟩
  go_wp2_with fail
  have hlt1 := hr1.lt
  have kB := Blk.new w1 #[.int .i64 s, .int .i64 e, .int .i64 m, .int .i64 r] 27
  have kR := (Blk.new w #[.int .i64 0, .int .i64 0, .int .i64 0, .int .i64 0] 27).grown hg1 (by omega)
  have hrl := kR.lt
  have hG1 := grown_alloc (grown_trans (grown_alloc (grown_refl w g) (.cells #[.int .i64 0, .int .i64 0, .int .i64 0, .int .i64 0] 27)) hg1) (.cells #[.int .i64 s, .int .i64 e, .int .i64 m, .int .i64 r] 27)
  refine (pick_any _ _ _ _ (hr1.alloc _) (by omega) (by omega) (by omega)).mono ?_
  rintro x w2 ⟨v, rfl, ⟨hv, -⟩, hr2, hg2⟩
  obtain ⟨v0, v1⟩ := hv (by omega)
  have KB := Lib.hid (kB.grown hg2 (by omega))
  have KR := Lib.hid ((kR.alloc (.cells #[.int .i64 s, .int .i64 e, .int .i64 m, .int .i64 r] 27)).grown hg2 (by omega))
  have HG := Lib.hid (grown_trans hG1 hg2)
  have HR := Lib.hid hr2
  obtain ⟨Bb, hBb⟩ : ∃ Bb, Bb = w1.heap.size := ⟨_, rfl⟩
  rw [← hBb] at KB hrl hlt1 ⊢
  clear hBb kB kR hG1 hg1 hg2 hr1 hr2
  obtain ⟨b0, b1, b2, b3⟩ := KB.out.four
  obtain ⟨y0, y1, y2, y3⟩ := fourFz KB.out
  by_cases c0 : v = 0
  · subst c0
    go_wp2_with fail
    refine (one_any (-2) 60000 _ g _ w2.heap.size _ _ (HR.out.alloc _) (by omega) (heap_alloc_new w2 _) (by have := HR.out.lt; omega) (by simp) (by simp) (by simp [okInts, okInt]; omega) 4 4 (by rfl)).mono ?_
    rintro x w3 ⟨q, rfl, ⟨q0, q1⟩, hr3, hg3⟩
    have KB3 := (KB.out.alloc (.cells #[.int .i64 s, .int .i64 (s + 1), .int .i64 36525, .int .i64 (s - 1)] 3)).grown hg3 (by omega)
    have KR3 := (KR.out.alloc (.cells #[.int .i64 s, .int .i64 (s + 1), .int .i64 36525, .int .i64 (s - 1)] 3)).grown hg3 (by omega)
    have HG3 := Lib.hid (grown_setCell (p := ⟨Bb, 1, none⟩) (grown_trans (grown_alloc HG.out (.cells #[.int .i64 s, .int .i64 (s + 1), .int .i64 36525, .int .i64 (s - 1)] 3)) hg3) (Nat.le_of_lt hrl) (.int .i64 q))
    have HR3 := Lib.hid (set_rdr (i := 1) hr3 hlt1 (.int .i64 q))
    have KB4 := Lib.hid (KB3.put 1 (.int .i64 q) rfl)
    have KR4 := Lib.hid (KR3.below ((Below.refl Bb w3).setCell (p := ⟨Bb, 1, none⟩) (Nat.le_refl _) (.int .i64 q)) hrl)
    obtain ⟨b0, b1, b2, b3⟩ := KB3.four
    obtain ⟨y0, y1, y2, y3⟩ := fourFz KB3
    obtain ⟨e0', e1', e2', e3'⟩ := KB4.out.four
    obtain ⟨x0, x1, x2, x3⟩ := KR4.out.four
    obtain ⟨z0, z1, z2, z3⟩ := fourFz KR4.out
    clear KB3 KR3 hg3 hr3
    go_wp2_with fail
    have k2 := put4_blk KR4.out s q m r
    obtain ⟨r0', r1', r2', r3'⟩ := k2.four
    unfold put4 at r0' r1' r2' r3'
    refine bodyPost_ret (v := .agg #[.int .i64 s, .int .i64 q, .int .i64 m, .int .i64 r]) (by simp [results, Tryd.results52, go_sem, r0', r1', r2', r3']) rfl ⟨_, _, _, _, rfl, hs, (by omega), hm, hr, put4_rdr (HR3.out.more (by omega)) hgl _ _ _ _, put4_grown HG3.out (Nat.le_refl _) _ _ _ _⟩
  · have d0 : (v == 0) = false := by simp [c0]
    by_cases c1 : v = 1
    · subst c1
      go_wp2_with fail
      refine (one_any 0 12 _ g _ w2.heap.size _ _ (HR.out.alloc _) (by omega) (heap_alloc_new w2 _) (by have := HR.out.lt; omega) (by decide) (by decide) (by decide) 3 3 (by rfl)).mono ?_
      rintro x w3 ⟨q, rfl, ⟨q0, q1⟩, hr3, hg3⟩
      have KB3 := (KB.out.alloc (.cells #[.int .i64 2, .int .i64 0, .int .i64 1] 3)).grown hg3 (by omega)
      have KR3 := (KR.out.alloc (.cells #[.int .i64 2, .int .i64 0, .int .i64 1] 3)).grown hg3 (by omega)
      have HG3 := Lib.hid (grown_setCell (p := ⟨Bb, 2, none⟩) (grown_trans (grown_alloc HG.out (.cells #[.int .i64 2, .int .i64 0, .int .i64 1] 3)) hg3) (Nat.le_of_lt hrl) (.int .i64 q))
      have HR3 := Lib.hid (set_rdr (i := 2) hr3 hlt1 (.int .i64 q))
      have KB4 := Lib.hid (KB3.put 2 (.int .i64 q) rfl)
      have KR4 := Lib.hid (KR3.below ((Below.refl Bb w3).setCell (p := ⟨Bb, 2, none⟩) (Nat.le_refl _) (.int .i64 q)) hrl)
      obtain ⟨b0, b1, b2, b3⟩ := KB3.four
      obtain ⟨y0, y1, y2, y3⟩ := fourFz KB3
      obtain ⟨e0', e1', e2', e3'⟩ := KB4.out.four
      obtain ⟨x0, x1, x2, x3⟩ := KR4.out.four
      obtain ⟨z0, z1, z2, z3⟩ := fourFz KR4.out
      clear KB3 KR3 hg3 hr3
      go_wp2_with fail
      have k2 := put4_blk KR4.out s e q r
      obtain ⟨r0', r1', r2', r3'⟩ := k2.four
      unfold put4 at r0' r1' r2' r3'
      refine bodyPost_ret (v := .agg #[.int .i64 s, .int .i64 e, .int .i64 q, .int .i64 r]) (by simp [results, Tryd.results52, go_sem, r0', r1', r2', r3']) rfl ⟨_, _, _, _, rfl, hs, he, (by omega), hr, put4_rdr (HR3.out.more (by omega)) hgl _ _ _ _, put4_grown HG3.out (Nat.le_refl _) _ _ _ _⟩
    · have d1 : (v == 1) = false := by simp [c1]
      by_cases c2 : v = 2
      · subst c2
        go_wp2_with fail
        refine (one_any (-1) 3001 _ g _ w2.heap.size _ _ (HR.out.alloc _) (by omega) (heap_alloc_new w2 _) (by have := HR.out.lt; omega) (by decide) (by decide) (by decide) 3 3 (by rfl)).mono ?_
        rintro x w3 ⟨q, rfl, ⟨q0, q1⟩, hr3, hg3⟩
        have KB3 := (KB.out.alloc (.cells #[.int .i64 (-1), .int .i64 3000, .int .i64 3001] 3)).grown hg3 (by omega)
        have KR3 := (KR.out.alloc (.cells #[.int .i64 (-1), .int .i64 3000, .int .i64 3001] 3)).grown hg3 (by omega)
        have HG3 := Lib.hid (grown_setCell (p := ⟨Bb, 3, none⟩) (grown_trans (grown_alloc HG.out (.cells #[.int .i64 (-1), .int .i64 3000, .int .i64 3001] 3)) hg3) (Nat.le_of_lt hrl) (.int .i64 q))
        have HR3 := Lib.hid (set_rdr (i := 3) hr3 hlt1 (.int .i64 q))
        have KB4 := Lib.hid (KB3.put 3 (.int .i64 q) rfl)
        have KR4 := Lib.hid (KR3.below ((Below.refl Bb w3).setCell (p := ⟨Bb, 3, none⟩) (Nat.le_refl _) (.int .i64 q)) hrl)
        obtain ⟨b0, b1, b2, b3⟩ := KB3.four
        obtain ⟨y0, y1, y2, y3⟩ := fourFz KB3
        obtain ⟨e0', e1', e2', e3'⟩ := KB4.out.four
        obtain ⟨x0, x1, x2, x3⟩ := KR4.out.four
        obtain ⟨z0, z1, z2, z3⟩ := fourFz KR4.out
        clear KB3 KR3 hg3 hr3
        go_wp2_with fail
        have k2 := put4_blk KR4.out s e m q
        obtain ⟨r0', r1', r2', r3'⟩ := k2.four
        unfold put4 at r0' r1' r2' r3'
        refine bodyPost_ret (v := .agg #[.int .i64 s, .int .i64 e, .int .i64 m, .int .i64 q]) (by simp [results, Tryd.results52, go_sem, r0', r1', r2', r3']) rfl ⟨_, _, _, _, rfl, hs, he, hm, (by omega), put4_rdr (HR3.out.more (by omega)) hgl _ _ _ _, put4_grown HG3.out (Nat.le_refl _) _ _ _ _⟩
      · have d2 : (v == 2) = false := by simp [c2]
        obtain ⟨x0, x1, x2, x3⟩ := KR.out.four
        obtain ⟨z0, z1, z2, z3⟩ := fourFz KR.out
        go_wp2_with fail
        have k2 := put4_blk KR.out s e m r
        obtain ⟨r0', r1', r2', r3'⟩ := k2.four
        unfold put4 at r0' r1' r2' r3'
        refine bodyPost_ret (v := .agg #[.int .i64 s, .int .i64 e, .int .i64 m, .int .i64 r]) (by simp [results, Tryd.results52, go_sem, r0', r1', r2', r3']) rfl ⟨_, _, _, _, rfl, hs, he, hm, hr, put4_rdr (HR.out.more (by omega)) hgl _ _ _ _, put4_grown HG.out (Nat.le_refl _) _ _ _ _⟩
end Go.Proofs.YtkdooncfchmkfaaDoor
