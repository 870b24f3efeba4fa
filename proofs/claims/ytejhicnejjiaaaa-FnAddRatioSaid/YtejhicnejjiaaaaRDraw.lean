/- The draws of the laws of ratios. -/
import Derived.Test.YtejhicnejjiaaaaDrawA
import Derived.Test.YtejhicnejjiaaaaRs3
import Derived.Deep.RegionWith
namespace Go.Proofs.Ytejhicnejjiaaaa
open Go.RowKit
theorem grown_setCell {a w : World} {g : Nat} (h : a.grownBy w (some g)) {p : Addr} (hp : a.heap.size ≤ p.block) (u : Value) : a.grownBy (w.setCell p u) (some g) :=
  ⟨h.os, h.tape, h.output, by simpa [World.setCell] using h.size, fun i hi hne => (Below.heap_setCell w p u i (by omega)).trans (h.block i hi hne)⟩
theorem below_grown {a b c : World} {g : Nat} (h : Below a.heap.size a b) (k : b.grownBy c (some g)) (hg : a.heap.size ≤ g) : Below a.heap.size a c :=
  h.grown k h.size (fun j hj => by injection hj with hj; omega)
/-- A drawn ratio. -/
def RatioPost (w : World) (g p : Nat) (e : Ending) (w' : World) : Prop :=
  ∃ n d : Int, e = .returned (.agg #[.int .i64 n, .int .i64 d]) ∧ (-3000000 ≤ n ∧ n ≤ 3000000 ∧ -3000000 ≤ d ∧ d ≤ 3000000) ∧ Rdr w' g (p + 5) ∧ w.grownBy w' (some g)
theorem low_bd {n d : Int} (hd : 1 ≤ d) (h0 : -2000000 ≤ n) (h1 : n ≤ 2000000) (h2 : d ≤ 2000000) : -3000000 ≤ Rt.ln n d ∧ Rt.ln n d ≤ 3000000 ∧ -3000000 ≤ Rt.ld n d ∧ Rt.ld n d ≤ 3000000 := by
  have a := Rt.ln_abs (n := n) (d := d) (by omega)
  have b := Rt.ld_pos (n := n) (d := d) (by omega)
  have c := Rt.ld_le (n := n) (d := d) (by omega)
  omega
theorem Rdr.grownB {w w' : World} {g p : Nat} (h : Rdr w g p) (hb : Below w.heap.size w w') : Rdr w' g p := h.below hb h.lt
theorem Rdr.setCell {w : World} {g p : Nat} (h : Rdr w g p) {q : Addr} (hq : g < q.block) (u : Value) : Rdr (w.setCell q u) g p := h.below ((Below.refl (g + 1) w).setCell (by omega) u) (by omega)
set_option maxHeartbeats 1000000 in
theorem anyRatio_any (w : World) (g p : Nat) (h : Rdr w g p) (hp : p ≤ 800000) :
    Calls Try.prog 39 #[.pointer (some ⟨g, 0, none⟩)] w (RatioPost w g p) := by
  have hgl := h.lt
  go_enter Try.func39, Try.ntmps39
  go_wp2_with fail
  refine (pick_any _ _ _ _ (h.alloc _) (by omega) (by omega) (by omega)).mono ?_
  rintro e w1 ⟨v1, rfl, ⟨hv1, _⟩, hr, hg⟩
  obtain ⟨v1a, v1b⟩ := hv1 (by omega)
  have kR : Blk w1 w.heap.size 26 #[.int .i64 0, .int .i64 0] := (Blk.new w _ _).grown hg (by omega)
  replace hg := grown_trans (grown_alloc (grown_refl w g) _) hg
  have hgR : w.heap.size ≠ g := by omega
  go_wp2_with fail
  refine (pick_any _ _ _ _ hr (by omega) (by omega) (by omega)).mono ?_
  rintro e w2 ⟨v2, rfl, ⟨hv2, _⟩, hr2, hg2⟩
  obtain ⟨v2a, v2b⟩ := hv2 (by omega)
  replace kR := kR.grown hg2 hgR
  replace hg := grown_trans hg hg2
  go_wp2_with fail
  have lb := low_bd (n := v1 - 20) (d := 1 + v2) (by omega) (by omega) (by omega) (by omega)
  refine (sLowest_any _ _ _ (by omega) (by omega) (by omega) (by omega)).mono ?_
  rintro e w3 ⟨rfl, hb3⟩
  generalize Rt.ln (v1 - 20) (1 + v2) = a at *
  generalize Rt.ld (v1 - 20) (1 + v2) = b at *
  have hr3 := hr2.grownB hb3
  replace kR := kR.below hb3 kR.lt
  replace hg := grown_trans hg (grown_below hb3)
  have kD := Blk.new w3 #[.int .i64 a, .int .i64 b] 26
  have hgD : w3.heap.size ≠ g := by have := hr3.lt; omega
  have hRD : w.heap.size < w3.heap.size := kR.lt
  have hr3' := hr3.alloc (.cells #[.int .i64 a, .int .i64 b] 26)
  replace kR := kR.alloc (.cells #[.int .i64 a, .int .i64 b] 26)
  replace hg := grown_alloc hg (.cells #[.int .i64 a, .int .i64 b] 26)
  clear hr hr2 hg2 hb3 hr3 hv1 hv2
  go_wp2_with fail
  refine (pick_any _ _ _ _ hr3' (by omega) (by omega) (by omega)).mono ?_
  rintro e w4 ⟨v, rfl, ⟨hv, _⟩, hr4, hg4⟩
  obtain ⟨v0, v1⟩ := hv (by omega)
  replace kR := kR.grown hg4 hgR
  replace kD := kD.grown hg4 hgD
  replace hg := grown_trans hg hg4
  clear hr3' hg4 hv
  by_cases c0 : v = 0
  · subst c0
    go_wp2_with fail
    refine (one_any (-3000000) 3000000 _ g _ w4.heap.size _ _ (hr4.alloc _) (by omega) (heap_alloc_new w4 _) (by have := hr4.lt; omega) (by decide) (by decide) (by decide) 5 5 (by rfl)).mono ?_
    rintro e w5 ⟨u, rfl, hu, hr5, hg5⟩
    replace kR := (kR.alloc _).grown hg5 hgR
    replace kD := (kD.alloc _).grown hg5 hgD
    replace hg := grown_trans (grown_alloc hg _) hg5
    clear hr4 hg5
    go_wp2_with fail
    refine (one_any (-3000000) 3000000 _ g _ w5.heap.size _ _ (hr5.alloc _) (by omega) (heap_alloc_new w5 _) (by have := hr5.lt; omega) (by decide) (by decide) (by decide) 5 5 (by rfl)).mono ?_
    rintro e w6 ⟨u2, rfl, hu2, hr6, hg6⟩
    obtain ⟨⟨r0, r1⟩, q0, q1⟩ := ((kR.alloc _).grown hg6 hgR).two
    obtain ⟨⟨x0, x1⟩, f0, f1⟩ := ((kD.alloc _).grown hg6 hgD).two
    have hgE := grown_trans (grown_alloc hg _) hg6
    clear hr5 hg6 kR kD hg lb
    have s0 : ((w6.setCell ⟨w3.heap.size, 0, none⟩ (.int .i64 u)).setCell ⟨w3.heap.size, 1, none⟩ (.int .i64 u2)).cell? ⟨w.heap.size, 0, none⟩ = some (.int .i64 0) := by rw [World.cell?_setCell_other _ _ _ _ (by intro e; injection e; omega), World.cell?_setCell_other _ _ _ _ (by intro e; injection e; omega)]; exact r0
    have s1 : ((w6.setCell ⟨w3.heap.size, 0, none⟩ (.int .i64 u)).setCell ⟨w3.heap.size, 1, none⟩ (.int .i64 u2)).cell? ⟨w.heap.size, 1, none⟩ = some (.int .i64 0) := by rw [World.cell?_setCell_other _ _ _ _ (by intro e; injection e; omega), World.cell?_setCell_other _ _ _ _ (by intro e; injection e; omega)]; exact r1
    go_wp2_with fail
    refine bodyPost_ret (v := .agg #[.int .i64 u, .int .i64 u2]) (by simp [results, Try.results39, go_sem, s0, s1]) rfl ⟨u, u2, rfl, ⟨by omega, by omega, by omega, by omega⟩, ?_, ?_⟩
    · exact ((((hr6.more (by omega)).setCell (by simp; omega) _).setCell (by simp; omega) _).setCell (by simp; omega) _).setCell (by simp; omega) _
    · exact grown_setCell (grown_setCell (grown_setCell (grown_setCell hgE (by simp; omega) _) (by simp; omega) _) (by simp) _) (by simp) _
  · by_cases c1 : v = 1
    · subst c1
      go_wp2_with fail
      refine (pick_any _ _ _ _ hr4 (by omega) (by omega) (by omega)).mono ?_
      rintro e w5 ⟨u, rfl, ⟨hu, _⟩, hr5, hg5⟩
      obtain ⟨u0, u1⟩ := hu (by omega)
      replace kR := kR.grown hg5 hgR
      replace kD := kD.grown hg5 hgD
      replace hg := grown_trans hg hg5
      go_wp2_with fail
      have lb := low_bd (n := 1999999) (d := 1 + u * 999) (by omega) (by omega) (by omega) (by omega)
      refine (sLowest_any _ _ _ (by omega) (by omega) (by omega) (by omega)).mono ?_
      rintro e w6 ⟨rfl, hb6⟩
      generalize Rt.ln 1999999 (1 + u * 999) = aa at *
      generalize Rt.ld 1999999 (1 + u * 999) = bb at *
      have hr6 := hr5.grownB hb6
      obtain ⟨⟨r0, r1⟩, q0, q1⟩ := (kR.below hb6 kR.lt).two
      obtain ⟨⟨x0, x1⟩, f0, f1⟩ := (kD.below hb6 kD.lt).two
      have hgE := grown_trans hg (grown_below hb6)
      clear hr5 hg5 kR kD hg hb6 hr4
      have s0 : ((w6.setCell ⟨w3.heap.size, 0, none⟩ (.int .i64 aa)).setCell ⟨w3.heap.size, 1, none⟩ (.int .i64 bb)).cell? ⟨w.heap.size, 0, none⟩ = some (.int .i64 0) := by rw [World.cell?_setCell_other _ _ _ _ (by intro e; injection e; omega), World.cell?_setCell_other _ _ _ _ (by intro e; injection e; omega)]; exact r0
      have s1 : ((w6.setCell ⟨w3.heap.size, 0, none⟩ (.int .i64 aa)).setCell ⟨w3.heap.size, 1, none⟩ (.int .i64 bb)).cell? ⟨w.heap.size, 1, none⟩ = some (.int .i64 0) := by rw [World.cell?_setCell_other _ _ _ _ (by intro e; injection e; omega), World.cell?_setCell_other _ _ _ _ (by intro e; injection e; omega)]; exact r1
      go_wp2_with fail
      refine bodyPost_ret (v := .agg #[.int .i64 aa, .int .i64 bb]) (by simp [results, Try.results39, go_sem, s0, s1]) rfl ⟨aa, bb, rfl, ⟨by omega, by omega, by omega, by omega⟩, ?_, ?_⟩
      · exact ((((hr6.more (by omega)).setCell (by simp; omega) _).setCell (by simp; omega) _).setCell (by simp; omega) _).setCell (by simp; omega) _
      · exact grown_setCell (grown_setCell (grown_setCell (grown_setCell hgE (by simp; omega) _) (by simp; omega) _) (by simp) _) (by simp) _
    · have e0 : (v == 0) = false := by simp [c0]
      have e1 : (v == 1) = false := by simp [c1]
      obtain ⟨⟨r0, r1⟩, q0, q1⟩ := kR.two
      obtain ⟨⟨x0, x1⟩, f0, f1⟩ := kD.two
      clear kR kD
      go_wp2_with fail
      refine bodyPost_ret (v := .agg #[.int .i64 a, .int .i64 b]) (by simp [results, Try.results39, go_sem, r0, r1]) rfl ⟨a, b, rfl, lb, ?_, ?_⟩
      · exact ((hr4.more (by omega)).setCell (by simp; omega) _).setCell (by simp; omega) _
      · exact grown_setCell (grown_setCell hg (by simp) _) (by simp) _
/-- Two numbers drawn out of a law's input. -/
def Drawn2 (lo hi lo2 hi2 : Int) (w : World) (e : Ending) (w' : World) : Prop :=
  ∃ x y : Int, e = .returned (.tuple #[.int .i64 x, .int .i64 y]) ∧ (lo ≤ x ∧ x ≤ hi ∧ lo2 ≤ y ∧ y ≤ hi2) ∧ Below w.heap.size w w'
set_option maxHeartbeats 400000 in
theorem drawMake_any (w : World) (a : Option Addr) (len cap : Nat) (zs : List Int) (h : IsRow .u8 w a len cap zs) :
    Calls Try.prog 15 #[.slice a len cap] w (Drawn2 (-3000000) 3000000 (-3000000) 3000000 w) := by
  have H := Lib.hid h; clear h
  go_enter Try.func15, Try.ntmps15
  go_wp2_with fail
  refine (newReader_any _ _ _ _ _ H.out).mono ?_
  rintro e w1 ⟨g, rfl, hg, hr, hb⟩
  go_wp2_with fail
  refine (one_any (-3000000) 3000000 _ g _ w1.heap.size _ _ (hr.alloc _) (by omega) (heap_alloc_new w1 _) (by have := hr.lt; omega) (by decide) (by decide) (by decide) 9 9 (by rfl)).mono ?_
  rintro e w2 ⟨u, rfl, hu, hr2, hg2⟩
  have hb2 := below_grown (hb.alloc hb.size _) hg2 hg
  go_wp2_with fail
  refine (one_any (-3000000) 3000000 _ g _ w2.heap.size _ _ (hr2.alloc _) (by omega) (heap_alloc_new w2 _) (by have := hr2.lt; omega) (by decide) (by decide) (by decide) 9 9 (by rfl)).mono ?_
  rintro e w3 ⟨x, rfl, hx, hr3, hg3⟩
  have hb3 := below_grown (hb2.alloc hb2.size _) hg3 hg
  go_wp2_with fail
  go_ret2
  exact ⟨u, x, rfl, ⟨by omega, by omega, by omega, by omega⟩, hb3⟩
end Go.Proofs.Ytejhicnejjiaaaa
