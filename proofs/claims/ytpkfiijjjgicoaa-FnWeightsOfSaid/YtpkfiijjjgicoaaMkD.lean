/- Positions drawn out of a law's input. -/
import Derived.Test.YtpkfiijjjgicoaaMkA
import Derived.Test.YtpkfiijjjgicoaaKg
import Derived.Deep.RegionHeld3
namespace Go.Proofs.Ytpkfiijjjgicoaa
open Go.RowKit
def MkPost (w : World) (g p : Nat) (e : Ending) (w' : World) : Prop :=
  ∃ m c a : Int, e = .returned (triV (m, c, a)) ∧ (-10000 ≤ m ∧ m ≤ 10000) ∧ (-1 ≤ c ∧ c ≤ 50001) ∧ (-1 ≤ a ∧ a ≤ 50001) ∧ Rdr w' g (p + 5) ∧ w.grownBy w' (some g)
theorem Rdr.setCellM {w : World} {g p : Nat} (h : Rdr w g p) {q : Addr} (hq : g < q.block) (u : Value) : Rdr (w.setCell q u) g p := h.below ((Below.refl (g + 1) w).setCell (by omega) u) (by omega)
set_option maxHeartbeats 2000000 in
theorem anyMark_any (w : World) (g p : Nat) (h : Rdr w g p) (hp : p ≤ 800000) :
    Calls Try.prog 61 #[.pointer (some ⟨g, 0, none⟩)] w (MkPost w g p) := by
  have hgl := h.lt
  go_enter Try.func61, Try.ntmps61
  go_wp2_with fail
  refine (one_any (-10) 9999 _ g _ (w.heap.size + 1) _ _ ((h.alloc _).alloc _) (by omega) (by simpa using heap_alloc_new (w.alloc (.cells #[.int .i64 0, .int .i64 0, .int .i64 0] 33)) _) (by omega) (by decide) (by decide) (by decide) 6 6 (by rfl)).mono ?_
  rintro e w1 ⟨s, rfl, hs, hr, hg⟩
  have kR : Blk w1 w.heap.size 33 #[.int .i64 0, .int .i64 0, .int .i64 0] := ((Blk.new w _ _).alloc _).grown hg (by omega)
  replace hg := grown_trans (grown_alloc (grown_alloc (grown_refl w g) _) _) hg
  have hgR : w.heap.size ≠ g := by omega
  go_wp2_with fail
  refine (pick_any _ _ _ _ hr (by omega) (by omega) (by omega)).mono ?_
  rintro e w2 ⟨r, rfl, ⟨hv, _⟩, hr2, hg2⟩
  obtain ⟨r0, r1⟩ := hv (by omega)
  replace kR := kR.grown hg2 hgR
  replace hg := grown_trans hg hg2
  clear hr hg2 hv
  go_wp2_with fail
  refine (pick_any _ _ _ _ hr2 (by omega) (by omega) (by omega)).mono ?_
  rintro e w3 ⟨t, rfl, ⟨hv, _⟩, hr3, hg3⟩
  obtain ⟨t0', t1'⟩ := hv (by omega)
  replace kR := kR.grown hg3 hgR
  replace hg := grown_trans hg hg3
  clear hr2 hg3 hv
  have kD := Blk.new w3 #[.int .i64 s, .int .i64 (9900 + r), .int .i64 t] 33
  have hgD : w3.heap.size ≠ g := by have := hr3.lt; omega
  have hRD : w.heap.size < w3.heap.size := kR.lt
  have hr3' := hr3.alloc (.cells #[.int .i64 s, .int .i64 (9900 + r), .int .i64 t] 33)
  replace kR := kR.alloc (.cells #[.int .i64 s, .int .i64 (9900 + r), .int .i64 t] 33)
  replace hg := grown_alloc hg (.cells #[.int .i64 s, .int .i64 (9900 + r), .int .i64 t] 33)
  clear hr3
  go_wp2_with fail
  refine (pick_any _ _ _ _ hr3' (by omega) (by omega) (by omega)).mono ?_
  rintro e w4 ⟨v, rfl, ⟨hv, _⟩, hr4, hg4⟩
  obtain ⟨v0, v1⟩ := hv (by omega)
  replace kR := kR.grown hg4 hgR
  replace kD := kD.grown hg4 hgD
  replace hg := grown_trans hg hg4
  clear hr3' hg4 hv
  by_cases c0 : v = 0
  · subst c0
    go_wp2_with fail
    refine (one_any (-10000) 10000 _ g _ w4.heap.size _ _ (hr4.alloc _) (by omega) (heap_alloc_new w4 _) (by have := hr4.lt; omega) (by decide) (by decide) (by decide) 3 3 (by rfl)).mono ?_
    rintro e w5 ⟨u, rfl, hu, hr5, hg5⟩
    obtain ⟨⟨r0', r1', r2'⟩, z0, z1, z2⟩ := ((kR.alloc _).grown hg5 hgR).three
    obtain ⟨⟨x0, x1, x2⟩, f0, f1, f2⟩ := ((kD.alloc _).grown hg5 hgD).three
    replace hg := grown_trans (grown_alloc hg _) hg5
    clear kR kD hr4 hg5
    have hne : ∀ k, (w5.setCell ⟨w3.heap.size, 0, none⟩ (.int .i64 u)).cell? ⟨w.heap.size, k, none⟩ = w5.cell? ⟨w.heap.size, k, none⟩ := fun k => World.cell?_setCell_other _ _ _ _ (by intro e; injection e; omega)
    have s0 := (hne 0).trans r0'
    have s1 := (hne 1).trans r1'
    have s2 := (hne 2).trans r2'
    clear hne
    go_wp2_with fail
    refine bodyPost_ret (v := triV (u, (9900 + r), t)) (by simp [results, Try.results61, go_sem, s0, s1, s2]) rfl ⟨u, (9900 + r), t, rfl, by omega, by omega, by omega, ?_, ?_⟩
    · repeat (refine Rdr.setCellM ?_ (by simp <;> omega) _)
      exact hr5.more (by omega)
    · repeat (refine grown_setCell ?_ (by simp <;> omega) _)
      exact hg
  · skip
    by_cases c1 : v = 1
    · subst c1
      go_wp2_with fail
      refine (one_any (-1) 50001 _ g _ w4.heap.size _ _ (hr4.alloc _) (by omega) (heap_alloc_new w4 _) (by have := hr4.lt; omega) (by decide) (by decide) (by decide) 4 4 (by rfl)).mono ?_
      rintro e w5 ⟨u, rfl, hu, hr5, hg5⟩
      obtain ⟨⟨r0', r1', r2'⟩, z0, z1, z2⟩ := ((kR.alloc _).grown hg5 hgR).three
      obtain ⟨⟨x0, x1, x2⟩, f0, f1, f2⟩ := ((kD.alloc _).grown hg5 hgD).three
      replace hg := grown_trans (grown_alloc hg _) hg5
      clear kR kD hr4 hg5
      have hne : ∀ k, (w5.setCell ⟨w3.heap.size, 1, none⟩ (.int .i64 u)).cell? ⟨w.heap.size, k, none⟩ = w5.cell? ⟨w.heap.size, k, none⟩ := fun k => World.cell?_setCell_other _ _ _ _ (by intro e; injection e; omega)
      have s0 := (hne 0).trans r0'
      have s1 := (hne 1).trans r1'
      have s2 := (hne 2).trans r2'
      clear hne
      go_wp2_with fail
      refine bodyPost_ret (v := triV (s, u, t)) (by simp [results, Try.results61, go_sem, s0, s1, s2]) rfl ⟨s, u, t, rfl, by omega, by omega, by omega, ?_, ?_⟩
      · repeat (refine Rdr.setCellM ?_ (by simp <;> omega) _)
        exact hr5.more (by omega)
      · repeat (refine grown_setCell ?_ (by simp <;> omega) _)
        exact hg
    · skip
      by_cases c2 : v = 2
      · subst c2
        go_wp2_with fail
        refine (one_any (-1) 50001 _ g _ w4.heap.size _ _ (hr4.alloc _) (by omega) (heap_alloc_new w4 _) (by have := hr4.lt; omega) (by decide) (by decide) (by decide) 2 2 (by rfl)).mono ?_
        rintro e w5 ⟨u, rfl, hu, hr5, hg5⟩
        obtain ⟨⟨r0', r1', r2'⟩, z0, z1, z2⟩ := ((kR.alloc _).grown hg5 hgR).three
        obtain ⟨⟨x0, x1, x2⟩, f0, f1, f2⟩ := ((kD.alloc _).grown hg5 hgD).three
        replace hg := grown_trans (grown_alloc hg _) hg5
        clear kR kD hr4 hg5
        have hne : ∀ k, (w5.setCell ⟨w3.heap.size, 2, none⟩ (.int .i64 u)).cell? ⟨w.heap.size, k, none⟩ = w5.cell? ⟨w.heap.size, k, none⟩ := fun k => World.cell?_setCell_other _ _ _ _ (by intro e; injection e; omega)
        have s0 := (hne 0).trans r0'
        have s1 := (hne 1).trans r1'
        have s2 := (hne 2).trans r2'
        clear hne
        go_wp2_with fail
        refine bodyPost_ret (v := triV (s, (9900 + r), u)) (by simp [results, Try.results61, go_sem, s0, s1, s2]) rfl ⟨s, (9900 + r), u, rfl, by omega, by omega, by omega, ?_, ?_⟩
        · repeat (refine Rdr.setCellM ?_ (by simp <;> omega) _)
          exact hr5.more (by omega)
        · repeat (refine grown_setCell ?_ (by simp <;> omega) _)
          exact hg
      · skip
        have e0 : (v == 0) = false := by simp [c0]
        have e1 : (v == 1) = false := by simp [c1]
        have e2 : (v == 2) = false := by simp [c2]
        obtain ⟨⟨r0', r1', r2'⟩, z0, z1, z2⟩ := kR.three
        obtain ⟨⟨x0, x1, x2⟩, -⟩ := kD.three
        clear kR kD
        go_wp2_with fail
        refine bodyPost_ret (v := triV (s, (9900 + r), t)) (by simp [results, Try.results61, go_sem, r0', r1', r2']) rfl ⟨s, 9900 + r, t, rfl, by omega, by omega, by omega, ?_, ?_⟩
        · repeat (refine Rdr.setCellM ?_ (by simp <;> omega) _)
          exact hr4.more (by omega)
        · repeat (refine grown_setCell ?_ (by simp <;> omega) _)
          exact hg
end Go.Proofs.Ytpkfiijjjgicoaa
