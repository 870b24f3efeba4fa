/- A bond and a day near it, drawn out of a law's input. -/
import Derived.Test.YtkdooncfchmkfaaDoorDrawBond
import Derived.Test.YtkdooncfchmkfaaDoorAccB
import Derived.Test.YtkdooncfchmkfaaDoorMinMax
import Derived.Deep.RegionHeld3
namespace Go.Proofs.YtkdooncfchmkfaaDoor
open Go.RowKit
theorem mulD {u M : Int} (u0 : 0 ≤ u) (u1 : u < 250) (m0 : 1 ≤ M) (m1 : M ≤ 60001) : 0 ≤ u * M ∧ u * M ≤ 15000250 ∧ 0 ≤ (u * M).tdiv 250 ∧ (u * M).tdiv 250 ≤ 15000250 := by
  have a := Int.mul_nonneg u0 (show 0 ≤ M by omega)
  have b := Int.mul_le_mul (show u ≤ 250 by omega) m1 (show 0 ≤ M by omega) (by omega)
  rw [Int.tdiv_eq_ediv_of_nonneg a]
  omega
theorem grown_drew1 {a w : World} {g : Nat} (h : a.grownBy w (some g)) : a.grownBy w.drew (some g) := ⟨h.os, h.tape, h.output, h.size, h.block⟩
theorem Rdr.drewD {w : World} {g p : Nat} (h : Rdr w g p) : Rdr w.drew g p := h
theorem s4Of {W : World} {b : Nat} {T : TypeId} {s e m r : Int} (h : Blk W b T #[.int .i64 s, .int .i64 e, .int .i64 m, .int .i64 r]) : S4 b s e m r W := ⟨h.four.1, h.four.2.1, h.four.2.2.1, h.four.2.2.2⟩
theorem Blk.setO {W : World} {g : Nat} {T : TypeId} {cs : Array Value} (h : Blk W g T cs) {q : Addr} (hq : g ≠ q.block) (u : Value) : Blk (W.setCell q u) g T cs := by
  unfold Blk at *
  simp only [World.setCell, Array.getElem?_modify]
  rw [if_neg (fun e => hq e.symm), h]
set_option maxRecDepth 8000 in
set_option maxHeartbeats 4000000 in
theorem bondDay_any (w : World) (g p : Nat) (h : Rdr w g p) (hp : p ≤ 700000) :
    Calls Tryd.prog 34 #[.pointer (some ⟨g, 0, none⟩)] w fun x w' => ∃ s e m r d : Int, x = .returned (.tuple #[boV s e m r, .int .i64 d]) ∧ (0 ≤ s ∧ s ≤ 20000) ∧ (-2 ≤ e ∧ e ≤ 60000) ∧ (0 ≤ m ∧ m ≤ 12) ∧ (-1 ≤ r ∧ r ≤ 3001) ∧ (-5 ≤ d ∧ d ≤ 20000000) ∧ Rdr w' g (p + 30) ∧ w.grownBy w' (some g) := by
  have hgl := h.lt
  go_enter Tryd.func34, Tryd.ntmps34
  go_wp2_with fail
  refine (anyBond_any _ _ _ (h.alloc _) (by omega)).mono ?_
  rintro x w1 ⟨s, e, m, r, rfl, hs, he, hm, hr, hr1, hg1⟩
  have kR := (Blk.new w #[.int .i64 0, .int .i64 0, .int .i64 0, .int .i64 0] 27).grown hg1 (by omega)
  have kB := Blk.new w1 #[.int .i64 s, .int .i64 e, .int .i64 m, .int .i64 r] 27
  have hlt1 := hr1.lt
  have hrl := kR.lt
  have hG := grown_alloc (grown_trans (grown_alloc (grown_refl w g) (.cells #[.int .i64 0, .int .i64 0, .int .i64 0, .int .i64 0] 27)) hg1) (.cells #[.int .i64 s, .int .i64 e, .int .i64 m, .int .i64 r] 27)
  go_wp2_with fail
  refine (pick_any _ _ _ _ (hr1.alloc _) (by omega) (by omega) (by omega)).mono ?_
  rintro x w2 ⟨v, rfl, ⟨hv, -⟩, hr2, hg2⟩
  obtain ⟨v0, v1⟩ := hv (by omega)
  replace kR := (kR.alloc (.cells #[.int .i64 s, .int .i64 e, .int .i64 m, .int .i64 r] 27)).grown hg2 (by omega)
  replace kB := kB.grown hg2 (by omega)
  replace hG := grown_trans hG hg2
  have HB2 := Lib.hid kB
  have HR2 := Lib.hid kR
  have HG := Lib.hid hG
  have HD := Lib.hid hr2
  have hgl2 := hr2.lt
  have hBl := kB.lt
  obtain ⟨Bb, hBb⟩ : ∃ Bb, Bb = w1.heap.size := ⟨_, rfl⟩
  rw [← hBb] at HB2 hBl hlt1 hrl ⊢
  obtain ⟨x0, x1, x2, x3⟩ := kR.four
  obtain ⟨z0, z1, z2, z3⟩ := fourFz kR
  clear kB kR hG hr2 hg2 hBb hr1 hg1 hv
  by_cases c0 : v = 0
  · subst c0
    have W1 : IntKind.i64.wrap (s - 1) = s - 1 := IntWalk.i64_in _ (by omega)
    have W2 : IntKind.i64.wrap (e - 1) = e - 1 := IntWalk.i64_in _ (by omega)
    have W3 : IntKind.i64.wrap (e + 1) = e + 1 := IntWalk.i64_in _ (by omega)
    have OK : Hid (okInts (-5) 70000 #[.int .i64 (s - 1), .int .i64 s, .int .i64 (e - 1), .int .i64 e, .int .i64 (e + 1)] = true) := Lib.hid (by simp [okInts, okInt]; omega)
    go_wp2_with fail
    go_region_held3 (S4 Bb s e m r) (first | with_reducible exact s4Of (blkDrew' HB2.out) | with_reducible exact s4Of ((blkDrew' HB2.out).alloc _) | with_reducible exact s4Of (blkDrew' (HB2.out.alloc _)) | with_reducible exact s4Of k3 | with_reducible exact s4Of ((((k3.setO (by dsimp only; omega) _).setO (by dsimp only; omega) _).setO (by dsimp only; omega) _).setO (by dsimp only; omega) _)) (first | (go_at_call 54; (try rw [W1]); (try rw [W2]); (try rw [W3]); refine (one_any (-5) 70000 _ g (p + 10 + 10 + 1) w2.heap.size #[.int .i64 (s - 1), .int .i64 s, .int .i64 (e - 1), .int .i64 e, .int .i64 (e + 1)] 3 ?_ (by omega) ?_ (by omega) (by simp) (by simp) OK.out 5 5 (by rfl)).mono ?_; (exact Rdr.drewD (HD.out.alloc _)); (exact heap_alloc_new w2 _); rintro x w3 ⟨d, rfl, ⟨d0, d1⟩, hr3, hg3⟩; have k3 := Blk.grown (blkDrew' (HB2.out.alloc _)) hg3 (by omega); have kR3 := Blk.grown (blkDrew' (HR2.out.alloc _)) hg3 (by omega); obtain ⟨x0, x1, x2, x3⟩ := kR3.four; obtain ⟨z0, z1, z2, z3⟩ := fourFz kR3; have hg4 := grown_trans (grown_drew1 (grown_alloc HG.out _)) hg3))
    all_goals go_wp2_with fail
    all_goals
      have k2 := put4_blk kR3 s e m r
      obtain ⟨r0', r1', r2', r3'⟩ := k2.four
      unfold put4 at r0' r1' r2' r3'
      refine bodyPost_ret (v := .tuple #[boV s e m r, .int .i64 d]) (by simp [results, Tryd.results34, go_sem, r0', r1', r2', r3']) rfl ⟨s, e, m, r, d, rfl, hs, he, hm, hr, ⟨by omega, by omega⟩, put4_rdr (hr3.more (by omega)) (by omega) _ _ _ _, put4_grown hg4 (by omega) _ _ _ _⟩
  · have d0 : (v == 0) = false := by simp [c0]
    obtain ⟨M, hM⟩ : ∃ M, M = max (e - s) 1 := ⟨_, rfl⟩
    have M0 : 1 ≤ M := by omega
    have M1 : M ≤ 60001 := by omega
    have W1 : IntKind.i64.wrap (e - s) = e - s := IntWalk.i64_in _ (by omega)
    have fmax : ∀ W : World, (Builtin.max_ #[3, 3] 3 #[.int .i64 (e - s), .int .i64 1]).run Tryd.prog W = .ok (.int .i64 M) W := fun W => by rw [hM]; exact run_max2' _ _ _ _ W
    clear hM
    go_wp2_with fail
    go_region_held3 (S4 Bb s e m r) (first | with_reducible exact s4Of (blkDrew' HB2.out) | with_reducible exact s4Of ((blkDrew' HB2.out).alloc _) | with_reducible exact s4Of (blkDrew' (HB2.out.alloc _)) | with_reducible exact s4Of k3 | with_reducible exact s4Of ((((k3.setO (by dsimp only; omega) _).setO (by dsimp only; omega) _).setO (by dsimp only; omega) _).setO (by dsimp only; omega) _)) (first | (go_at_call 53; refine (pick_any 250 _ g (p + 10 + 10 + 1) ?_ (by omega) (by omega) (by omega)).mono ?_; (exact Rdr.drewD HD.out); rintro x w3 ⟨u, rfl, ⟨hu, -⟩, hr3, hg3⟩; obtain ⟨u0, u1⟩ := hu (by omega); have uM := mulD u0 u1 M0 M1; obtain ⟨uM0, uM1, uM2, uM3⟩ := uM; have k3 := Blk.grown (blkDrew' HB2.out) hg3 (by omega); have kR3 := Blk.grown (blkDrew' HR2.out) hg3 (by omega); obtain ⟨x0, x1, x2, x3⟩ := kR3.four; obtain ⟨z0, z1, z2, z3⟩ := fourFz kR3; have hg4 := grown_trans (grown_drew1 HG.out) hg3))
    all_goals go_wp2_with fail
    all_goals
      have e1 : IntKind.i64.wrap (u * M) = u * M := IntWalk.i64_in _ (by omega)
      have e2 : IntKind.i64.wrap ((u * M).tdiv 250) = (u * M).tdiv 250 := IntWalk.i64_in _ (by omega)
      have e3 : IntKind.i64.wrap (s + (u * M).tdiv 250) = s + (u * M).tdiv 250 := IntWalk.i64_in _ (by omega)
      rw [e1, e2, e3]
      have k2 := put4_blk kR3 s e m r
      obtain ⟨r0', r1', r2', r3'⟩ := k2.four
      unfold put4 at r0' r1' r2' r3'
      refine bodyPost_ret (v := .tuple #[boV s e m r, .int .i64 (s + (u * M).tdiv 250)]) (by simp [results, Tryd.results34, go_sem, r0', r1', r2', r3']) rfl ⟨s, e, m, r, s + (u * M).tdiv 250, rfl, hs, he, hm, hr, ⟨by omega, by omega⟩, put4_rdr (hr3.more (by omega)) (by omega) _ _ _ _, put4_grown hg4 (by omega) _ _ _ _⟩
def DDay (w : World) (x : Ending) (w' : World) : Prop :=
  ∃ s e m r d : Int, x = .returned (.tuple #[boV s e m r, .int .i64 d]) ∧ (0 ≤ s ∧ s ≤ 20000) ∧ (-2 ≤ e ∧ e ≤ 60000) ∧ (0 ≤ m ∧ m ≤ 12) ∧ (-1 ≤ r ∧ r ≤ 3001) ∧ (-5 ≤ d ∧ d ≤ 20000000) ∧ Below w.heap.size w w'
end Go.Proofs.YtkdooncfchmkfaaDoor
