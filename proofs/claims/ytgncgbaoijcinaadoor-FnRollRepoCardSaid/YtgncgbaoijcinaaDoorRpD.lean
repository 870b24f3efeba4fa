/- Loans drawn out of a law's input. -/
import Derived.Test.YtgncgbaoijcinaaDoorRp2
import Derived.Test.YtgncgbaoijcinaaDoorKg
namespace Go.Proofs.YtgncgbaoijcinaaDoor
open Go.RowKit
def RpPost (w : World) (g p : Nat) (x : Ending) (w' : World) : Prop :=
  ∃ c r f t h : Int, x = .returned (rpV c r f t h) ∧ (0 ≤ c ∧ c ≤ 100000001) ∧ (0 ≤ r ∧ r ≤ 3000) ∧ (0 ≤ f ∧ f ≤ 36524) ∧ (-1 ≤ t ∧ t ≤ 40525) ∧ (-1 ≤ h ∧ h ≤ 501) ∧ Rdr w' g (p + 20) ∧ w.grownBy w' (some g)
theorem put5_grown {a w : World} {g b : Nat} (h : a.grownBy w (some g)) (hb : a.heap.size ≤ b) (c r f t u : Int) : a.grownBy (put5 w b c r f t u) (some g) :=
  grown_setCell (grown_setCell (grown_setCell (grown_setCell (grown_setCell h hb _) hb _) hb _) hb _) hb _
set_option maxHeartbeats 4000000 in
theorem anyRepo_any (w : World) (g p : Nat) (h : Rdr w g p) (hp : p ≤ 800000) :
    Calls Tryd.prog 10 #[.pointer (some ⟨g, 0, none⟩)] w (RpPost w g p) := by
  have hgl := h.lt
  have K := (Kg.refl hgl).new 24 (rpA 0 0 0 0 0)
  go_enter Tryd.func10, Tryd.ntmps10
  go_wp2_with fail
  refine (someDay_any _ _ _ (h.alloc _) (by omega)).mono ?_
  rintro e w1 ⟨f, rfl, ⟨f0, f1⟩, hr, hg⟩
  replace K := K.grown hg
  clear hg
  go_wp2_with fail
  refine (one_any 1 100000000 _ g _ w1.heap.size _ _ (hr.alloc _) (by omega) (heap_alloc_new w1 _) (by have := hr.lt; omega) (by decide) (by decide) (by decide) 5 5 (by rfl)).mono ?_
  rintro e w2 ⟨c, rfl, ⟨c0, c1⟩, hr2, hg⟩
  replace K := (K.alloc _).grown hg
  clear hr hg
  have hr := hr2
  clear hr2
  go_wp2_with fail
  refine (one_any 0 3000 _ g _ w2.heap.size _ _ (hr.alloc _) (by omega) (heap_alloc_new w2 _) (by have := hr.lt; omega) (by decide) (by decide) (by decide) 4 4 (by rfl)).mono ?_
  rintro e w3 ⟨r, rfl, ⟨r0, r1⟩, hr3, hg⟩
  replace K := (K.alloc _).grown hg
  clear hr hg
  have hr := hr3
  clear hr3
  go_wp2_with fail
  refine (one_any 0 4000 _ g _ w3.heap.size _ _ (hr.alloc _) (by omega) (heap_alloc_new w3 _) (by have := hr.lt; omega) (by decide) (by decide) (by decide) 6 6 (by rfl)).mono ?_
  rintro e w4 ⟨m, rfl, ⟨m0, m1⟩, hr4, hg⟩
  replace K := (K.alloc _).grown hg
  clear hr hg
  have hr := hr4
  clear hr4
  obtain ⟨t, ht⟩ : ∃ t, t = min 36524 (f + m) := ⟨_, rfl⟩
  have fmin : ∀ W : World, (Builtin.min_ #[3, 3] 3 #[.int .i64 36524, .int .i64 (f + m)]).run Tryd.prog W = .ok (.int .i64 t) W := fun W => by rw [ht]; exact run_min2' _ _ _ _ W
  have t0 : 0 ≤ t ∧ t ≤ 36524 := by omega
  clear ht
  go_wp2_with fail
  refine (one_any 0 500 _ g _ w4.heap.size _ _ (hr.alloc _) (by omega) (heap_alloc_new w4 _) (by have := hr.lt; omega) (by decide) (by decide) (by decide) 4 4 (by rfl)).mono ?_
  rintro e w5 ⟨h', rfl, ⟨h0, h1⟩, hr5, hg⟩
  replace K := (K.alloc _).grown hg
  have hw5 := K.first.lt
  replace K := K.new 24 (rpA c r f t h')
  have HR := Lib.hid (hr5.alloc (.cells (rpA c r f t h') 24))
  clear hr hg hr5
  go_wp2_with fail
  refine (pick_any _ _ _ _ HR.out (by omega) (by omega) (by omega)).mono ?_
  rintro e w6 ⟨v, rfl, ⟨hv, -⟩, hr6, hg⟩
  obtain ⟨v0, v1⟩ := hv (by omega)
  replace K := K.grown hg
  have HK := Lib.hid K
  have HR6 := Lib.hid hr6
  have hgw : g < w6.heap.size := hr6.lt
  have hlt6 : w5.heap.size < w6.heap.size := K.first.lt
  obtain ⟨X, hX⟩ : ∃ X, X = w5.heap.size := ⟨_, rfl⟩
  rw [← hX] at HK hlt6 hw5 ⊢
  clear hv hg HR hr6 K hX fmin
  by_cases c0 : v = 0
  · subst c0
    go_wp2_with fail
    refine (one_any (0) 100000001 _ g _ w6.heap.size _ _ (HR6.out.alloc _) (by omega) (heap_alloc_new w6 _) (by omega) (by decide) (by decide) (by decide) 2 2 (by rfl)).mono ?_
    rintro e w7 ⟨u, rfl, ⟨u0, u1⟩, hr7, hg⟩
    have K7 := (HK.out.alloc _).grown hg
    have hr8 := hr7.far (b := X) (i := 0) (by omega) (.int .i64 u)
    have K8 : Kg w g [(X, 24, rpA u r f t h'), (w.heap.size, 24, rpA 0 0 0 0 0)] (w7.setCell ⟨X, 0, none⟩ (.int .i64 u)) := (K7.drop.set (fun t ht => by simp only [List.mem_cons, List.not_mem_nil, or_false] at ht; subst ht; simp; omega) (by simp; omega) _).add (by omega) (K7.first.putR 0 _ rfl)
    obtain ⟨x0, x1, x2, x3, x4⟩ := K7.first.rp
    obtain ⟨z0, z1, z2, z3, z4⟩ := K7.first.rpFz
    obtain ⟨p0, p1, p2, p3, p4⟩ := K8.first.rp
    obtain ⟨g0, g1, g2, g3, g4⟩ := K8.second.rpFz
    obtain ⟨j0, j1, j2, j3, j4⟩ := K8.second.rp
    obtain ⟨i0, i1, i2, i3, i4⟩ := K7.second.rpFz
    obtain ⟨k0, k1, k2, k3, k4⟩ := K7.second.rp
    clear hg hr7
    go_wp2_with fail
    obtain ⟨r0, r1, r2, r3, r4⟩ := (K8.second.put5 u r f t h').rp
    refine bodyPost_ret (v := rpV u r f t h') (by simp [results, Tryd.results10, go_sem, r0, r1, r2, r3, r4]) rfl ⟨u, r, f, t, h', rfl, by omega, by omega, by omega, by omega, by omega, ?_, ?_⟩
    · exact (((((hr8.far (by omega) _).far (by omega) _).far (by omega) _).far (by omega) _).far (by omega) _).more (by omega)
    · exact put5_grown K8.2.1 (by omega) _ _ _ _ _
  · skip
    by_cases c1 : v = 1
    · subst c1
      have OK : Hid (okInts (-1) 40525 #[.int .i64 (f - 1), .int .i64 (f + 4001), .int .i64 36525] = true) := Lib.hid (by simp [okInts, okInt]; omega)
      have W1 : IntKind.i64.wrap (f - 1) = f - 1 := IntWalk.i64_in _ (by omega)
      have W2 : IntKind.i64.wrap (f + 4001) = f + 4001 := IntWalk.i64_in _ (by omega)
      obtain ⟨x0, x1, x2, x3, x4⟩ := HK.out.first.rp
      go_wp2_with fail
      refine (one_any (-1) 40525 _ g _ w6.heap.size #[.int .i64 (f - 1), .int .i64 (f + 4001), .int .i64 36525] _ (HR6.out.alloc _) (by omega) (heap_alloc_new w6 _) (by omega) (by simp) (by simp) OK.out 3 3 (by rfl)).mono ?_
      clear x0 x1 x2 x3 x4
      rintro e w7 ⟨u, rfl, ⟨u0, u1⟩, hr7, hg⟩
      have K7 := (HK.out.alloc _).grown hg
      have hr8 := hr7.far (b := X) (i := 3) (by omega) (.int .i64 u)
      have K8 : Kg w g [(X, 24, rpA c r f u h'), (w.heap.size, 24, rpA 0 0 0 0 0)] (w7.setCell ⟨X, 3, none⟩ (.int .i64 u)) := (K7.drop.set (fun t ht => by simp only [List.mem_cons, List.not_mem_nil, or_false] at ht; subst ht; simp; omega) (by simp; omega) _).add (by omega) (K7.first.putR 3 _ rfl)
      obtain ⟨x0, x1, x2, x3, x4⟩ := K7.first.rp
      obtain ⟨z0, z1, z2, z3, z4⟩ := K7.first.rpFz
      obtain ⟨p0, p1, p2, p3, p4⟩ := K8.first.rp
      obtain ⟨g0, g1, g2, g3, g4⟩ := K8.second.rpFz
      obtain ⟨j0, j1, j2, j3, j4⟩ := K8.second.rp
      obtain ⟨i0, i1, i2, i3, i4⟩ := K7.second.rpFz
      obtain ⟨k0, k1, k2, k3, k4⟩ := K7.second.rp
      clear hg hr7
      go_wp2_with fail
      obtain ⟨r0, r1, r2, r3, r4⟩ := (K8.second.put5 c r f u h').rp
      refine bodyPost_ret (v := rpV c r f u h') (by simp [results, Tryd.results10, go_sem, r0, r1, r2, r3, r4]) rfl ⟨c, r, f, u, h', rfl, by omega, by omega, by omega, by omega, by omega, ?_, ?_⟩
      · exact (((((hr8.far (by omega) _).far (by omega) _).far (by omega) _).far (by omega) _).far (by omega) _).more (by omega)
      · exact put5_grown K8.2.1 (by omega) _ _ _ _ _
    · skip
      by_cases c2 : v = 2
      · subst c2
        go_wp2_with fail
        refine (one_any (-1) 501 _ g _ w6.heap.size _ _ (HR6.out.alloc _) (by omega) (heap_alloc_new w6 _) (by omega) (by decide) (by decide) (by decide) 2 2 (by rfl)).mono ?_
        rintro e w7 ⟨u, rfl, ⟨u0, u1⟩, hr7, hg⟩
        have K7 := (HK.out.alloc _).grown hg
        have hr8 := hr7.far (b := X) (i := 4) (by omega) (.int .i64 u)
        have K8 : Kg w g [(X, 24, rpA c r f t u), (w.heap.size, 24, rpA 0 0 0 0 0)] (w7.setCell ⟨X, 4, none⟩ (.int .i64 u)) := (K7.drop.set (fun t ht => by simp only [List.mem_cons, List.not_mem_nil, or_false] at ht; subst ht; simp; omega) (by simp; omega) _).add (by omega) (K7.first.putR 4 _ rfl)
        obtain ⟨x0, x1, x2, x3, x4⟩ := K7.first.rp
        obtain ⟨z0, z1, z2, z3, z4⟩ := K7.first.rpFz
        obtain ⟨p0, p1, p2, p3, p4⟩ := K8.first.rp
        obtain ⟨g0, g1, g2, g3, g4⟩ := K8.second.rpFz
        obtain ⟨j0, j1, j2, j3, j4⟩ := K8.second.rp
        obtain ⟨i0, i1, i2, i3, i4⟩ := K7.second.rpFz
        obtain ⟨k0, k1, k2, k3, k4⟩ := K7.second.rp
        clear hg hr7
        go_wp2_with fail
        obtain ⟨r0, r1, r2, r3, r4⟩ := (K8.second.put5 c r f t u).rp
        refine bodyPost_ret (v := rpV c r f t u) (by simp [results, Tryd.results10, go_sem, r0, r1, r2, r3, r4]) rfl ⟨c, r, f, t, u, rfl, by omega, by omega, by omega, by omega, by omega, ?_, ?_⟩
        · exact (((((hr8.far (by omega) _).far (by omega) _).far (by omega) _).far (by omega) _).far (by omega) _).more (by omega)
        · exact put5_grown K8.2.1 (by omega) _ _ _ _ _
      · skip
        have d0 : (v == 0) = false := by simp [c0]
        have d1 : (v == 1) = false := by simp [c1]
        have d2 : (v == 2) = false := by simp [c2]
        obtain ⟨x0, x1, x2, x3, x4⟩ := HK.out.first.rp
        obtain ⟨g0, g1, g2, g3, g4⟩ := HK.out.second.rpFz
        obtain ⟨j0, j1, j2, j3, j4⟩ := HK.out.second.rp
        go_wp2_with fail
        obtain ⟨r0, r1, r2, r3, r4⟩ := (HK.out.second.put5 c r f t h').rp
        refine bodyPost_ret (v := rpV c r f t h') (by simp [results, Tryd.results10, go_sem, r0, r1, r2, r3, r4]) rfl ⟨c, r, f, t, h', rfl, by omega, by omega, by omega, by omega, by omega, ?_, ?_⟩
        · exact (((((HR6.out.far (by omega) _).far (by omega) _).far (by omega) _).far (by omega) _).far (by omega) _).more (by omega)
        · exact put5_grown HK.out.2.1 (by omega) _ _ _ _ _
end Go.Proofs.YtgncgbaoijcinaaDoor
