/- The draws of the laws of ranges. -/
import Derived.Test.YtdmamojidefdaaaDoorRgu
namespace Go.Proofs.YtdmamojidefdaaaDoor
open Go.RowKit
/-- A drawn range. -/
def RangePost (w : World) (g p : Nat) (e : Ending) (w' : World) : Prop :=
  ∃ m n : Int, e = .returned (rV m n) ∧ (-2000000001 ≤ m ∧ m ≤ 2000000001 ∧ -2000000001 ≤ n ∧ n ≤ 2000000001) ∧ Rdr w' g (p + 5) ∧ w.grownBy w' (some g)
theorem Rdr.setCellR {w : World} {g p : Nat} (h : Rdr w g p) {q : Addr} (hq : g < q.block) (u : Value) : Rdr (w.setCell q u) g p := h.below ((Below.refl (g + 1) w).setCell (by omega) u) (by omega)
theorem Rdr.drewR {w : World} {g p : Nat} (h : Rdr w g p) : Rdr w.drew g p := h
set_option maxHeartbeats 1000000 in
theorem anyRange_any (w : World) (g p : Nat) (h : Rdr w g p) (hp : p ≤ 800000) :
    Calls Tryd.prog 24 #[.pointer (some ⟨g, 0, none⟩)] w (RangePost w g p) := by
  have hgl := h.lt
  go_enter Tryd.func24, Tryd.ntmps24
  go_wp2_with fail
  refine (one_any (-300000) 40000000 _ g _ (w.heap.size + 1) _ _ ((h.alloc _).alloc _) (by omega) (by simpa using heap_alloc_new (w.alloc (.cells #[.int .i64 0, .int .i64 0] 24)) _) (by omega) (by decide) (by decide) (by decide) 8 8 (by rfl)).mono ?_
  rintro e w1 ⟨lo, rfl, ⟨lo0, lo1⟩, hr, hg⟩
  have kR : Blk w1 w.heap.size 24 #[.int .i64 0, .int .i64 0] := ((Blk.new w _ _).alloc _).grown hg (by omega)
  replace hg := grown_trans (grown_alloc (grown_alloc (grown_refl w g) _) _) hg
  have hgR : w.heap.size ≠ g := by omega
  go_wp2_with fail
  refine (one_any 0 1000 _ g _ w1.heap.size _ _ (hr.alloc _) (by omega) (heap_alloc_new w1 _) (by have := hr.lt; omega) (by decide) (by decide) (by decide) 5 5 (by rfl)).mono ?_
  rintro e w3 ⟨b, rfl, ⟨b0, b1⟩, hr3, hg3⟩
  replace kR := (kR.alloc _).grown hg3 hgR
  replace hg := grown_trans (grown_alloc hg _) hg3
  have kD := Blk.new w3 #[.int .i64 lo, .int .i64 (lo + b)] 24
  have hgD : w3.heap.size ≠ g := by have := hr3.lt; omega
  have hRD : w.heap.size < w3.heap.size := kR.lt
  have hr3' := hr3.alloc (.cells #[.int .i64 lo, .int .i64 (lo + b)] 24)
  replace kR := kR.alloc (.cells #[.int .i64 lo, .int .i64 (lo + b)] 24)
  replace hg := grown_alloc hg (.cells #[.int .i64 lo, .int .i64 (lo + b)] 24)
  clear hr hg3 hr3
  go_wp2_with fail
  refine (pick_any _ _ _ _ hr3' (by omega) (by omega) (by omega)).mono ?_
  rintro e w4 ⟨v, rfl, ⟨hv, _⟩, hr4, hg4⟩
  obtain ⟨v0, v1⟩ := hv (by omega)
  replace kR := kR.grown hg4 hgR
  replace kD := kD.grown hg4 hgD
  replace hg := grown_trans hg hg4
  clear hr3' hg4 hv
  by_cases c0 : v = 0
  · subst c0
    obtain ⟨⟨r0, r1⟩, q0, q1⟩ := kR.two
    obtain ⟨⟨x0, x1⟩, f0, f1⟩ := kD.two
    clear kR kD
    have s0 : (w4.setCell ⟨w3.heap.size, 1, none⟩ (.int .i64 (lo - 1))).cell? ⟨w.heap.size, 0, none⟩ = some (.int .i64 0) := by rw [World.cell?_setCell_other _ _ _ _ (by intro e; injection e; omega)]; exact r0
    have s1 : (w4.setCell ⟨w3.heap.size, 1, none⟩ (.int .i64 (lo - 1))).cell? ⟨w.heap.size, 1, none⟩ = some (.int .i64 0) := by rw [World.cell?_setCell_other _ _ _ _ (by intro e; injection e; omega)]; exact r1
    go_wp2_with fail
    refine bodyPost_ret (v := rV lo (lo - 1)) (by simp [results, Tryd.results24, go_sem, s0, s1]) rfl ⟨lo, lo - 1, rfl, ⟨by omega, by omega, by omega, by omega⟩, ?_, ?_⟩
    · exact (((hr4.more (by omega)).setCellR (by simp; omega) _).setCellR (by simp; omega) _).setCellR (by simp; omega) _
    · exact grown_setCell (grown_setCell (grown_setCell hg (by simp; omega) _) (by simp) _) (by simp) _
  · by_cases c1 : v = 1
    · subst c1
      go_wp2_with fail
      refine (one_any (-2000000001) 2000000001 _ g _ w4.heap.size _ _ (hr4.alloc _) (by omega) (heap_alloc_new w4 _) (by have := hr4.lt; omega) (by decide) (by decide) (by decide) 3 3 (by rfl)).mono ?_
      rintro e w5 ⟨u, rfl, hu, hr5, hg5⟩
      replace kR := (kR.alloc _).grown hg5 hgR
      replace kD := (kD.alloc _).grown hg5 hgD
      replace hg := grown_trans (grown_alloc hg _) hg5
      clear hr4 hg5
      go_wp2_with fail
      refine (one_any (-2000000001) 2000000001 _ g _ w5.heap.size _ _ (hr5.alloc _) (by omega) (heap_alloc_new w5 _) (by have := hr5.lt; omega) (by decide) (by decide) (by decide) 2 2 (by rfl)).mono ?_
      rintro e w6 ⟨u2, rfl, hu2, hr6, hg6⟩
      obtain ⟨⟨r0, r1⟩, q0, q1⟩ := ((kR.alloc _).grown hg6 hgR).two
      obtain ⟨⟨x0, x1⟩, f0, f1⟩ := ((kD.alloc _).grown hg6 hgD).two
      have hgE := grown_trans (grown_alloc hg _) hg6
      clear hr5 hg6 kR kD hg
      have s0 : ((w6.setCell ⟨w3.heap.size, 0, none⟩ (.int .i64 u)).setCell ⟨w3.heap.size, 1, none⟩ (.int .i64 u2)).cell? ⟨w.heap.size, 0, none⟩ = some (.int .i64 0) := by rw [World.cell?_setCell_other _ _ _ _ (by intro e; injection e; omega), World.cell?_setCell_other _ _ _ _ (by intro e; injection e; omega)]; exact r0
      have s1 : ((w6.setCell ⟨w3.heap.size, 0, none⟩ (.int .i64 u)).setCell ⟨w3.heap.size, 1, none⟩ (.int .i64 u2)).cell? ⟨w.heap.size, 1, none⟩ = some (.int .i64 0) := by rw [World.cell?_setCell_other _ _ _ _ (by intro e; injection e; omega), World.cell?_setCell_other _ _ _ _ (by intro e; injection e; omega)]; exact r1
      go_wp2_with fail
      refine bodyPost_ret (v := rV u u2) (by simp [results, Tryd.results24, go_sem, s0, s1]) rfl ⟨u, u2, rfl, ⟨by omega, by omega, by omega, by omega⟩, ?_, ?_⟩
      · exact ((((hr6.more (by omega)).setCellR (by simp; omega) _).setCellR (by simp; omega) _).setCellR (by simp; omega) _).setCellR (by simp; omega) _
      · exact grown_setCell (grown_setCell (grown_setCell (grown_setCell hgE (by simp; omega) _) (by simp; omega) _) (by simp) _) (by simp) _
    · have e0 : (v == 0) = false := by simp [c0]
      have e1 : (v == 1) = false := by simp [c1]
      obtain ⟨⟨r0, r1⟩, q0, q1⟩ := kR.two
      obtain ⟨⟨x0, x1⟩, f0, f1⟩ := kD.two
      clear kR kD
      go_wp2_with fail
      refine bodyPost_ret (v := rV lo (lo + b)) (by simp [results, Tryd.results24, go_sem, r0, r1]) rfl ⟨lo, lo + b, rfl, ⟨by omega, by omega, by omega, by omega⟩, ?_, ?_⟩
      · exact ((hr4.more (by omega)).setCellR (by simp; omega) _).setCellR (by simp; omega) _
      · exact grown_setCell (grown_setCell hg (by simp) _) (by simp) _
theorem IsRow_allocR {k : IntKind} {w : World} {a : Option Addr} {len cap : Nat} {zs : List Int} (h : IsRow k w a len cap zs) (o : Obj) : IsRow k (w.alloc o) a len cap zs := by
  rcases h with h | ⟨x, e, h1, h2, h3, h4, h5⟩
  · exact .inl h
  · refine .inr ⟨x, e, h1, h2, h3, fun i hi => ?_, h5⟩
    have hc := h4 i hi
    have hlt : (x.add i).block < w.heap.size := by
      rcases Nat.lt_or_ge (x.add i).block w.heap.size with hlt | hge
      · exact hlt
      · simp [World.cell?, Array.getElem?_eq_none hge] at hc
    rw [World.cell?_alloc_lt _ _ _ hlt]; exact hc
/-- What a draw of two ranges leaves. -/
def DrawnG (w : World) (e : Ending) (w' : World) : Prop :=
  ∃ a b c d : Int, e = .returned (.tuple #[rV a b, rV c d]) ∧ (-2000000001 ≤ a ∧ a ≤ 2000000001 ∧ -2000000001 ≤ b ∧ b ≤ 2000000001 ∧ -2000000001 ≤ c ∧ c ≤ 2000000001 ∧ -2000000001 ≤ d ∧ d ≤ 2000000001) ∧ Below w.heap.size w w'
set_option maxHeartbeats 1000000 in
theorem drawAddR_any (w : World) (a : Option Addr) (len cap : Nat) (zs : List Int) (h : IsRow .u8 w a len cap zs) :
    Calls Tryd.prog 14 #[.slice a len cap] w (DrawnG w) := by
  have H := Lib.hid (IsRow_allocR (IsRow_allocR h (.cells #[.int .i64 0, .int .i64 0] 24)) (.cells #[.int .i64 0, .int .i64 0] 24)); clear h
  go_enter Tryd.func14, Tryd.ntmps14
  go_wp2_with fail
  refine (newReader_any _ _ _ _ _ H.out).mono ?_
  rintro e w1 ⟨g, rfl, hg, hr, hb⟩
  have kR1 : Blk w1 w.heap.size 24 #[.int .i64 0, .int .i64 0] := ((Blk.new w _ _).alloc _).below hb (by simp; omega)
  have kR2 : Blk w1 (w.heap.size + 1) 24 #[.int .i64 0, .int .i64 0] := by
    have := (Blk.new (w.alloc (.cells #[.int .i64 0, .int .i64 0] 24)) #[.int .i64 0, .int .i64 0] 24).below hb (by simp)
    simpa using this
  simp only [World.size_alloc] at hg
  replace hb := (((Below.refl w.heap.size w).alloc (Nat.le_refl _) (.cells #[.int .i64 0, .int .i64 0] 24)).alloc (by simp) (.cells #[.int .i64 0, .int .i64 0] 24)).trans (hb.mono (by simp; omega))
  go_wp2_with fail
  refine (anyRange_any _ _ _ hr (by omega)).mono ?_
  rintro e w2 ⟨a1, b1, rfl, ⟨t1, t2, t3, t4⟩, hr2, hg2⟩
  replace kR1 := kR1.grown hg2 (by omega)
  replace kR2 := kR2.grown hg2 (by omega)
  replace hb := below_grown hb hg2 (by omega)
  have kA := Blk.new w2 #[.int .i64 a1, .int .i64 b1] 24
  have hgA : w2.heap.size ≠ g := by have := hr2.lt; omega
  have hl1 := kR1.lt
  have hl2 := kR2.lt
  replace kR1 := kR1.alloc (.cells #[.int .i64 a1, .int .i64 b1] 24)
  replace kR2 := kR2.alloc (.cells #[.int .i64 a1, .int .i64 b1] 24)
  have hs := hb.size
  replace hb := hb.alloc hs (.cells #[.int .i64 a1, .int .i64 b1] 24)
  have HR := Lib.hid (hr2.alloc (.cells #[.int .i64 a1, .int .i64 b1] 24))
  clear hg2 hr2 hr
  go_wp2_with fail
  have hbd := hb.drew
  have HK := Lib.hid kA
  go_region_with (first | (go_at_call 24; refine (anyRange_any _ g (0 + 5) ?_ (by omega)).mono ?_; exact HR.out; rintro e w3 ⟨c1, d1, rfl, ⟨u1, u2, u3, u4⟩, hr3, hg3⟩; obtain ⟨⟨x0, x1⟩, _, _⟩ := Blk.two (Blk.grown (Blk.drew HK.out) hg3 hgA); obtain ⟨⟨y0, y1⟩, y2, y3⟩ := Blk.two (Blk.grown (Blk.drew kR1) hg3 (by omega)); obtain ⟨⟨z0, z1⟩, z2, z3⟩ := Blk.two (Blk.grown (Blk.drew kR2) hg3 (by omega)); have hb3 := below_grown hbd hg3 (by omega)))
  all_goals go_wp2_with fail
  all_goals
    refine bodyPost_ret (v := .tuple #[rV a1 b1, rV c1 d1]) (by simp [results, Tryd.results14, go_sem, y0, y1, z0, z1]) rfl ⟨a1, b1, c1, d1, rfl, ⟨t1, t2, t3, t4, u1, u2, u3, u4⟩, ?_⟩
    repeat (refine Below.setCell ?_ (by simp) _)
    exact hb3
set_option maxHeartbeats 1000000 in
theorem drawDivR_any (w : World) (a : Option Addr) (len cap : Nat) (zs : List Int) (h : IsRow .u8 w a len cap zs) :
    Calls Tryd.prog 6 #[.slice a len cap] w (DrawnG w) := by
  have H := Lib.hid (IsRow_allocR (IsRow_allocR h (.cells #[.int .i64 0, .int .i64 0] 24)) (.cells #[.int .i64 0, .int .i64 0] 24)); clear h
  go_enter Tryd.func6, Tryd.ntmps6
  go_wp2_with fail
  refine (drawAddR_any _ _ _ _ _ H.out).mono ?_
  rintro e w1 ⟨a1, b1, c1, d1, rfl, hbd, hb⟩
  have kR1 : Blk w1 w.heap.size 24 #[.int .i64 0, .int .i64 0] := ((Blk.new w _ _).alloc _).below hb (by simp; omega)
  have kR2 : Blk w1 (w.heap.size + 1) 24 #[.int .i64 0, .int .i64 0] := by
    have := (Blk.new (w.alloc (.cells #[.int .i64 0, .int .i64 0] 24)) #[.int .i64 0, .int .i64 0] 24).below hb (by simp)
    simpa using this
  replace hb := (((Below.refl w.heap.size w).alloc (Nat.le_refl _) (.cells #[.int .i64 0, .int .i64 0] 24)).alloc (by simp) (.cells #[.int .i64 0, .int .i64 0] 24)).trans (hb.mono (by simp; omega))
  obtain ⟨⟨y0, y1⟩, y2, y3⟩ := kR1.two
  obtain ⟨⟨z0, z1⟩, z2, z3⟩ := kR2.two
  clear kR1 kR2
  go_wp2_with fail
  refine bodyPost_ret (v := .tuple #[rV a1 b1, rV c1 d1]) (by simp [results, Tryd.results6, go_sem, y0, y1, z0, z1]) rfl ⟨a1, b1, c1, d1, rfl, hbd, ?_⟩
  repeat (refine Below.setCell ?_ (by simp) _)
  exact hb
def DrawnGN (w : World) (e : Ending) (w' : World) : Prop :=
  ∃ a b n : Int, e = .returned (.tuple #[rV a b, .int .i64 n]) ∧ (-2000000001 ≤ a ∧ a ≤ 2000000001 ∧ -2000000001 ≤ b ∧ b ≤ 2000000001) ∧ (-5000000000 ≤ n ∧ n ≤ 5000000000) ∧ Below w.heap.size w w'
end Go.Proofs.YtdmamojidefdaaaDoor
