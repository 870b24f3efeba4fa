/- The draws of the calendar's laws. -/
import Derived.Test.YtgjiogdekihhdaaDoorDraw2
namespace Go.Proofs.YtgjiogdekihhdaaDoor
open Go.RowKit
set_option maxHeartbeats 400000 in
theorem anyDay_any (w : World) (g p : Nat) (h : Rdr w g p) (hp : p ≤ 800000) :
    Calls Tryd.prog 46 #[.pointer (some ⟨g, 0, none⟩)] w (Drawn (-1) 36525 3 w g p) := by
  have hgl := h.lt
  go_enter Tryd.func46, Tryd.ntmps46
  go_wp2_with fail
  refine (pick_any _ _ _ _ h (by omega) (by omega) (by omega)).mono ?_
  rintro e w1 ⟨v, rfl, ⟨hv, _⟩, hr, hg⟩
  obtain ⟨v0, v1⟩ := hv (by omega)
  by_cases c0 : v = 0
  · subst c0
    go_wp2_with fail
    refine (one_any (-1) 36525 _ g (p + 1) w1.heap.size _ _ (hr.alloc _) (by omega) (heap_alloc_new w1 _) (by have := hr.lt; omega) (by decide) (by decide) (by decide) 4 4 (by rfl)).mono ?_
    rintro e w2 ⟨v, rfl, hv, hr2, hg2⟩
    go_wp2_with fail
    go_ret
    exact ⟨v, rfl, hv, hr2.more (by omega), grown_trans (grown_alloc hg _) hg2⟩
  · have e0 : (v == 0) = false := by simp [c0]
    go_wp2_with fail
    refine (someDay_any _ _ _ hr (by omega)).mono ?_
    rintro e w2 ⟨v, rfl, hv, hr2, hg2⟩
    go_wp2_with fail
    go_ret
    exact ⟨v, rfl, ⟨by omega, by omega⟩, hr2, grown_trans hg hg2⟩
/-- A block of cells that nobody has frozen. -/
def Blk (w : World) (b : Nat) (t : TypeId) (cs : Array Value) : Prop := w.heap[b]? = some (.cells cs t (0, 0))
theorem Blk.lt {w : World} {b : Nat} {t : TypeId} {cs : Array Value} (h : Blk w b t cs) : b < w.heap.size := by
  rcases Nat.lt_or_ge b w.heap.size with hlt | hge
  · exact hlt
  · unfold Blk at h; rw [Array.getElem?_eq_none hge] at h; cases h
theorem Blk.grown {w w' : World} {b g : Nat} {t : TypeId} {cs : Array Value} (h : Blk w b t cs) (hg : w.grownBy w' (some g)) (hne : b ≠ g) : Blk w' b t cs :=
  (hg.block b h.lt (fun e => hne (by injection e))).trans h
theorem Blk.alloc {w : World} {b : Nat} {t : TypeId} {cs : Array Value} (h : Blk w b t cs) (o : Obj) : Blk (w.alloc o) b t cs := (Below.heap_alloc w o b h.lt).trans h
theorem Blk.below {w w' : World} {b B : Nat} {t : TypeId} {cs : Array Value} (h : Blk w b t cs) (hb : Below B w w') (hB : b < B) : Blk w' b t cs := (hb.block b hB).trans h
theorem Blk.new (w : World) (cs : Array Value) (t : TypeId) : Blk (w.alloc (.cells cs t)) w.heap.size t cs := heap_alloc_new w _
theorem Blk.three {w : World} {b : Nat} {t : TypeId} {x y z : Value} (h : Blk w b t #[x, y, z]) :
    (w.cell? ⟨b, 0, none⟩ = some x ∧ w.cell? ⟨b, 1, none⟩ = some y ∧ w.cell? ⟨b, 2, none⟩ = some z) ∧ (w.frozen? ⟨b, 0, none⟩ = false ∧ w.frozen? ⟨b, 1, none⟩ = false ∧ w.frozen? ⟨b, 2, none⟩ = false) := by
  unfold Blk at h
  simp [World.cell?, World.frozen?, h]
theorem grown_setCell {a w : World} {g : Nat} (h : a.grownBy w (some g)) {p : Addr} (hp : a.heap.size ≤ p.block) (u : Value) : a.grownBy (w.setCell p u) (some g) :=
  ⟨h.os, h.tape, h.output, by simpa [World.setCell] using h.size, fun i hi hne => (Below.heap_setCell w p u i (by omega)).trans (h.block i hi hne)⟩
/-- A drawn date. -/
def DatePost (w : World) (g : Nat) (e : Ending) (w' : World) : Prop :=
  ∃ y m d : Int, e = .returned (.agg #[.int .i64 y, .int .i64 m, .int .i64 d]) ∧ (0 ≤ y ∧ y ≤ 3000 ∧ 0 ≤ m ∧ m ≤ 100 ∧ 0 ≤ d ∧ d ≤ 100) ∧ w.grownBy w' (some g)
set_option maxHeartbeats 400000 in
theorem anyDate_any (w : World) (g p : Nat) (h : Rdr w g p) (hp : p ≤ 800000) :
    Calls Tryd.prog 41 #[.pointer (some ⟨g, 0, none⟩)] w (DatePost w g) := by
  have hgl := h.lt
  go_enter Tryd.func41, Tryd.ntmps41
  go_wp2_with fail
  refine (someDay_any _ _ _ (h.alloc _) (by omega)).mono ?_
  rintro e w1 ⟨n, rfl, hn, hr, hg⟩
  have kR : Blk w1 w.heap.size 28 #[.int .i64 0, .int .i64 0, .int .i64 0] := (Blk.new w _ _).grown hg (by omega)
  replace hg := grown_trans (grown_alloc (grown_refl w g) _) hg
  obtain ⟨hn0, hn1⟩ := hn
  go_wp2_with fail
  refine (sDateOf_any _ _ hn0 hn1).mono ?_
  rintro e w2 ⟨rfl, hb⟩
  have hr2 := hr.below hb hr.lt
  replace kR := kR.below hb kR.lt
  replace hg := grown_trans hg (grown_below hb)
  have y1 := Cal.Y_bd hn0 hn1
  have m1 := Cal.M_bd hn0 hn1
  have d1 := Cal.D_bd hn0 hn1
  generalize Cal.Y n = yy at *
  generalize Cal.M n = mm at *
  generalize Cal.D n = dd at *
  go_wp2_with fail
  refine (pick_any _ _ _ _ (hr2.alloc _) (by omega) (by omega) (by omega)).mono ?_
  rintro e w3 ⟨v, rfl, ⟨hv, _⟩, hr3, hg3⟩
  have kD : Blk w3 w2.heap.size 28 #[.int .i64 yy, .int .i64 mm, .int .i64 dd] := (Blk.new w2 _ _).grown hg3 (by have := hr2.lt; omega)
  have hRD : w.heap.size < w2.heap.size := kR.lt
  have hgw := hg.size
  replace kR := (kR.alloc (.cells #[.int .i64 yy, .int .i64 mm, .int .i64 dd] 28)).grown hg3 (by omega)
  replace hg := grown_trans (grown_alloc hg _) hg3
  have hgD : w2.heap.size ≠ g := by have := hr2.lt; omega
  have hgR : w.heap.size ≠ g := by omega
  obtain ⟨v0, v1⟩ := hv (by omega)
  clear hv hb hr hr2 hg3
  by_cases c0 : v = 0
  · subst c0
    go_wp2_with fail
    refine (one_any 0 100 _ g _ w3.heap.size _ _ (hr3.alloc _) (by omega) (heap_alloc_new w3 _) (by have := hr3.lt; omega) (by decide) (by decide) (by decide) 5 5 (by rfl)).mono ?_
    rintro e w4 ⟨u, rfl, hu, hr4, hg4⟩
    obtain ⟨⟨x0, x1, x2⟩, f0, f1, f2⟩ := ((kD.alloc _).grown hg4 hgD).three
    obtain ⟨⟨r0, r1, r2⟩, e0, e1, e2⟩ := ((kR.alloc _).grown hg4 hgR).three
    have hgE := grown_trans (grown_alloc hg _) hg4
    clear hg4 hg kD kR hr4 hr3
    go_wp2_with fail
    have s0 : (w4.setCell ⟨w2.heap.size, 2, none⟩ (.int .i64 u)).cell? ⟨w.heap.size, 0, none⟩ = some (.int .i64 0) := by rw [World.cell?_setCell_other _ _ _ _ (by intro e; injection e; omega)]; exact r0
    have s1 : (w4.setCell ⟨w2.heap.size, 2, none⟩ (.int .i64 u)).cell? ⟨w.heap.size, 1, none⟩ = some (.int .i64 0) := by rw [World.cell?_setCell_other _ _ _ _ (by intro e; injection e; omega)]; exact r1
    have s2 : (w4.setCell ⟨w2.heap.size, 2, none⟩ (.int .i64 u)).cell? ⟨w.heap.size, 2, none⟩ = some (.int .i64 0) := by rw [World.cell?_setCell_other _ _ _ _ (by intro e; injection e; omega)]; exact r2
    refine bodyPost_ret (v := .agg #[.int .i64 yy, .int .i64 mm, .int .i64 u]) (by simp [results, Tryd.results41, go_sem, s0, s1, s2]) rfl ⟨yy, mm, u, rfl, ⟨by omega, by omega, by omega, by omega, by omega, by omega⟩, ?_⟩
    exact grown_setCell (grown_setCell (grown_setCell (grown_setCell hgE (by simp; omega) _) (by simp) _) (by simp) _) (by simp) _
  · by_cases c1 : v = 1
    · subst c1
      go_wp2_with fail
      refine (one_any 0 100 _ g _ w3.heap.size _ _ (hr3.alloc _) (by omega) (heap_alloc_new w3 _) (by have := hr3.lt; omega) (by decide) (by decide) (by decide) 3 3 (by rfl)).mono ?_
      rintro e w4 ⟨u, rfl, hu, hr4, hg4⟩
      obtain ⟨⟨x0, x1, x2⟩, f0, f1, f2⟩ := ((kD.alloc _).grown hg4 hgD).three
      obtain ⟨⟨r0, r1, r2⟩, e0, e1, e2⟩ := ((kR.alloc _).grown hg4 hgR).three
      have hgE := grown_trans (grown_alloc hg _) hg4
      clear hg4 hg kD kR hr4 hr3
      go_wp2_with fail
      have s0 : (w4.setCell ⟨w2.heap.size, 1, none⟩ (.int .i64 u)).cell? ⟨w.heap.size, 0, none⟩ = some (.int .i64 0) := by rw [World.cell?_setCell_other _ _ _ _ (by intro e; injection e; omega)]; exact r0
      have s1 : (w4.setCell ⟨w2.heap.size, 1, none⟩ (.int .i64 u)).cell? ⟨w.heap.size, 1, none⟩ = some (.int .i64 0) := by rw [World.cell?_setCell_other _ _ _ _ (by intro e; injection e; omega)]; exact r1
      have s2 : (w4.setCell ⟨w2.heap.size, 1, none⟩ (.int .i64 u)).cell? ⟨w.heap.size, 2, none⟩ = some (.int .i64 0) := by rw [World.cell?_setCell_other _ _ _ _ (by intro e; injection e; omega)]; exact r2
      refine bodyPost_ret (v := .agg #[.int .i64 yy, .int .i64 u, .int .i64 dd]) (by simp [results, Tryd.results41, go_sem, s0, s1, s2]) rfl ⟨yy, u, dd, rfl, ⟨by omega, by omega, by omega, by omega, by omega, by omega⟩, ?_⟩
      exact grown_setCell (grown_setCell (grown_setCell (grown_setCell hgE (by simp; omega) _) (by simp) _) (by simp) _) (by simp) _
    · by_cases c2 : v = 2
      · subst c2
        go_wp2_with fail
        refine (one_any 0 3000 _ g _ w3.heap.size _ _ (hr3.alloc _) (by omega) (heap_alloc_new w3 _) (by have := hr3.lt; omega) (by decide) (by decide) (by decide) 4 4 (by rfl)).mono ?_
        rintro e w4 ⟨u, rfl, hu, hr4, hg4⟩
        obtain ⟨⟨x0, x1, x2⟩, f0, f1, f2⟩ := ((kD.alloc _).grown hg4 hgD).three
        obtain ⟨⟨r0, r1, r2⟩, e0, e1, e2⟩ := ((kR.alloc _).grown hg4 hgR).three
        have hgE := grown_trans (grown_alloc hg _) hg4
        clear hg4 hg kD kR hr4 hr3
        go_wp2_with fail
        have s0 : (w4.setCell ⟨w2.heap.size, 0, none⟩ (.int .i64 u)).cell? ⟨w.heap.size, 0, none⟩ = some (.int .i64 0) := by rw [World.cell?_setCell_other _ _ _ _ (by intro e; injection e; omega)]; exact r0
        have s1 : (w4.setCell ⟨w2.heap.size, 0, none⟩ (.int .i64 u)).cell? ⟨w.heap.size, 1, none⟩ = some (.int .i64 0) := by rw [World.cell?_setCell_other _ _ _ _ (by intro e; injection e; omega)]; exact r1
        have s2 : (w4.setCell ⟨w2.heap.size, 0, none⟩ (.int .i64 u)).cell? ⟨w.heap.size, 2, none⟩ = some (.int .i64 0) := by rw [World.cell?_setCell_other _ _ _ _ (by intro e; injection e; omega)]; exact r2
        refine bodyPost_ret (v := .agg #[.int .i64 u, .int .i64 mm, .int .i64 dd]) (by simp [results, Tryd.results41, go_sem, s0, s1, s2]) rfl ⟨u, mm, dd, rfl, ⟨by omega, by omega, by omega, by omega, by omega, by omega⟩, ?_⟩
        exact grown_setCell (grown_setCell (grown_setCell (grown_setCell hgE (by simp; omega) _) (by simp) _) (by simp) _) (by simp) _
      · have e0 : (v == 0) = false := by simp [c0]
        have e1 : (v == 1) = false := by simp [c1]
        have e2 : (v == 2) = false := by simp [c2]
        obtain ⟨⟨x0, x1, x2⟩, f0, f1, f2⟩ := kD.three
        obtain ⟨⟨r0, r1, r2⟩, q0, q1, q2⟩ := kR.three
        clear kD kR hr3
        go_wp2_with fail
        refine bodyPost_ret (v := .agg #[.int .i64 yy, .int .i64 mm, .int .i64 dd]) (by simp [results, Tryd.results41, go_sem, r0, r1, r2]) rfl ⟨yy, mm, dd, rfl, ⟨by omega, by omega, by omega, by omega, by omega, by omega⟩, ?_⟩
        exact grown_setCell (grown_setCell (grown_setCell hg (by simp) _) (by simp) _) (by simp) _
/-- A date drawn out of a law's input. -/
def DrawnDate (w : World) (e : Ending) (w' : World) : Prop :=
  ∃ y m d : Int, e = .returned (.agg #[.int .i64 y, .int .i64 m, .int .i64 d]) ∧ (0 ≤ y ∧ y ≤ 3000 ∧ 0 ≤ m ∧ m ≤ 100 ∧ 0 ≤ d ∧ d ≤ 100) ∧ Below w.heap.size w w'
theorem below_grown {a b c : World} {g : Nat} (h : Below a.heap.size a b) (k : b.grownBy c (some g)) (hg : a.heap.size ≤ g) : Below a.heap.size a c :=
  h.grown k h.size (fun j hj => by injection hj with hj; omega)
theorem IsRow_alloc {k : IntKind} {w : World} {a : Option Addr} {len cap : Nat} {zs : List Int} (h : IsRow k w a len cap zs) (o : Obj) : IsRow k (w.alloc o) a len cap zs := by
  rcases h with h | ⟨x, e, h1, h2, h3, h4, h5⟩
  · exact .inl h
  · refine .inr ⟨x, e, h1, h2, h3, fun i hi => ?_, h5⟩
    have hc := h4 i hi
    have hlt : (x.add i).block < w.heap.size := by
      rcases Nat.lt_or_ge (x.add i).block w.heap.size with hlt | hge
      · exact hlt
      · simp [World.cell?, Array.getElem?_eq_none hge] at hc
    rw [World.cell?_alloc_lt _ _ _ hlt]; exact hc
set_option maxHeartbeats 400000 in
theorem drawValidDate_any (w : World) (a : Option Addr) (len cap : Nat) (zs : List Int) (h : IsRow .u8 w a len cap zs) :
    Calls Tryd.prog 20 #[.slice a len cap] w (DrawnDate w) := by
  have H := Lib.hid h; clear h
  go_enter Tryd.func20, Tryd.ntmps20
  go_wp2_with fail
  refine (newReader_any _ _ _ _ _ (IsRow_alloc H.out _)).mono ?_
  rintro e w1 ⟨g, rfl, hg, hr, hb⟩
  have kR : Blk w1 w.heap.size 28 #[.int .i64 0, .int .i64 0, .int .i64 0] := (Blk.new w _ _).below hb (by simp)
  have hgw : w.heap.size + 1 ≤ g := by simpa using hg
  replace hb : Below w.heap.size w w1 := ((Below.refl _ _).alloc (Nat.le_refl _) _).trans (hb.mono (by simp))
  go_wp2_with fail
  refine (anyDate_any _ _ _ hr (by omega)).mono ?_
  rintro e w2 ⟨y, m, d, rfl, hd, hk⟩
  obtain ⟨⟨r0, r1, r2⟩, q0, q1, q2⟩ := (kR.grown hk (by omega)).three
  have hz := hk.size
  have hb3 := below_grown hb hk (by omega)
  clear hk kR hr
  go_wp2_with fail
  refine bodyPost_ret (v := .agg #[.int .i64 y, .int .i64 m, .int .i64 d]) (by simp [results, Tryd.results20, go_sem, r0, r1, r2]) rfl ⟨y, m, d, rfl, hd, ?_⟩
  exact ((hb3.setCell (by simp) _).setCell (by simp) _).setCell (by simp) _
set_option maxHeartbeats 400000 in
theorem drawDayOf_any (w : World) (a : Option Addr) (len cap : Nat) (zs : List Int) (h : IsRow .u8 w a len cap zs) :
    Calls Tryd.prog 24 #[.slice a len cap] w (DrawnDate w) := by
  have H := Lib.hid h; clear h
  go_enter Tryd.func24, Tryd.ntmps24
  go_wp2_with fail
  refine (newReader_any _ _ _ _ _ (IsRow_alloc H.out _)).mono ?_
  rintro e w1 ⟨g, rfl, hg, hr, hb⟩
  have kR : Blk w1 w.heap.size 28 #[.int .i64 0, .int .i64 0, .int .i64 0] := (Blk.new w _ _).below hb (by simp)
  have hgw : w.heap.size + 1 ≤ g := by simpa using hg
  replace hb : Below w.heap.size w w1 := ((Below.refl _ _).alloc (Nat.le_refl _) _).trans (hb.mono (by simp))
  go_wp2_with fail
  refine (anyDate_any _ _ _ hr (by omega)).mono ?_
  rintro e w2 ⟨y, m, d, rfl, hd, hk⟩
  obtain ⟨⟨r0, r1, r2⟩, q0, q1, q2⟩ := (kR.grown hk (by omega)).three
  have hz := hk.size
  have hb3 := below_grown hb hk (by omega)
  clear hk kR hr
  go_wp2_with fail
  refine bodyPost_ret (v := .agg #[.int .i64 y, .int .i64 m, .int .i64 d]) (by simp [results, Tryd.results24, go_sem, r0, r1, r2]) rfl ⟨y, m, d, rfl, hd, ?_⟩
  exact ((hb3.setCell (by simp) _).setCell (by simp) _).setCell (by simp) _
/-- Two numbers drawn out of a law's input. -/
def Drawn2 (lo hi lo2 hi2 : Int) (w : World) (e : Ending) (w' : World) : Prop :=
  ∃ x y : Int, e = .returned (.tuple #[.int .i64 x, .int .i64 y]) ∧ (lo ≤ x ∧ x ≤ hi ∧ lo2 ≤ y ∧ y ≤ hi2) ∧ Below w.heap.size w w'
/-- A number drawn out of a law's input. -/
def Drawn1 (lo hi : Int) (w : World) (e : Ending) (w' : World) : Prop :=
  ∃ x : Int, e = .returned (.int .i64 x) ∧ (lo ≤ x ∧ x ≤ hi) ∧ Below w.heap.size w w'
set_option maxHeartbeats 400000 in
theorem drawDateOf_any (w : World) (a : Option Addr) (len cap : Nat) (zs : List Int) (h : IsRow .u8 w a len cap zs) :
    Calls Tryd.prog 27 #[.slice a len cap] w (Drawn1 (-1) 36525 w) := by
  have H := Lib.hid h; clear h
  go_enter Tryd.func27, Tryd.ntmps27
  go_wp2_with fail
  refine (newReader_any _ _ _ _ _ H.out).mono ?_
  rintro e w1 ⟨g, rfl, hg, hr, hb⟩
  go_wp2_with fail
  refine (anyDay_any _ _ _ hr (by omega)).mono ?_
  rintro e w2 ⟨x, rfl, hx, _, hk⟩
  go_wp2_with fail
  go_ret
  exact ⟨x, rfl, hx, below_grown hb hk hg⟩
set_option maxHeartbeats 400000 in
theorem drawAddMonths_any (w : World) (a : Option Addr) (len cap : Nat) (zs : List Int) (h : IsRow .u8 w a len cap zs) :
    Calls Tryd.prog 29 #[.slice a len cap] w (Drawn2 (-1) 36525 (-601) 601 w) := by
  have H := Lib.hid h; clear h
  go_enter Tryd.func29, Tryd.ntmps29
  go_wp2_with fail
  refine (newReader_any _ _ _ _ _ H.out).mono ?_
  rintro e w1 ⟨g, rfl, hg, hr, hb⟩
  go_wp2_with fail
  refine (anyDay_any _ _ _ hr (by omega)).mono ?_
  rintro e w2 ⟨x, rfl, hx, hr2, hk⟩
  have hb2 := below_grown hb hk hg
  go_wp2_with fail
  refine (one_any (-601) 601 _ g _ w2.heap.size _ _ (hr2.alloc _) (by omega) (heap_alloc_new w2 _) (by have := hr2.lt; omega) (by decide) (by decide) (by decide) 12 12 (by rfl)).mono ?_
  rintro e w3 ⟨u, rfl, hu, hr4, hg4⟩
  go_wp2_with fail
  go_ret2
  exact ⟨x, u, rfl, ⟨by omega, by omega, by omega, by omega⟩, below_grown (hb2.alloc hb2.size _) hg4 hg⟩
set_option maxHeartbeats 400000 in
theorem drawDaysIn_any (w : World) (a : Option Addr) (len cap : Nat) (zs : List Int) (h : IsRow .u8 w a len cap zs) :
    Calls Tryd.prog 17 #[.slice a len cap] w (Drawn2 0 3000 (-1) 13 w) := by
  have H := Lib.hid h; clear h
  go_enter Tryd.func17, Tryd.ntmps17
  go_wp2_with fail
  refine (newReader_any _ _ _ _ _ H.out).mono ?_
  rintro e w1 ⟨g, rfl, hg, hr, hb⟩
  go_wp2_with fail
  refine (pick_any _ _ _ _ hr (by omega) (by omega) (by omega)).mono ?_
  rintro e w2 ⟨v, rfl, ⟨hv, _⟩, hr2, hk⟩
  obtain ⟨v0, v1⟩ := hv (by omega)
  have hb2 := below_grown hb hk hg
  go_wp2_with fail
  refine (one_any 0 3000 _ g _ w2.heap.size _ _ (hr2.alloc _) (by omega) (heap_alloc_new w2 _) (by have := hr2.lt; omega) (by simp) (by simp) (by simp [okInts, okInt]; omega) 8 8 (by rfl)).mono ?_
  rintro e w3 ⟨u, rfl, hu, hr4, hg4⟩
  have hb3 := below_grown (hb2.alloc hb2.size _) hg4 hg
  go_wp2_with fail
  refine (pick_any _ _ _ _ hr4 (by omega) (by omega) (by omega)).mono ?_
  rintro e w4 ⟨x, rfl, ⟨hx, _⟩, hr5, hk5⟩
  obtain ⟨x0, x1⟩ := hx (by omega)
  go_wp2_with fail
  go_ret2
  exact ⟨u, _, rfl, ⟨by omega, by omega, by omega, by omega⟩, below_grown hb3 hk5 hg⟩
end Go.Proofs.YtgjiogdekihhdaaDoor
