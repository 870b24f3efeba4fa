/- Dates and texts of dates drawn out of a law's input. -/
import Derived.Test.YtapalkohfhohhaaDoorDq
import Derived.Test.YtapalkohfhohhaaDoorMu
namespace Go.Proofs.YtapalkohfhohhaaDoor
open Go.RowKit
def DatePost (w : World) (g p : Nat) (e : Ending) (w' : World) : Prop :=
  ∃ y m d : Int, e = .returned (.agg #[.int .i64 y, .int .i64 m, .int .i64 d]) ∧ (0 ≤ y ∧ y ≤ 3000 ∧ 0 ≤ m ∧ m ≤ 100 ∧ 0 ≤ d ∧ d ≤ 100) ∧ Rdr w' g (p + 5) ∧ w.grownBy w' (some g)
theorem Rdr.setCellD {w : World} {g p : Nat} (h : Rdr w g p) {q : Addr} (hq : g < q.block) (u : Value) : Rdr (w.setCell q u) g p := h.below ((Below.refl (g + 1) w).setCell (by omega) u) (by omega)
set_option maxHeartbeats 400000 in
theorem anyDate_any (w : World) (g p : Nat) (h : Rdr w g p) (hp : p ≤ 800000) :
    Calls Tryd.prog 33 #[.pointer (some ⟨g, 0, none⟩)] w (DatePost w g p) := by
  have hgl := h.lt
  go_enter Tryd.func33, Tryd.ntmps33
  go_wp2_with fail
  refine (someDay_any _ _ _ (h.alloc _) (by omega)).mono ?_
  rintro e w1 ⟨n, rfl, hn, hr, hg⟩
  have kR : Blk w1 w.heap.size 24 #[.int .i64 0, .int .i64 0, .int .i64 0] := (Blk.new w _ _).grown hg (by omega)
  replace hg := grown_trans (grown_alloc (grown_refl w g) _) hg
  obtain ⟨hn0, hn1⟩ := hn
  go_wp2_with fail
  refine (sDateOf_any _ _ hn0 hn1).mono ?_
  rintro e w2 ⟨rfl, hb⟩
  have hr2 := hr.below hb hr.lt
  replace kR := kR.below hb kR.lt
  replace hg := grown_trans hg (grown_below hb)
  have y1 := Cal.Y_bd hn0 hn1
  have m1 := Cal.M_bd hn0 hn1
  have d1 := Cal.D_bd hn0 hn1
  generalize Cal.Y n = yy at *
  generalize Cal.M n = mm at *
  generalize Cal.D n = dd at *
  go_wp2_with fail
  refine (pick_any _ _ _ _ (hr2.alloc _) (by omega) (by omega) (by omega)).mono ?_
  rintro e w3 ⟨v, rfl, ⟨hv, _⟩, hr3, hg3⟩
  have kD : Blk w3 w2.heap.size 24 #[.int .i64 yy, .int .i64 mm, .int .i64 dd] := (Blk.new w2 _ _).grown hg3 (by have := hr2.lt; omega)
  have hRD : w.heap.size < w2.heap.size := kR.lt
  have hgw := hg.size
  replace kR := (kR.alloc (.cells #[.int .i64 yy, .int .i64 mm, .int .i64 dd] 24)).grown hg3 (by omega)
  replace hg := grown_trans (grown_alloc hg _) hg3
  have hgD : w2.heap.size ≠ g := by have := hr2.lt; omega
  have hgR : w.heap.size ≠ g := by omega
  obtain ⟨v0, v1⟩ := hv (by omega)
  clear hv hb hr hr2 hg3
  by_cases c0 : v = 0
  · subst c0
    go_wp2_with fail
    refine (one_any 0 100 _ g _ w3.heap.size _ _ (hr3.alloc _) (by omega) (heap_alloc_new w3 _) (by have := hr3.lt; omega) (by decide) (by decide) (by decide) 5 5 (by rfl)).mono ?_
    rintro e w4 ⟨u, rfl, hu, hr4, hg4⟩
    obtain ⟨⟨x0, x1, x2⟩, f0, f1, f2⟩ := ((kD.alloc _).grown hg4 hgD).three
    obtain ⟨⟨r0, r1, r2⟩, e0, e1, e2⟩ := ((kR.alloc _).grown hg4 hgR).three
    have hgE := grown_trans (grown_alloc hg _) hg4
    clear hg4 hg kD kR hr3
    go_wp2_with fail
    have s0 : (w4.setCell ⟨w2.heap.size, 2, none⟩ (.int .i64 u)).cell? ⟨w.heap.size, 0, none⟩ = some (.int .i64 0) := by rw [World.cell?_setCell_other _ _ _ _ (by intro e; injection e; omega)]; exact r0
    have s1 : (w4.setCell ⟨w2.heap.size, 2, none⟩ (.int .i64 u)).cell? ⟨w.heap.size, 1, none⟩ = some (.int .i64 0) := by rw [World.cell?_setCell_other _ _ _ _ (by intro e; injection e; omega)]; exact r1
    have s2 : (w4.setCell ⟨w2.heap.size, 2, none⟩ (.int .i64 u)).cell? ⟨w.heap.size, 2, none⟩ = some (.int .i64 0) := by rw [World.cell?_setCell_other _ _ _ _ (by intro e; injection e; omega)]; exact r2
    refine bodyPost_ret (v := .agg #[.int .i64 yy, .int .i64 mm, .int .i64 u]) (by simp [results, Tryd.results33, go_sem, s0, s1, s2]) rfl ⟨yy, mm, u, rfl, ⟨by omega, by omega, by omega, by omega, by omega, by omega⟩, ?_, ?_⟩
    · repeat (refine Rdr.setCellD ?_ (by simp <;> omega) _)
      exact hr4.more (by omega)
    · exact grown_setCell (grown_setCell (grown_setCell (grown_setCell hgE (by simp; omega) _) (by simp) _) (by simp) _) (by simp) _
  · by_cases c1 : v = 1
    · subst c1
      go_wp2_with fail
      refine (one_any 0 100 _ g _ w3.heap.size _ _ (hr3.alloc _) (by omega) (heap_alloc_new w3 _) (by have := hr3.lt; omega) (by decide) (by decide) (by decide) 3 3 (by rfl)).mono ?_
      rintro e w4 ⟨u, rfl, hu, hr4, hg4⟩
      obtain ⟨⟨x0, x1, x2⟩, f0, f1, f2⟩ := ((kD.alloc _).grown hg4 hgD).three
      obtain ⟨⟨r0, r1, r2⟩, e0, e1, e2⟩ := ((kR.alloc _).grown hg4 hgR).three
      have hgE := grown_trans (grown_alloc hg _) hg4
      clear hg4 hg kD kR hr3
      go_wp2_with fail
      have s0 : (w4.setCell ⟨w2.heap.size, 1, none⟩ (.int .i64 u)).cell? ⟨w.heap.size, 0, none⟩ = some (.int .i64 0) := by rw [World.cell?_setCell_other _ _ _ _ (by intro e; injection e; omega)]; exact r0
      have s1 : (w4.setCell ⟨w2.heap.size, 1, none⟩ (.int .i64 u)).cell? ⟨w.heap.size, 1, none⟩ = some (.int .i64 0) := by rw [World.cell?_setCell_other _ _ _ _ (by intro e; injection e; omega)]; exact r1
      have s2 : (w4.setCell ⟨w2.heap.size, 1, none⟩ (.int .i64 u)).cell? ⟨w.heap.size, 2, none⟩ = some (.int .i64 0) := by rw [World.cell?_setCell_other _ _ _ _ (by intro e; injection e; omega)]; exact r2
      refine bodyPost_ret (v := .agg #[.int .i64 yy, .int .i64 u, .int .i64 dd]) (by simp [results, Tryd.results33, go_sem, s0, s1, s2]) rfl ⟨yy, u, dd, rfl, ⟨by omega, by omega, by omega, by omega, by omega, by omega⟩, ?_, ?_⟩
      · repeat (refine Rdr.setCellD ?_ (by simp <;> omega) _)
        exact hr4.more (by omega)
      · exact grown_setCell (grown_setCell (grown_setCell (grown_setCell hgE (by simp; omega) _) (by simp) _) (by simp) _) (by simp) _
    · by_cases c2 : v = 2
      · subst c2
        go_wp2_with fail
        refine (one_any 0 3000 _ g _ w3.heap.size _ _ (hr3.alloc _) (by omega) (heap_alloc_new w3 _) (by have := hr3.lt; omega) (by decide) (by decide) (by decide) 4 4 (by rfl)).mono ?_
        rintro e w4 ⟨u, rfl, hu, hr4, hg4⟩
        obtain ⟨⟨x0, x1, x2⟩, f0, f1, f2⟩ := ((kD.alloc _).grown hg4 hgD).three
        obtain ⟨⟨r0, r1, r2⟩, e0, e1, e2⟩ := ((kR.alloc _).grown hg4 hgR).three
        have hgE := grown_trans (grown_alloc hg _) hg4
        clear hg4 hg kD kR hr3
        go_wp2_with fail
        have s0 : (w4.setCell ⟨w2.heap.size, 0, none⟩ (.int .i64 u)).cell? ⟨w.heap.size, 0, none⟩ = some (.int .i64 0) := by rw [World.cell?_setCell_other _ _ _ _ (by intro e; injection e; omega)]; exact r0
        have s1 : (w4.setCell ⟨w2.heap.size, 0, none⟩ (.int .i64 u)).cell? ⟨w.heap.size, 1, none⟩ = some (.int .i64 0) := by rw [World.cell?_setCell_other _ _ _ _ (by intro e; injection e; omega)]; exact r1
        have s2 : (w4.setCell ⟨w2.heap.size, 0, none⟩ (.int .i64 u)).cell? ⟨w.heap.size, 2, none⟩ = some (.int .i64 0) := by rw [World.cell?_setCell_other _ _ _ _ (by intro e; injection e; omega)]; exact r2
        refine bodyPost_ret (v := .agg #[.int .i64 u, .int .i64 mm, .int .i64 dd]) (by simp [results, Tryd.results33, go_sem, s0, s1, s2]) rfl ⟨u, mm, dd, rfl, ⟨by omega, by omega, by omega, by omega, by omega, by omega⟩, ?_, ?_⟩
        · repeat (refine Rdr.setCellD ?_ (by simp <;> omega) _)
          exact hr4.more (by omega)
        · exact grown_setCell (grown_setCell (grown_setCell (grown_setCell hgE (by simp; omega) _) (by simp) _) (by simp) _) (by simp) _
      · have e0 : (v == 0) = false := by simp [c0]
        have e1 : (v == 1) = false := by simp [c1]
        have e2 : (v == 2) = false := by simp [c2]
        obtain ⟨⟨x0, x1, x2⟩, f0, f1, f2⟩ := kD.three
        obtain ⟨⟨r0, r1, r2⟩, q0, q1, q2⟩ := kR.three
        clear kD kR
        go_wp2_with fail
        refine bodyPost_ret (v := .agg #[.int .i64 yy, .int .i64 mm, .int .i64 dd]) (by simp [results, Tryd.results33, go_sem, r0, r1, r2]) rfl ⟨yy, mm, dd, rfl, ⟨by omega, by omega, by omega, by omega, by omega, by omega⟩, ?_, ?_⟩
        · repeat (refine Rdr.setCellD ?_ (by simp <;> omega) _)
          exact hr3.more (by omega)
        · exact grown_setCell (grown_setCell (grown_setCell hg (by simp) _) (by simp) _) (by simp) _
def DrawnDate (w : World) (e : Ending) (w' : World) : Prop :=
  ∃ y m d : Int, e = .returned (.agg #[.int .i64 y, .int .i64 m, .int .i64 d]) ∧ (0 ≤ y ∧ y ≤ 3000 ∧ 0 ≤ m ∧ m ≤ 100 ∧ 0 ≤ d ∧ d ≤ 100) ∧ Below w.heap.size w w'
theorem IsRow_alloc {k : IntKind} {w : World} {a : Option Addr} {len cap : Nat} {zs : List Int} (h : IsRow k w a len cap zs) (o : Obj) : IsRow k (w.alloc o) a len cap zs := by
  rcases h with h | ⟨x, e, h1, h2, h3, h4, h5⟩
  · exact .inl h
  · refine .inr ⟨x, e, h1, h2, h3, fun i hi => ?_, h5⟩
    have hc := h4 i hi
    have hlt : (x.add i).block < w.heap.size := by
      rcases Nat.lt_or_ge (x.add i).block w.heap.size with hlt | hge
      · exact hlt
      · simp [World.cell?, Array.getElem?_eq_none hge] at hc
    rw [World.cell?_alloc_lt _ _ _ hlt]; exact hc
set_option maxHeartbeats 400000 in
theorem drawFD_any (w : World) (a : Option Addr) (len cap : Nat) (zs : List Int) (h : IsRow .u8 w a len cap zs) :
    Calls Tryd.prog 13 #[.slice a len cap] w (DrawnDate w) := by
  have H := Lib.hid h; clear h
  go_enter Tryd.func13, Tryd.ntmps13
  go_wp2_with fail
  refine (newReader_any _ _ _ _ _ (IsRow_alloc H.out _)).mono ?_
  rintro e w1 ⟨g, rfl, hg, hr, hb⟩
  have kR : Blk w1 w.heap.size 24 #[.int .i64 0, .int .i64 0, .int .i64 0] := (Blk.new w _ _).below hb (by simp)
  have hgw : w.heap.size + 1 ≤ g := by simpa using hg
  replace hb : Below w.heap.size w w1 := ((Below.refl _ _).alloc (Nat.le_refl _) _).trans (hb.mono (by simp))
  go_wp2_with fail
  refine (anyDate_any _ _ _ hr (by omega)).mono ?_
  rintro e w2 ⟨y, m, d, rfl, hd, -, hk⟩
  obtain ⟨⟨r0, r1, r2⟩, q0, q1, q2⟩ := (kR.grown hk (by omega)).three
  have hz := hk.size
  have hb3 := below_grown hb hk (by omega)
  clear hk kR hr
  go_wp2_with fail
  refine bodyPost_ret (v := .agg #[.int .i64 y, .int .i64 m, .int .i64 d]) (by simp [results, Tryd.results13, go_sem, r0, r1, r2]) rfl ⟨y, m, d, rfl, hd, ?_⟩
  exact ((hb3.setCell (by simp) _).setCell (by simp) _).setCell (by simp) _
/-- A text drawn out of a law's input. -/
def TextE (N : Nat) (w : World) (e : Ending) (w' : World) : Prop := ∃ l : List UInt8, e = .returned (str l) ∧ l.length ≤ N ∧ Below w.heap.size w w'
theorem Dt.fmt_len (y m d : Int) : (Dt.fmt y m d).length ≤ 10 := by
  unfold Dt.fmt
  split
  · rename_i h
    have := vld_bd h
    rw [Dt.txt_len (by omega) (by omega)]
    exact Nat.le_refl _
  · simp
theorem str_backE (s : ByteArray) : Value.string s = str s.data.toList := by simp
set_option maxHeartbeats 1000000 in
theorem drawPD_any (w : World) (a : Option Addr) (len cap : Nat) (zs : List Int) (h : IsRow .u8 w a len cap zs) :
    Calls Tryd.prog 17 #[.slice a len cap] w (TextE 12 w) := by
  have H := Lib.hid h; clear h
  go_enter Tryd.func17, Tryd.ntmps17
  go_wp2_with fail
  refine (newReader_any _ _ _ _ _ H.out).mono ?_
  rintro e w1 ⟨g, rfl, hg, hr, hb⟩
  have hgl := hr.lt
  go_wp2_with fail
  refine (anyDate_any _ _ _ hr (by omega)).mono ?_
  rintro e w2 ⟨y, m, d, rfl, -, hr2, hg2⟩
  have hb2 := below_grown hb hg2 hg
  have hgl2 := hr2.lt
  clear hb hg2 hr
  obtain ⟨F, hF⟩ : ∃ F, Dt.fmt y m d = F := ⟨_, rfl⟩
  have hFl : F.length ≤ 10 := by rw [← hF]; exact Dt.fmt_len y m d
  have HF := Lib.hid hF; clear hF
  go_wp2_with fail
  refine (sfmtD_any y m d _).mono ?_
  rw [HF.out]
  rintro e w3 ⟨rfl, hb⟩
  have hr3 := hr2.below hb hgl2
  have hb3 := hb2.trans (hb.mono hb2.size)
  have hgl3 := hr3.lt
  clear hb hb2 hr2
  go_wp2_with fail
  refine (pick_any _ _ _ _ hr3 (by omega) (by omega) (by omega)).mono ?_
  rintro e w4 ⟨v, rfl, -, hr4, hg4⟩
  have hb4 := below_grown hb3 hg4 hg
  have hgl4 := hr4.lt
  clear hb3 hg4 hr3
  by_cases c0 : v = 0
  · subst c0
    go_wp2_with fail
    refine (mutate_any _ _ _ _ hr4 (by omega) (by rw [str_size]; omega)).mono ?_
    rintro e w5 ⟨s, rfl, hs, -, hg5⟩
    have hb5 := below_grown hb4 hg5 hg
    go_wp2_with fail
    go_ret
    refine ⟨s.data.toList, str_backE s ▸ rfl, ?_, hb5⟩
    rw [str_size F] at hs
    have e1 : s.data.toList.length = s.size := Array.length_toList
    omega
  · have e0 : (v == 0) = false := by simp [c0]
    go_wp2_with fail
    go_ret
    exact ⟨F, rfl, by omega, hb4⟩
end Go.Proofs.YtapalkohfhohhaaDoor
