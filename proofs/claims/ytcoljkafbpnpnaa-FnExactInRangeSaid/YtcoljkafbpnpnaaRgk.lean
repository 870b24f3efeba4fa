/- The plain laws of ranges. -/
import Derived.Test.YtcoljkafbpnpnaaRgx
import Derived.Deep.RegionWith
import Derived.Deep.RegionHeld3
import Derived.Outline
namespace Go.Proofs.Ytcoljkafbpnpnaa
open Go.RowKit
def inB (p q n : Int) : Bool := Rg.vr p q && btw n p q
set_option maxHeartbeats 1000000 in
theorem inR_any (p q n : Int) (w : World) :
    Calls Try.prog 10 #[rV p q, .int .i64 n] w fun e w' => e = .returned (.bool (inB p q n)) ∧ Below w.heap.size w w' := by
  have kA := Blk.new w #[.int .i64 p, .int .i64 q] 24
  have hbA := (Below.refl w.heap.size w).alloc (Nat.le_refl _) (.cells #[.int .i64 p, .int .i64 q] 24)
  cases hv : Rg.vr p q with
  | false =>
    have E := Lib.hid (show inB p q n = false by unfold inB; rw [hv]; rfl)
    go_enter Try.func10, Try.ntmps10
    go_wp2_with fail
    refine (validR_any _ _ _).mono ?_
    rintro e w1 ⟨rfl, hb1⟩
    replace hbA := hbA.trans (hb1.mono hbA.size)
    go_wp2_with fail
    go_ret
    exact ⟨ret_bool E.out.symm, hbA⟩
  | true =>
    have E := Lib.hid (show inB p q n = btw n p q by unfold inB; rw [hv]; rfl)
    go_enter Try.func10, Try.ntmps10
    go_wp2_with fail
    refine (validR_any _ _ _).mono ?_
    rintro e w1 ⟨rfl, hb1⟩
    replace kA := kA.below hb1 kA.lt
    replace hbA := hbA.trans (hb1.mono hbA.size)
    obtain ⟨⟨x0, x1⟩, _, _⟩ := kA.two
    go_wp2_with fail
    refine (between_any _ _ _ _).mono ?_
    rintro e w2 ⟨rfl, rfl⟩
    go_wp2_with fail
    go_ret
    exact ⟨ret_bool E.out.symm, hbA⟩

set_option maxHeartbeats 1000000 in
theorem sInR_any (p q n : Int) (w : World) :
    Calls Try.prog 12 #[rV p q, .int .i64 n] w fun e w' => e = .returned (.bool (inB p q n)) ∧ Below w.heap.size w w' := by
  have kA := Blk.new w #[.int .i64 p, .int .i64 q] 24
  have hbA := (Below.refl w.heap.size w).alloc (Nat.le_refl _) (.cells #[.int .i64 p, .int .i64 q] 24)
  cases hv : Rg.vr p q with
  | false =>
    have E := Lib.hid (show inB p q n = false by unfold inB; rw [hv]; rfl)
    go_enter Try.func12, Try.ntmps12
    go_wp2_with fail
    refine (sValidR_any _ _ _).mono ?_
    rintro e w1 ⟨rfl, hb1⟩
    replace hbA := hbA.trans (hb1.mono hbA.size)
    go_wp2_with fail
    go_ret
    exact ⟨ret_bool E.out.symm, hbA⟩
  | true =>
    have E := Lib.hid (show inB p q n = btw n p q by unfold inB; rw [hv]; rfl)
    go_enter Try.func12, Try.ntmps12
    go_wp2_with fail
    refine (sValidR_any _ _ _).mono ?_
    rintro e w1 ⟨rfl, hb1⟩
    replace kA := kA.below hb1 kA.lt
    replace hbA := hbA.trans (hb1.mono hbA.size)
    obtain ⟨⟨x0, x1⟩, _, _⟩ := kA.two
    go_wp2_with fail
    refine (inRange_any _ _ _ _).mono ?_
    rintro e w2 ⟨rfl, rfl⟩
    go_wp2_with fail
    go_ret
    exact ⟨ret_bool E.out.symm, hbA⟩
set_option maxHeartbeats 1000000 in
theorem sValidRange_any (p q : Int) (w : World) :
    Calls Try.prog 9 #[rV p q] w fun e w' => e = .returned (.bool (Rg.vr p q)) ∧ Below w.heap.size w w' := by
  have hbA := (Below.refl w.heap.size w).alloc (Nat.le_refl _) (.cells #[.int .i64 p, .int .i64 q] 24)
  go_enter Try.func9, Try.ntmps9
  go_wp2_with fail
  refine (sValidR_any _ _ _).mono ?_
  rintro e w1 ⟨rfl, hb1⟩
  go_wp2_with fail
  go_ret
  exact ⟨rfl, hbA.trans (hb1.mono hbA.size)⟩
/-- A drawn range. -/
def RangePost (w : World) (g p : Nat) (e : Ending) (w' : World) : Prop :=
  ∃ m n : Int, e = .returned (rV m n) ∧ (-2000000001 ≤ m ∧ m ≤ 2000000001 ∧ -2000000001 ≤ n ∧ n ≤ 2000000001) ∧ Rdr w' g (p + 5) ∧ w.grownBy w' (some g)
theorem Rdr.setCellR {w : World} {g p : Nat} (h : Rdr w g p) {q : Addr} (hq : g < q.block) (u : Value) : Rdr (w.setCell q u) g p := h.below ((Below.refl (g + 1) w).setCell (by omega) u) (by omega)
theorem Rdr.drewR {w : World} {g p : Nat} (h : Rdr w g p) : Rdr w.drew g p := h
set_option maxHeartbeats 1000000 in
theorem anyRange_any (w : World) (g p : Nat) (h : Rdr w g p) (hp : p ≤ 800000) :
    Calls Try.prog 14 #[.pointer (some ⟨g, 0, none⟩)] w (RangePost w g p) := by
  have hgl := h.lt
  go_enter Try.func14, Try.ntmps14
  go_wp2_with fail
  refine (one_any (-300000) 40000000 _ g _ (w.heap.size + 1) _ _ ((h.alloc _).alloc _) (by omega) (by simpa using heap_alloc_new (w.alloc (.cells #[.int .i64 0, .int .i64 0] 24)) _) (by omega) (by decide) (by decide) (by decide) 8 8 (by rfl)).mono ?_
  rintro e w1 ⟨lo, rfl, ⟨lo0, lo1⟩, hr, hg⟩
  have kR : Blk w1 w.heap.size 24 #[.int .i64 0, .int .i64 0] := ((Blk.new w _ _).alloc _).grown hg (by omega)
  replace hg := grown_trans (grown_alloc (grown_alloc (grown_refl w g) _) _) hg
  have hgR : w.heap.size ≠ g := by omega
  go_wp2_with fail
  refine (one_any 0 1000 _ g _ w1.heap.size _ _ (hr.alloc _) (by omega) (heap_alloc_new w1 _) (by have := hr.lt; omega) (by decide) (by decide) (by decide) 5 5 (by rfl)).mono ?_
  rintro e w3 ⟨b, rfl, ⟨b0, b1⟩, hr3, hg3⟩
  replace kR := (kR.alloc _).grown hg3 hgR
  replace hg := grown_trans (grown_alloc hg _) hg3
  have kD := Blk.new w3 #[.int .i64 lo, .int .i64 (lo + b)] 24
  have hgD : w3.heap.size ≠ g := by have := hr3.lt; omega
  have hRD : w.heap.size < w3.heap.size := kR.lt
  have hr3' := hr3.alloc (.cells #[.int .i64 lo, .int .i64 (lo + b)] 24)
  replace kR := kR.alloc (.cells #[.int .i64 lo, .int .i64 (lo + b)] 24)
  replace hg := grown_alloc hg (.cells #[.int .i64 lo, .int .i64 (lo + b)] 24)
  clear hr hg3 hr3
  go_wp2_with fail
  refine (pick_any _ _ _ _ hr3' (by omega) (by omega) (by omega)).mono ?_
  rintro e w4 ⟨v, rfl, ⟨hv, _⟩, hr4, hg4⟩
  obtain ⟨v0, v1⟩ := hv (by omega)
  replace kR := kR.grown hg4 hgR
  replace kD := kD.grown hg4 hgD
  replace hg := grown_trans hg hg4
  clear hr3' hg4 hv
  by_cases c0 : v = 0
  · subst c0
    obtain ⟨⟨r0, r1⟩, q0, q1⟩ := kR.two
    obtain ⟨⟨x0, x1⟩, f0, f1⟩ := kD.two
    clear kR kD
    have s0 : (w4.setCell ⟨w3.heap.size, 1, none⟩ (.int .i64 (lo - 1))).cell? ⟨w.heap.size, 0, none⟩ = some (.int .i64 0) := by rw [World.cell?_setCell_other _ _ _ _ (by intro e; injection e; omega)]; exact r0
    have s1 : (w4.setCell ⟨w3.heap.size, 1, none⟩ (.int .i64 (lo - 1))).cell? ⟨w.heap.size, 1, none⟩ = some (.int .i64 0) := by rw [World.cell?_setCell_other _ _ _ _ (by intro e; injection e; omega)]; exact r1
    go_wp2_with fail
    refine bodyPost_ret (v := rV lo (lo - 1)) (by simp [results, Try.results14, go_sem, s0, s1]) rfl ⟨lo, lo - 1, rfl, ⟨by omega, by omega, by omega, by omega⟩, ?_, ?_⟩
    · exact (((hr4.more (by omega)).setCellR (by simp; omega) _).setCellR (by simp; omega) _).setCellR (by simp; omega) _
    · exact grown_setCell (grown_setCell (grown_setCell hg (by simp; omega) _) (by simp) _) (by simp) _
  · by_cases c1 : v = 1
    · subst c1
      go_wp2_with fail
      refine (one_any (-2000000001) 2000000001 _ g _ w4.heap.size _ _ (hr4.alloc _) (by omega) (heap_alloc_new w4 _) (by have := hr4.lt; omega) (by decide) (by decide) (by decide) 3 3 (by rfl)).mono ?_
      rintro e w5 ⟨u, rfl, hu, hr5, hg5⟩
      replace kR := (kR.alloc _).grown hg5 hgR
      replace kD := (kD.alloc _).grown hg5 hgD
      replace hg := grown_trans (grown_alloc hg _) hg5
      clear hr4 hg5
      go_wp2_with fail
      refine (one_any (-2000000001) 2000000001 _ g _ w5.heap.size _ _ (hr5.alloc _) (by omega) (heap_alloc_new w5 _) (by have := hr5.lt; omega) (by decide) (by decide) (by decide) 2 2 (by rfl)).mono ?_
      rintro e w6 ⟨u2, rfl, hu2, hr6, hg6⟩
      obtain ⟨⟨r0, r1⟩, q0, q1⟩ := ((kR.alloc _).grown hg6 hgR).two
      obtain ⟨⟨x0, x1⟩, f0, f1⟩ := ((kD.alloc _).grown hg6 hgD).two
      have hgE := grown_trans (grown_alloc hg _) hg6
      clear hr5 hg6 kR kD hg
      have s0 : ((w6.setCell ⟨w3.heap.size, 0, none⟩ (.int .i64 u)).setCell ⟨w3.heap.size, 1, none⟩ (.int .i64 u2)).cell? ⟨w.heap.size, 0, none⟩ = some (.int .i64 0) := by rw [World.cell?_setCell_other _ _ _ _ (by intro e; injection e; omega), World.cell?_setCell_other _ _ _ _ (by intro e; injection e; omega)]; exact r0
      have s1 : ((w6.setCell ⟨w3.heap.size, 0, none⟩ (.int .i64 u)).setCell ⟨w3.heap.size, 1, none⟩ (.int .i64 u2)).cell? ⟨w.heap.size, 1, none⟩ = some (.int .i64 0) := by rw [World.cell?_setCell_other _ _ _ _ (by intro e; injection e; omega), World.cell?_setCell_other _ _ _ _ (by intro e; injection e; omega)]; exact r1
      go_wp2_with fail
      refine bodyPost_ret (v := rV u u2) (by simp [results, Try.results14, go_sem, s0, s1]) rfl ⟨u, u2, rfl, ⟨by omega, by omega, by omega, by omega⟩, ?_, ?_⟩
      · exact ((((hr6.more (by omega)).setCellR (by simp; omega) _).setCellR (by simp; omega) _).setCellR (by simp; omega) _).setCellR (by simp; omega) _
      · exact grown_setCell (grown_setCell (grown_setCell (grown_setCell hgE (by simp; omega) _) (by simp; omega) _) (by simp) _) (by simp) _
    · have e0 : (v == 0) = false := by simp [c0]
      have e1 : (v == 1) = false := by simp [c1]
      obtain ⟨⟨r0, r1⟩, q0, q1⟩ := kR.two
      obtain ⟨⟨x0, x1⟩, f0, f1⟩ := kD.two
      clear kR kD
      go_wp2_with fail
      refine bodyPost_ret (v := rV lo (lo + b)) (by simp [results, Try.results14, go_sem, r0, r1]) rfl ⟨lo, lo + b, rfl, ⟨by omega, by omega, by omega, by omega⟩, ?_, ?_⟩
      · exact ((hr4.more (by omega)).setCellR (by simp; omega) _).setCellR (by simp; omega) _
      · exact grown_setCell (grown_setCell hg (by simp) _) (by simp) _
theorem IsRow_allocR {k : IntKind} {w : World} {a : Option Addr} {len cap : Nat} {zs : List Int} (h : IsRow k w a len cap zs) (o : Obj) : IsRow k (w.alloc o) a len cap zs := by
  rcases h with h | ⟨x, e, h1, h2, h3, h4, h5⟩
  · exact .inl h
  · refine .inr ⟨x, e, h1, h2, h3, fun i hi => ?_, h5⟩
    have hc := h4 i hi
    have hlt : (x.add i).block < w.heap.size := by
      rcases Nat.lt_or_ge (x.add i).block w.heap.size with hlt | hge
      · exact hlt
      · simp [World.cell?, Array.getElem?_eq_none hge] at hc
    rw [World.cell?_alloc_lt _ _ _ hlt]; exact hc
theorem inB_t {p q n : Int} (hv : Rg.vr p q = true) (h0 : p ≤ n) (h1 : n ≤ q) : inB p q n = true := by unfold inB; rw [hv, btw_t h0 h1]; rfl
theorem tv_form (r : Rg.R) : ∃ x y t, tv r = .tuple #[rV x y, .bool t] := ⟨_, _, _, rfl⟩
set_option maxHeartbeats 400000 in
theorem toRange_any (p q : Int) (w : World) :
    Calls Try.prog 13 #[rV p q] w fun e w' => e = .returned (rV p q) ∧ Below w.heap.size w w' := by
  go_enter Try.func13, Try.ntmps13
  go_wp2
  refine bodyPost_ret (v := rV p q) (by simp [results, Try.results13, go_sem]) rfl ⟨rfl, ?_⟩
  exact (((Below.refl _ _).alloc (Nat.le_refl _) _).alloc (by simp) _).alloc (by simp; omega) _
theorem Blk.set {W : World} {g : Nat} {T : TypeId} {cs : Array Value} (h : Blk W g T cs) {q : Addr} (hq : g ≠ q.block) (u : Value) : Blk (W.setCell q u) g T cs := by
  unfold Blk at *
  simp only [World.setCell, Array.getElem?_modify]
  rw [if_neg (fun e => hq e.symm), h]
def DrawnG1 (w : World) (e : Ending) (w' : World) : Prop :=
  ∃ a b : Int, e = .returned (rV a b) ∧ (-2000000001 ≤ a ∧ a ≤ 2000000001 ∧ -2000000001 ≤ b ∧ b ≤ 2000000001) ∧ Below w.heap.size w w'
def DrawnG2 (w : World) (e : Ending) (w' : World) : Prop :=
  ∃ a b n : Int, e = .returned (.tuple #[rV a b, .int .i64 n]) ∧ (-2000000001 ≤ a ∧ a ≤ 2000000001 ∧ -2000000001 ≤ b ∧ b ≤ 2000000001) ∧ (-5000000000 ≤ n ∧ n ≤ 5000000000) ∧ Below w.heap.size w w'
set_option maxHeartbeats 1000000 in
theorem drawValidR_any (w : World) (a : Option Addr) (len cap : Nat) (zs : List Int) (h : IsRow .u8 w a len cap zs) :
    Calls Try.prog 7 #[.slice a len cap] w (DrawnG1 w) := by
  have H := Lib.hid (IsRow_allocR h (.cells #[.int .i64 0, .int .i64 0] 24)); clear h
  go_enter Try.func7, Try.ntmps7
  go_wp2_with fail
  refine (newReader_any _ _ _ _ _ H.out).mono ?_
  rintro e w1 ⟨g, rfl, hg, hr, hb⟩
  have kR1 : Blk w1 w.heap.size 24 #[.int .i64 0, .int .i64 0] := (Blk.new w _ _).below hb (by simp)
  simp only [World.size_alloc] at hg
  replace hb := ((Below.refl w.heap.size w).alloc (Nat.le_refl _) (.cells #[.int .i64 0, .int .i64 0] 24)).trans (hb.mono (by simp))
  go_wp2_with fail
  refine (anyRange_any _ _ _ hr (by omega)).mono ?_
  rintro e w2 ⟨a1, b1, rfl, ht, hr2, hg2⟩
  replace kR1 := kR1.grown hg2 (by omega)
  replace hb := below_grown hb hg2 (by omega)
  obtain ⟨⟨y0, y1⟩, y2, y3⟩ := kR1.two
  clear hr hr2 hg2
  go_wp2_with fail
  refine bodyPost_ret (v := rV a1 b1) (by simp [results, Try.results7, go_sem, y0, y1]) rfl ⟨a1, b1, rfl, ht, ?_⟩
  repeat (refine Below.setCell ?_ (by simp) _)
  exact hb
set_option maxHeartbeats 4000000 in
theorem drawInR_any (w : World) (a : Option Addr) (len cap : Nat) (zs : List Int) (h : IsRow .u8 w a len cap zs) :
    Calls Try.prog 11 #[.slice a len cap] w (DrawnG2 w) := by
  have H := Lib.hid (IsRow_allocR h (.cells #[.int .i64 0, .int .i64 0] 24)); clear h
  go_enter Try.func11, Try.ntmps11
  go_wp2_with fail
  refine (newReader_any _ _ _ _ _ H.out).mono ?_
  rintro e w1 ⟨g, rfl, hg, hr, hb⟩
  have kR1 : Blk w1 w.heap.size 24 #[.int .i64 0, .int .i64 0] := (Blk.new w _ _).below hb (by simp)
  simp only [World.size_alloc] at hg
  replace hb := ((Below.refl w.heap.size w).alloc (Nat.le_refl _) (.cells #[.int .i64 0, .int .i64 0] 24)).trans (hb.mono (by simp))
  go_wp2_with fail
  refine (anyRange_any _ _ _ hr (by omega)).mono ?_
  rintro e w2 ⟨a1, b1, rfl, ⟨t1, t2, t3, t4⟩, hr2, hg2⟩
  replace kR1 := kR1.grown hg2 (by omega)
  replace hb := below_grown hb hg2 (by omega)
  have kA := Blk.new w2 #[.int .i64 a1, .int .i64 b1] 24
  have hgl2 := hr2.lt
  have hgA : w2.heap.size ≠ g := by omega
  have hl1 := kR1.lt
  replace kR1 := kR1.alloc (.cells #[.int .i64 a1, .int .i64 b1] 24)
  have hs := hb.size
  replace hb := hb.alloc hs (.cells #[.int .i64 a1, .int .i64 b1] 24)
  have HR := Lib.hid (hr2.alloc (.cells #[.int .i64 a1, .int .i64 b1] 24))
  clear hg2 hr2 hr
  go_wp2_with fail
  have HA := Lib.hid kA
  have HR1 := Lib.hid kR1
  have HB := Lib.hid hb
  have hAR : w.heap.size ≠ w2.heap.size := by omega
  have hgs : g < (w2.alloc (.cells #[.int .i64 a1, .int .i64 b1] 24)).heap.size := by simp; omega
  have hsz : w2.heap.size < (w2.alloc (.cells #[.int .i64 a1, .int .i64 b1] 24)).heap.size := by simp
  generalize w2.alloc (.cells #[.int .i64 a1, .int .i64 b1] 24) = W0 at HA HR1 HB HR hgs hsz ⊢
  clear kA kR1 hb hs
  obtain ⟨⟨r0, r1⟩, f0, f1⟩ := HR1.out.two
  obtain ⟨⟨x0, x1⟩, _, _⟩ := HA.out.two
  have zb : -5000000000 ≤ (a1 + b1).tdiv 2 ∧ (a1 + b1).tdiv 2 ≤ 5000000000 := by
    have := Int.natAbs_tdiv_le_natAbs (a1 + b1) 2
    omega
  obtain ⟨zb0, zb1⟩ := zb
  have W1 : IntKind.i64.wrap (a1 - 1) = a1 - 1 := IntWalk.i64_in _ (by omega)
  have W2 : IntKind.i64.wrap (b1 + 1) = b1 + 1 := IntWalk.i64_in _ (by omega)
  have W3 : IntKind.i64.wrap (a1 + b1) = a1 + b1 := IntWalk.i64_in _ (by omega)
  have W4 : IntKind.i64.wrap ((a1 + b1).tdiv 2) = (a1 + b1).tdiv 2 := IntWalk.i64_in _ (by omega)
  have OK : Hid (okInts (-5000000000) 5000000000 #[.int .i64 a1, .int .i64 b1, .int .i64 (a1 - 1), .int .i64 (b1 + 1), .int .i64 ((a1 + b1).tdiv 2)] = true) := Lib.hid (by simp [okInts, okInt]; omega)
  go_region_held3 (fun w' => w'.cell? ⟨w2.heap.size, 0, none⟩ = some (.int .i64 a1) ∧ w'.cell? ⟨w2.heap.size, 1, none⟩ = some (.int .i64 b1)) (first | exact HA.out.drew.two.1 | exact (HA.out.drew.alloc _).two.1 | exact k3.two.1 | exact ((k3.set (by dsimp only; omega) _).set (by dsimp only; omega) _).two.1) (first | (go_at_call 18; (try rw [W1]); (try rw [W2]); (try rw [W3]); (try rw [W4]); refine (one_any (-5000000000) 5000000000 _ g (0 + 5) W0.heap.size #[.int .i64 a1, .int .i64 b1, .int .i64 (a1 - 1), .int .i64 (b1 + 1), .int .i64 ((a1 + b1).tdiv 2)] 3 ?_ (by omega) ?_ (by omega) (by simp) (by simp) OK.out 5 5 (by rfl)).mono ?_; (exact (Rdr.drewR HR.out).alloc _); (exact heap_alloc_new W0.drew _); rintro e w3 ⟨n, rfl, ⟨n0, n1⟩, hr3, hg3⟩; have k3 := Blk.grown (Blk.alloc (Blk.drew HA.out) _) hg3 hgA; obtain ⟨⟨z0, z1⟩, z2, z3⟩ := Blk.two (Blk.grown (Blk.alloc (Blk.drew HR1.out) _) hg3 (by omega)); have hb3 := below_grown (HB.out.drew.alloc HB.out.size _) hg3 (by omega)))
  all_goals go_wp2_with fail
  all_goals
    refine bodyPost_ret (v := .tuple #[rV a1 b1, .int .i64 n]) (by simp [results, Try.results11, go_sem, z0, z1]) rfl ⟨a1, b1, n, rfl, ⟨t1, t2, t3, t4⟩, ⟨by omega, by omega⟩, ?_⟩
    repeat (refine Below.setCell ?_ (by simp) _)
    exact hb3
set_option maxHeartbeats 2000000 in
theorem lawValidRange (a : Option Addr) (len cap : Nat) (zs : List Int) (w : World) (h : IsRow .u8 w a len cap zs) :
    Calls Try.prog 3 #[.slice a len cap] w fun e w' => e = .returned (.bool true) ∧ Below w.heap.size w w' := by
  have H := Lib.hid h; clear h
  by_cases hl : 1048576 < (len : Int)
  · go_enter Try.func3, Try.ntmps3
    go_wp2_with fail
    go_ret
    exact ⟨rfl, Below.refl _ _⟩
  · have hl' := decide_eq_false hl
    clear hl
    go_enter Try.func3, Try.ntmps3
    go_wp2_with fail
    refine (drawValidR_any _ _ _ _ _ H.out).mono ?_
    rintro e w1 ⟨a, b, rfl, ⟨a0, a1, b0, b1⟩, hbA⟩
    have kA := Blk.new w1 #[.int .i64 a, .int .i64 b] 24
    replace hbA := hbA.alloc hbA.size (.cells #[.int .i64 a, .int .i64 b] 24)
    have i1 : inB a b a = Rg.vr a b := by
      unfold inB
      cases hv : Rg.vr a b with
      | false => rfl
      | true => rw [btw_t (by omega) (Rg.vr_iff.1 hv).2.1]; rfl
    have i2 : inB a b b = Rg.vr a b := by
      unfold inB
      cases hv : Rg.vr a b with
      | false => rfl
      | true => rw [btw_t (Rg.vr_iff.1 hv).2.1 (by omega)]; rfl
    have I1 := Lib.hid i1
    have I2 := Lib.hid i2
    clear i1 i2
    obtain ⟨v, hv⟩ : ∃ v, v = Rg.vr a b := ⟨_, rfl⟩
    rw [← hv] at I1 I2
    have HVV := Lib.hid hv.symm
    clear hv
    cases v
    all_goals
      obtain ⟨⟨x0, x1⟩, _, _⟩ := kA.two
      have lt0 := kA.lt
      go_wp2_with fail
      refine (validR_any _ _ _).mono ?_
      rw [HVV.out]
      rintro e w2 ⟨rfl, hb2⟩
      have kA2 := kA.below hb2 kA.lt
      have hbA2 := hbA.trans (hb2.mono hbA.size)
      clear x0 x1 lt0
      obtain ⟨⟨x0, x1⟩, _, _⟩ := kA2.two
      go_wp2_with fail
      refine (sValidRange_any _ _ _).mono ?_
      rw [HVV.out]
      rintro e w3 ⟨rfl, hb3⟩
      have kA3 := kA2.below hb3 kA2.lt
      have hbA3 := hbA2.trans (hb3.mono hbA2.size)
      clear x0 x1
      obtain ⟨⟨x0, x1⟩, _, _⟩ := kA3.two
      go_wp2_with fail
      refine (inR_any _ _ _ _).mono ?_
      rw [I1.out]
      rintro e w4 ⟨rfl, hb4⟩
      have kA4 := kA3.below hb4 kA3.lt
      have hbA4 := hbA3.trans (hb4.mono hbA3.size)
      clear x0 x1
      obtain ⟨⟨x0, x1⟩, _, _⟩ := kA4.two
      go_wp2_with fail
      refine (inR_any _ _ _ _).mono ?_
      rw [I2.out]
      rintro e w5 ⟨rfl, hb5⟩
      go_wp2_with fail
      go_ret
      exact ⟨ret_bool (by simp), hbA4.trans (hb5.mono hbA4.size)⟩
set_option maxHeartbeats 2000000 in
theorem lawInRange (a : Option Addr) (len cap : Nat) (zs : List Int) (w : World) (h : IsRow .u8 w a len cap zs) :
    Calls Try.prog 4 #[.slice a len cap] w fun e w' => e = .returned (.bool true) ∧ Below w.heap.size w w' := by
  have H := Lib.hid h; clear h
  by_cases hl : 1048576 < (len : Int)
  · go_enter Try.func4, Try.ntmps4
    go_wp2_with fail
    go_ret
    exact ⟨rfl, Below.refl _ _⟩
  · have hl' := decide_eq_false hl
    clear hl
    go_enter Try.func4, Try.ntmps4
    go_wp2_with fail
    refine (drawInR_any _ _ _ _ _ H.out).mono ?_
    rintro e w1 ⟨a, b, n, rfl, ⟨a0, a1, b0, b1⟩, ⟨n0, n1⟩, hbA⟩
    have kA := Blk.new w1 #[.int .i64 a, .int .i64 b] 24
    replace hbA := hbA.alloc hbA.size (.cells #[.int .i64 a, .int .i64 b] 24)
    obtain ⟨v, hv⟩ : ∃ v, v = Rg.vr a b := ⟨_, rfl⟩
    have HVV := Lib.hid hv.symm
    have hin : inB a b n = (v && (decide (a ≤ n) && decide (n ≤ b))) := by
      rw [hv]; unfold inB btw; by_cases h1 : a ≤ n <;> by_cases h2 : n ≤ b <;> simp [h1, h2]
    have HIN := Lib.hid hin
    clear hv hin
    go_wp2_with fail
    refine (inR_any _ _ _ _).mono ?_
    rw [HIN.out]
    rintro e w2 ⟨rfl, hb2⟩
    replace kA := kA.below hb2 kA.lt
    replace hbA := hbA.trans (hb2.mono hbA.size)
    obtain ⟨⟨x0, x1⟩, _, _⟩ := kA.two
    go_wp2_with fail
    refine (sInR_any _ _ _ _).mono ?_
    rw [HIN.out]
    rintro e w3 ⟨rfl, hb3⟩
    replace kA := kA.below hb3 kA.lt
    replace hbA := hbA.trans (hb3.mono hbA.size)
    clear x0 x1
    obtain ⟨⟨x0, x1⟩, _, _⟩ := kA.two
    go_wp2_with fail
    refine (validR_any _ _ _).mono ?_
    rw [HVV.out]
    rintro e w4 ⟨rfl, hb4⟩
    replace kA := kA.below hb4 kA.lt
    replace hbA := hbA.trans (hb4.mono hbA.size)
    clear x0 x1
    obtain ⟨⟨x0, x1⟩, _, _⟩ := kA.two
    cases v with
    | false =>
      go_wp2_with fail
      go_ret
      exact ⟨ret_bool (by simp), hbA⟩
    | true =>
      by_cases c1 : a ≤ n
      · have d1 := decide_eq_true c1
        by_cases c2 : n ≤ b
        · have d2 := decide_eq_true c2
          go_wp2_with fail
          go_ret
          exact ⟨ret_bool (by simp), hbA⟩
        · have d2 := decide_eq_false c2
          go_wp2_with fail
          go_ret
          exact ⟨ret_bool (by simp), hbA⟩
      · have d1 := decide_eq_false c1
        go_wp2_with fail
        go_ret
        exact ⟨ret_bool (by simp), hbA⟩
set_option maxHeartbeats 1000000 in
theorem exValidRange (a b : Int) (w : World) :
    Calls Try.prog 5 #[rV a b] w fun e w' => e = .returned (.bool true) ∧ Below w.heap.size w w' := by
  have kL := Blk.new w #[.int .i64 a, .int .i64 b] 31
  have hbA := (Below.refl w.heap.size w).alloc (Nat.le_refl _) (.cells #[.int .i64 a, .int .i64 b] 31)
  have hbb : (Rg.vr a b != Rg.vr a b) = false := by simp
  go_enter Try.func5, Try.ntmps5
  go_wp2_with fail
  refine (toRange_any _ _ _).mono ?_
  rintro e w1 ⟨rfl, hb1⟩
  replace kL := kL.below hb1 kL.lt
  replace hbA := hbA.trans (hb1.mono hbA.size)
  go_wp2_with fail
  refine (sValidRange_any _ _ _).mono ?_
  rintro e w2 ⟨rfl, hb2⟩
  replace kL := kL.below hb2 kL.lt
  replace hbA := hbA.trans (hb2.mono hbA.size)
  obtain ⟨⟨x0, x1⟩, _, _⟩ := kL.two
  go_wp2_with fail
  refine (toRange_any _ _ _).mono ?_
  rintro e w3 ⟨rfl, hb3⟩
  replace hbA := hbA.trans (hb3.mono hbA.size)
  clear x0 x1
  go_wp2_with fail
  refine (validR_any _ _ _).mono ?_
  rintro e w4 ⟨rfl, hb4⟩
  replace hbA := hbA.trans (hb4.mono hbA.size)
  go_wp2_with fail
  go_ret
  exact ⟨rfl, hbA⟩
set_option maxHeartbeats 1000000 in
theorem exInRange (a b n : Int) (w : World) :
    Calls Try.prog 6 #[rV a b, .int .i64 n] w fun e w' => e = .returned (.bool true) ∧ Below w.heap.size w w' := by
  have kL := Blk.new w #[.int .i64 a, .int .i64 b] 31
  have hbA := (Below.refl w.heap.size w).alloc (Nat.le_refl _) (.cells #[.int .i64 a, .int .i64 b] 31)
  have hbb : (inB a b n != inB a b n) = false := by simp
  go_enter Try.func6, Try.ntmps6
  go_wp2_with fail
  refine (toRange_any _ _ _).mono ?_
  rintro e w1 ⟨rfl, hb1⟩
  replace kL := kL.below hb1 kL.lt
  replace hbA := hbA.trans (hb1.mono hbA.size)
  go_wp2_with fail
  refine (sInR_any _ _ _ _).mono ?_
  rintro e w2 ⟨rfl, hb2⟩
  replace kL := kL.below hb2 kL.lt
  replace hbA := hbA.trans (hb2.mono hbA.size)
  obtain ⟨⟨x0, x1⟩, _, _⟩ := kL.two
  go_wp2_with fail
  refine (toRange_any _ _ _).mono ?_
  rintro e w3 ⟨rfl, hb3⟩
  replace hbA := hbA.trans (hb3.mono hbA.size)
  clear x0 x1
  go_wp2_with fail
  refine (inR_any _ _ _ _).mono ?_
  rintro e w4 ⟨rfl, hb4⟩
  replace hbA := hbA.trans (hb4.mono hbA.size)
  go_wp2_with fail
  go_ret
  exact ⟨rfl, hbA⟩
end Go.Proofs.Ytcoljkafbpnpnaa
