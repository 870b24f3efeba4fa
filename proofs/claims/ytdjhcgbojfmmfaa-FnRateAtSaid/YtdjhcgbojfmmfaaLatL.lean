/- The laws of a lattice's rates. -/
import Derived.Test.YtdjhcgbojfmmfaaLatD
import Derived.Deep.RegionHeld3
import Derived.Outline
namespace Go.Proofs.Ytdjhcgbojfmmfaa
open Go.RowKit
theorem IsRow_allocL {k : IntKind} {w : World} {a : Option Addr} {len cap : Nat} {zs : List Int} (h : IsRow k w a len cap zs) (o : Obj) : IsRow k (w.alloc o) a len cap zs := by
  rcases h with h | ⟨x, e, h1, h2, h3, h4, h5⟩
  · exact .inl h
  · refine .inr ⟨x, e, h1, h2, h3, fun i hi => ?_, h5⟩
    have hc := h4 i hi
    have hlt : (x.add i).block < w.heap.size := by
      rcases Nat.lt_or_ge (x.add i).block w.heap.size with hlt | hge
      · exact hlt
      · simp [World.cell?, Array.getElem?_eq_none hge] at hc
    rw [World.cell?_alloc_lt _ _ _ hlt]; exact hc
theorem lBlkDrew {w : World} {b : Nat} {t : TypeId} {cs : Array Value} (h : Blk w b t cs) : Blk w.drew b t cs := h
theorem lBlkSet {W : World} {g : Nat} {T : TypeId} {cs : Array Value} (h : Blk W g T cs) {q : Addr} (hq : g ≠ q.block) (u : Value) : Blk (W.setCell q u) g T cs := by
  unfold Blk at *
  simp only [World.setCell, Array.getElem?_modify]
  rw [if_neg (fun e => hq e.symm), h]
/-- What a draw of a rate's arguments leaves. -/
def DrawnL (w : World) (e : Ending) (w' : World) : Prop :=
  ∃ s r t k u : Int, e = .returned (.tuple #[latV s r t, .int .i64 k, .int .i64 u]) ∧ (-1 ≤ s ∧ s ≤ 9) ∧ (-1 ≤ r ∧ r ≤ 3001) ∧ (-1 ≤ t ∧ t ≤ 151) ∧ (-2 ≤ k ∧ k ≤ 9) ∧ (-2 ≤ u ∧ u ≤ 10) ∧ Below w.heap.size w w'
set_option maxHeartbeats 4000000 in
theorem drawRateAt_any (w : World) (a : Option Addr) (len cap : Nat) (zs : List Int) (h : IsRow .u8 w a len cap zs) :
    Calls Try.prog 12 #[.slice a len cap] w (DrawnL w) := by
  have H := Lib.hid (IsRow_allocL h (.cells #[.int .i64 0, .int .i64 0, .int .i64 0] 24)); clear h
  go_enter Try.func12, Try.ntmps12
  go_wp2_with fail
  refine (newReader_any _ _ _ _ _ H.out).mono ?_
  rintro e w1 ⟨g, rfl, hg, hr, hb⟩
  have kR1 : Blk w1 w.heap.size 24 #[.int .i64 0, .int .i64 0, .int .i64 0] := (Blk.new w _ _).below hb (by simp)
  simp only [World.size_alloc] at hg
  replace hb := ((Below.refl w.heap.size w).alloc (Nat.le_refl _) (.cells #[.int .i64 0, .int .i64 0, .int .i64 0] 24)).trans (hb.mono (by simp))
  go_wp2_with fail
  refine (anyLattice_any _ _ _ hr (by omega)).mono ?_
  rintro e w2 ⟨s, r, t, rfl, hs, hrr, ht, hr2, hg2⟩
  replace kR1 := kR1.grown hg2 (by omega)
  replace hb := below_grown hb hg2 (by omega)
  have kA := Blk.new w2 #[.int .i64 s, .int .i64 r, .int .i64 t] 24
  have hgl2 := hr2.lt
  have hgA : w2.heap.size ≠ g := by omega
  have hl1 := kR1.lt
  replace kR1 := kR1.alloc (.cells #[.int .i64 s, .int .i64 r, .int .i64 t] 24)
  have hsz := hb.size
  replace hb := hb.alloc hsz (.cells #[.int .i64 s, .int .i64 r, .int .i64 t] 24)
  have HR := Lib.hid (hr2.alloc (.cells #[.int .i64 s, .int .i64 r, .int .i64 t] 24))
  obtain ⟨⟨a0, a1, a2⟩, -⟩ := kA.three
  have W1 : IntKind.i64.wrap (s - 1) = s - 1 := IntWalk.i64_in _ (by omega)
  clear hg2 hr2 hr
  go_wp2_with fail
  have OK : Hid (okInts (-2) 9 #[.int .i64 0, .int .i64 1, .int .i64 2, .int .i64 (s - 1), .int .i64 s, .int .i64 (-1)] = true) := Lib.hid (by simp [okInts, okInt]; omega)
  have hgs0 : g < (w2.alloc (.cells #[.int .i64 s, .int .i64 r, .int .i64 t] 24)).heap.size := by simp; omega
  have hsz0 : w2.heap.size < (w2.alloc (.cells #[.int .i64 s, .int .i64 r, .int .i64 t] 24)).heap.size := by simp
  have hZ : (w2.alloc (.cells #[.int .i64 s, .int .i64 r, .int .i64 t] 24)).heap.size = w2.heap.size + 1 := by simp
  generalize w2.alloc (.cells #[.int .i64 s, .int .i64 r, .int .i64 t] 24) = W0 at kA kR1 hb HR hgs0 hsz0 a0 a1 a2 hZ ⊢
  refine (one_any (-2) 9 (W0.alloc (.cells #[.int .i64 0, .int .i64 1, .int .i64 2, .int .i64 (s - 1), .int .i64 s, .int .i64 (-1)] 3)) g (0 + 5) (w2.heap.size + 1) #[.int .i64 0, .int .i64 1, .int .i64 2, .int .i64 (s - 1), .int .i64 s, .int .i64 (-1)] 3 (HR.out.alloc _) (by omega) (by rw [← hZ]; exact heap_alloc_new _ _) (by omega) (by simp) (by simp) OK.out 6 6 (by rfl)).mono ?_
  rintro e w3 ⟨k, rfl, ⟨k0, k1⟩, hr3, hg3⟩
  have hAR : w.heap.size ≠ w2.heap.size := by omega
  have HA := Lib.hid ((kA.alloc _).grown hg3 hgA)
  have HR1 := Lib.hid ((kR1.alloc _).grown hg3 (by omega))
  have HB := Lib.hid (below_grown (hb.alloc hb.size _) hg3 (by omega))
  have HR3 := Lib.hid hr3
  have hgs : g < w3.heap.size := hr3.lt
  have hsz3 : w2.heap.size < w3.heap.size := HA.out.lt
  have W2 : IntKind.i64.wrap (k + 1) = k + 1 := IntWalk.i64_in _ (by omega)
  have OK2 : Hid (okInts (-2) 10 #[.int .i64 0, .int .i64 1, .int .i64 k, .int .i64 (k + 1), .int .i64 (-1), .int .i64 2] = true) := Lib.hid (by simp [okInts, okInt]; omega)
  clear hg3 hb kA kR1 HR OK W1 hgs0 hsz0 hr3 a0 a1 a2
  go_wp2_with fail
  obtain ⟨⟨x0, x1, x2⟩, _, _⟩ := HA.out.three
  go_region_held3 (fun w' => w'.cell? ⟨w2.heap.size, 0, none⟩ = some (.int .i64 s) ∧ w'.cell? ⟨w2.heap.size, 1, none⟩ = some (.int .i64 r) ∧ w'.cell? ⟨w2.heap.size, 2, none⟩ = some (.int .i64 t)) (first | exact (lBlkDrew HA.out).three.1 | exact (Blk.alloc (lBlkDrew HA.out) _).three.1 | exact (lBlkDrew (Blk.alloc HA.out _)).three.1 | exact k3.three.1 | exact (lBlkSet (lBlkSet (lBlkSet k3 (by dsimp only; omega) _) (by dsimp only; omega) _) (by dsimp only; omega) _).three.1 | fail "nokeep") (((first | (go_at_call 30) | fail "s1"); (try rw [W2]); (first | refine (one_any (-2) 10 _ g (0 + 5 + 1) w3.heap.size #[.int .i64 0, .int .i64 1, .int .i64 k, .int .i64 (k + 1), .int .i64 (-1), .int .i64 2] 3 ?_ ?_ ?_ ?_ ?_ ?_ OK2.out 6 6 (by rfl)).mono ?_ | fail "s2"); (first | (exact Rdr.drew (HR3.out.alloc _)) | fail "s3"); (first | omega | fail "s4"); (first | (exact heap_alloc_new w3 _) | fail "s5"); (first | omega | fail "s6"); (first | simp | fail "s7"); (first | simp | fail "s8"); (first | rintro e w4 ⟨n, rfl, ⟨n0, n1⟩, hr4, hg4⟩ | fail "s9"); (first | (have k3 := Blk.grown (lBlkDrew (Blk.alloc HA.out _)) hg4 hgA) | fail "s10"); (first | (obtain ⟨⟨z0, z1, z2⟩, z3, z4, z5⟩ := Blk.three (Blk.grown (lBlkDrew (Blk.alloc HR1.out _)) hg4 (by omega))) | fail "s11"); (first | (have hb4 := below_grown ((HB.out.alloc HB.out.size _).drew) hg4 (by omega)) | fail "s12")))
  all_goals go_wp2_with fail
  all_goals
    refine bodyPost_ret (v := .tuple #[latV s r t, .int .i64 k, .int .i64 n]) (by simp [results, Try.results12, go_sem, z0, z1, z2]) rfl ⟨s, r, t, k, n, rfl, hs, hrr, ht, ⟨by omega, by omega⟩, ⟨by omega, by omega⟩, ?_⟩
    repeat (refine Below.setCell ?_ (by simp) _)
    exact hb4
set_option maxHeartbeats 4000000 in
theorem toLattice_any (s r t : Int) (w : World) :
    Calls Try.prog 15 #[latV s r t] w fun e w' => e = .returned (latV s r t) ∧ Below w.heap.size w w' := by
  go_enter Try.func15, Try.ntmps15
  go_wp2
  refine bodyPost_ret (v := latV s r t) (by simp [results, Try.results15, go_sem]) rfl ⟨rfl, ?_⟩
  repeat (refine Below.setCell ?_ (by simp <;> omega) _)
  exact (((Below.refl _ _).alloc (Nat.le_refl _) _).alloc (by simp) _).alloc (by simp; omega) _
set_option maxHeartbeats 4000000 in
theorem exRateAt (s r t k u : Int) (w : World) :
    Calls Try.prog 4 #[latV s r t, .int .i64 k, .int .i64 u] w fun e w' => e = .returned (.bool true) ∧ Below w.heap.size w w' := by
  have kA := Blk.new w #[.int .i64 s, .int .i64 r, .int .i64 t] 29
  have hbA := (Below.refl w.heap.size w).alloc (Nat.le_refl _) (.cells #[.int .i64 s, .int .i64 r, .int .i64 t] 29)
  obtain ⟨⟨x0, x1, x2⟩, -⟩ := kA.three
  go_enter Try.func4, Try.ntmps4
  go_wp2_with fail
  refine (toLattice_any _ _ _ _).mono ?_
  rintro e w1 ⟨rfl, hb1⟩
  replace kA := kA.below hb1 kA.lt
  replace hbA := hbA.trans (hb1.mono hbA.size)
  obtain ⟨⟨y0, y1, y2⟩, -⟩ := kA.three
  clear hb1 x0 x1 x2
  go_wp2_with fail
  refine (sRateAt_any _ _ _ _ _ _).mono ?_
  rintro e w2 ⟨rfl, hb2⟩
  replace kA := kA.below hb2 kA.lt
  replace hbA := hbA.trans (hb2.mono hbA.size)
  obtain ⟨⟨x0, x1, x2⟩, -⟩ := kA.three
  clear hb2 y0 y1 y2
  go_wp2_with fail
  refine (toLattice_any _ _ _ _).mono ?_
  rintro e w3 ⟨rfl, hb3⟩
  replace kA := kA.below hb3 kA.lt
  replace hbA := hbA.trans (hb3.mono hbA.size)
  clear hb3 x0 x1 x2
  go_wp2_with fail
  refine (rateAt_any _ _ _ _ _ _).mono ?_
  rintro e w4 ⟨rfl, hb4⟩
  replace hbA := hbA.trans (hb4.mono hbA.size)
  have e0 : ∀ x : Int, (x != x) = false := fun x => by simp
  have e1 := e0 (Lt.rate s r t k u)
  clear e0
  go_wp2_with fail
  go_ret
  exact ⟨rfl, hbA⟩
theorem Lt.two {s r t k u : Int} (h : Lt.ok s r t = true) (k0 : 0 ≤ k) (u0 : 0 ≤ u) (u1 : u ≤ k) (h2 : k + 2 ≤ s - 1) : Lt.rate s r t (k + 2) (u + 1) = Lt.rate s r t k u := by
  rw [Lt.yes h (btw_t (by omega) h2) (btw_t (by omega) (by omega)), Lt.yes h (btw_t k0 (by omega)) (btw_t u0 u1), show 2 * (u + 1) - (k + 2) = 2 * u - k by omega]
/-- What the law of rates asks of a valid node. -/
theorem Lt.box {s r t k u : Int} (h : Lt.ok s r t = true) (h1 : 0 ≤ k) (h1' : k ≤ s - 1) (h2 : 0 ≤ u) (h3 : u ≤ k) : r - k * t ≤ Lt.rate s r t k u ∧ Lt.rate s r t k u ≤ r + k * t ∧ 0 ≤ Lt.rate s r t k u ∧ 0 ≤ k * t ∧ k * t ≤ 1200 ∧ 0 ≤ r ∧ r ≤ 3000 := by
  obtain ⟨⟨s0, s1⟩, ⟨t0, t1⟩, r0, r1⟩ := Lt.ok_iff.1 h
  rw [Lt.yes h (btw_t h1 h1') (btw_t h2 h3)]
  have a1 : t * (2 * u - k) ≤ t * k := Int.mul_le_mul_of_nonneg_left (by omega) t0
  have a2 : t * (-k) ≤ t * (2 * u - k) := Int.mul_le_mul_of_nonneg_left (by omega) t0
  have a3 : t * k ≤ t * s := Int.mul_le_mul_of_nonneg_left (by omega) t0
  have a4 : 0 ≤ t * k := Int.mul_nonneg t0 h1
  rw [Int.mul_neg] at a2
  obtain ⟨p0, p1⟩ := mul_box s0 s1 t0 t1
  rw [Int.mul_comm t s] at a3
  rw [Int.mul_comm k t]
  omega
theorem Lt.cases (s r t k u : Int) : Lt.rate s r t k u = -1 ∨ (Lt.ok s r t = true ∧ 0 ≤ k ∧ k ≤ s - 1 ∧ 0 ≤ u ∧ u ≤ k) := by
  by_cases c : Lt.ok s r t = true ∧ (0 ≤ k ∧ k ≤ s - 1) ∧ 0 ≤ u ∧ u ≤ k
  · exact .inr ⟨c.1, c.2.1.1, c.2.1.2, c.2.2.1, c.2.2.2⟩
  · exact .inl (by unfold Lt.rate; rw [if_neg c])
set_option maxHeartbeats 1000000 in
theorem lawRateAt (a : Option Addr) (len cap : Nat) (zs : List Int) (w : World) (h : IsRow .u8 w a len cap zs) :
    Calls Try.prog 3 #[.slice a len cap] w fun e w' => e = .returned (.bool true) ∧ Below w.heap.size w w' := by
  have H := Lib.hid h; clear h
  by_cases hl : 1048576 < (len : Int)
  · go_enter Try.func3, Try.ntmps3
    go_wp2_with fail
    go_ret
    exact ⟨rfl, Below.refl _ _⟩
  · have hl' := decide_eq_false hl
    clear hl
    go_enter Try.func3, Try.ntmps3
    go_wp2_with fail
    refine (drawRateAt_any _ _ _ _ _ H.out).mono ?_
    rintro e w1 ⟨s, r, t, k, u, rfl, hs, hrr, ht, hk, hu, hb1⟩
    have kA := Blk.new w1 #[.int .i64 s, .int .i64 r, .int .i64 t] 24
    have hbA := hb1.alloc hb1.size (.cells #[.int .i64 s, .int .i64 r, .int .i64 t] 24)
    obtain ⟨⟨x0, x1, x2⟩, -⟩ := kA.three
    clear hb1
    go_wp2_with fail
    refine (rateAt_any _ _ _ _ _ _).mono ?_
    rintro e w2 ⟨rfl, hb2⟩
    replace kA := kA.below hb2 kA.lt
    replace hbA := hbA.trans (hb2.mono hbA.size)
    obtain ⟨⟨y0, y1, y2⟩, -⟩ := kA.three
    clear hb2 x0 x1 x2
    go_wp2_with fail
    refine (sRateAt_any _ _ _ _ _ _).mono ?_
    rintro e w3 ⟨rfl, hb3⟩
    replace kA := kA.below hb3 kA.lt
    replace hbA := hbA.trans (hb3.mono hbA.size)
    obtain ⟨⟨x0, x1, x2⟩, -⟩ := kA.three
    clear hb3 y0 y1 y2
    rcases Lt.cases s r t k u with hE | ⟨hok, k0, k1, u0, u1⟩
    · rw [hE]
      go_wp2_with fail
      refine (sRateAt_any _ _ _ _ _ _).mono ?_
      rintro e w4 ⟨rfl, hb4⟩
      rw [hE]
      replace hbA := hbA.trans (hb4.mono hbA.size)
      go_wp2_with fail
      go_ret
      exact ⟨rfl, hbA⟩
    · obtain ⟨b1, b2, b3, b4, b5, b6, b7⟩ := Lt.box hok k0 k1 u0 u1
      have HT := Lib.hid (fun q => Lt.two (r := r) (t := t) hok k0 u0 u1 q)
      have W1 : IntKind.i64.wrap (k * t) = k * t := IntWalk.i64_in _ (by omega)
      have W2 : IntKind.i64.wrap (r - k * t) = r - k * t := IntWalk.i64_in _ (by omega)
      have W3 : IntKind.i64.wrap (r + k * t) = r + k * t := IntWalk.i64_in _ (by omega)
      have W4 : IntKind.i64.wrap (k + 2) = k + 2 := IntWalk.i64_in _ (by omega)
      have W5 : IntKind.i64.wrap (u + 1) = u + 1 := IntWalk.i64_in _ (by omega)
      clear hok
      generalize hv : Lt.rate s r t k u = v at *
      have e0 : (v != v) = false := by simp
      have d0 : decide (v < 0) = false := by simpa using b3
      have d1 : decide (r - k * t ≤ v) = true := decide_eq_true b1
      have d2 : decide (v ≤ r + k * t) = true := decide_eq_true b2
      by_cases hc : s ≤ k + 2
      · have d3 : decide (s ≤ k + 2) = true := decide_eq_true hc
        go_wp2_with fail
        go_ret
        exact ⟨rfl, hbA⟩
      · have d3 : decide (s ≤ k + 2) = false := decide_eq_false hc
        go_wp2_with fail
        refine (rateAt_any _ _ _ _ _ _).mono ?_
        rintro e w4 ⟨rfl, hb4⟩
        rw [HT.out (by omega)]
        replace hbA := hbA.trans (hb4.mono hbA.size)
        go_wp2_with fail
        go_ret
        exact ⟨by simp, hbA⟩
end Go.Proofs.Ytdjhcgbojfmmfaa
