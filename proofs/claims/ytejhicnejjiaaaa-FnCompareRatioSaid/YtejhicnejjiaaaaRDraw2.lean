/- The draws of the laws of ratios, second part. -/
import Derived.Test.YtejhicnejjiaaaaRDraw
namespace Go.Proofs.Ytejhicnejjiaaaa
open Go.RowKit
theorem Blk.drew {w : World} {b : Nat} {t : TypeId} {cs : Array Value} (h : Blk w b t cs) : Blk w.drew b t cs := h
/-- Two ratios drawn out of a law's input. -/
def DrawnR (w : World) (e : Ending) (w' : World) : Prop :=
  ∃ a b c d : Int, e = .returned (.tuple #[.agg #[.int .i64 a, .int .i64 b], .agg #[.int .i64 c, .int .i64 d]]) ∧ (-3000000 ≤ a ∧ a ≤ 3000000 ∧ -3000000 ≤ b ∧ b ≤ 3000000 ∧ -3000000 ≤ c ∧ c ≤ 3000000 ∧ -3000000 ≤ d ∧ d ≤ 3000000) ∧ Below w.heap.size w w'
theorem IsRow_alloc {k : IntKind} {w : World} {a : Option Addr} {len cap : Nat} {zs : List Int} (h : IsRow k w a len cap zs) (o : Obj) : IsRow k (w.alloc o) a len cap zs := by
  rcases h with h | ⟨x, e, h1, h2, h3, h4, h5⟩
  · exact .inl h
  · refine .inr ⟨x, e, h1, h2, h3, fun i hi => ?_, h5⟩
    have hc := h4 i hi
    have hlt : (x.add i).block < w.heap.size := by
      rcases Nat.lt_or_ge (x.add i).block w.heap.size with hlt | hge
      · exact hlt
      · simp [World.cell?, Array.getElem?_eq_none hge] at hc
    rw [World.cell?_alloc_lt _ _ _ hlt]; exact hc
set_option maxHeartbeats 1000000 in
theorem drawAdd_any (w : World) (a : Option Addr) (len cap : Nat) (zs : List Int) (h : IsRow .u8 w a len cap zs) :
    Calls Try.prog 18 #[.slice a len cap] w (DrawnR w) := by
  have H := Lib.hid (IsRow_alloc (IsRow_alloc h (.cells #[.int .i64 0, .int .i64 0] 26)) (.cells #[.int .i64 0, .int .i64 0] 26)); clear h
  go_enter Try.func18, Try.ntmps18
  go_wp2_with fail
  refine (newReader_any _ _ _ _ _ H.out).mono ?_
  rintro e w1 ⟨g, rfl, hg, hr, hb⟩
  have kR1 : Blk w1 w.heap.size 26 #[.int .i64 0, .int .i64 0] := ((Blk.new w _ _).alloc _).below hb (by simp; omega)
  have kR2 : Blk w1 (w.heap.size + 1) 26 #[.int .i64 0, .int .i64 0] := by
    have := (Blk.new (w.alloc (.cells #[.int .i64 0, .int .i64 0] 26)) #[.int .i64 0, .int .i64 0] 26).below hb (by simp)
    simpa using this
  simp only [World.size_alloc] at hg
  replace hb := (((Below.refl w.heap.size w).alloc (Nat.le_refl _) (.cells #[.int .i64 0, .int .i64 0] 26)).alloc (by simp) (.cells #[.int .i64 0, .int .i64 0] 26)).trans (hb.mono (by simp; omega))
  go_wp2_with fail
  refine (anyRatio_any _ _ _ hr (by omega)).mono ?_
  rintro e w2 ⟨a1, b1, rfl, ⟨t1, t2, t3, t4⟩, hr2, hg2⟩
  replace kR1 := kR1.grown hg2 (by omega)
  replace kR2 := kR2.grown hg2 (by omega)
  replace hb := below_grown hb hg2 (by omega)
  have kA := Blk.new w2 #[.int .i64 a1, .int .i64 b1] 26
  have hgA : w2.heap.size ≠ g := by have := hr2.lt; omega
  have hl1 := kR1.lt
  have hl2 := kR2.lt
  replace kR1 := kR1.alloc (.cells #[.int .i64 a1, .int .i64 b1] 26)
  replace kR2 := kR2.alloc (.cells #[.int .i64 a1, .int .i64 b1] 26)
  have hs := hb.size
  replace hb := hb.alloc hs (.cells #[.int .i64 a1, .int .i64 b1] 26)
  have HR := Lib.hid (hr2.alloc (.cells #[.int .i64 a1, .int .i64 b1] 26))
  clear hg2 hr2 hr
  go_wp2_with fail
  have hbd := hb.drew
  have HK := Lib.hid kA
  go_region_with (first | (go_at_call 39; refine (anyRatio_any _ g (0 + 5) ?_ (by omega)).mono ?_; exact HR.out; rintro e w3 ⟨c1, d1, rfl, ⟨u1, u2, u3, u4⟩, hr3, hg3⟩; obtain ⟨⟨x0, x1⟩, _, _⟩ := Blk.two (Blk.grown (Blk.drew HK.out) hg3 hgA); obtain ⟨⟨y0, y1⟩, y2, y3⟩ := Blk.two (Blk.grown (Blk.drew kR1) hg3 (by omega)); obtain ⟨⟨z0, z1⟩, z2, z3⟩ := Blk.two (Blk.grown (Blk.drew kR2) hg3 (by omega)); have hb3 := below_grown hbd hg3 (by omega)))
  all_goals go_wp2_with fail
  all_goals
    refine bodyPost_ret (v := .tuple #[.agg #[.int .i64 a1, .int .i64 b1], .agg #[.int .i64 c1, .int .i64 d1]]) (by simp [results, Try.results18, go_sem, y0, y1, z0, z1]) rfl ⟨a1, b1, c1, d1, rfl, ⟨t1, t2, t3, t4, u1, u2, u3, u4⟩, ?_⟩
    repeat (refine Below.setCell ?_ (by simp) _)
    exact hb3
set_option maxHeartbeats 1000000 in
theorem drawMul_any (w : World) (a : Option Addr) (len cap : Nat) (zs : List Int) (h : IsRow .u8 w a len cap zs) :
    Calls Try.prog 21 #[.slice a len cap] w (DrawnR w) := by
  have H := Lib.hid (IsRow_alloc (IsRow_alloc h (.cells #[.int .i64 0, .int .i64 0] 26)) (.cells #[.int .i64 0, .int .i64 0] 26)); clear h
  go_enter Try.func21, Try.ntmps21
  go_wp2_with fail
  refine (drawAdd_any _ _ _ _ _ H.out).mono ?_
  rintro e w1 ⟨a1, b1, c1, d1, rfl, hbd, hb⟩
  have kR1 : Blk w1 w.heap.size 26 #[.int .i64 0, .int .i64 0] := ((Blk.new w _ _).alloc _).below hb (by simp; omega)
  have kR2 : Blk w1 (w.heap.size + 1) 26 #[.int .i64 0, .int .i64 0] := by
    have := (Blk.new (w.alloc (.cells #[.int .i64 0, .int .i64 0] 26)) #[.int .i64 0, .int .i64 0] 26).below hb (by simp)
    simpa using this
  replace hb := (((Below.refl w.heap.size w).alloc (Nat.le_refl _) (.cells #[.int .i64 0, .int .i64 0] 26)).alloc (by simp) (.cells #[.int .i64 0, .int .i64 0] 26)).trans (hb.mono (by simp; omega))
  obtain ⟨⟨y0, y1⟩, y2, y3⟩ := kR1.two
  obtain ⟨⟨z0, z1⟩, z2, z3⟩ := kR2.two
  clear kR1 kR2
  go_wp2_with fail
  refine bodyPost_ret (v := .tuple #[.agg #[.int .i64 a1, .int .i64 b1], .agg #[.int .i64 c1, .int .i64 d1]]) (by simp [results, Try.results21, go_sem, y0, y1, z0, z1]) rfl ⟨a1, b1, c1, d1, rfl, hbd, ?_⟩
  repeat (refine Below.setCell ?_ (by simp) _)
  exact hb
set_option maxHeartbeats 1000000 in
theorem drawCompare_any (w : World) (a : Option Addr) (len cap : Nat) (zs : List Int) (h : IsRow .u8 w a len cap zs) :
    Calls Try.prog 24 #[.slice a len cap] w (DrawnR w) := by
  have H := Lib.hid (IsRow_alloc (IsRow_alloc h (.cells #[.int .i64 0, .int .i64 0] 26)) (.cells #[.int .i64 0, .int .i64 0] 26)); clear h
  go_enter Try.func24, Try.ntmps24
  go_wp2_with fail
  refine (drawAdd_any _ _ _ _ _ H.out).mono ?_
  rintro e w1 ⟨a1, b1, c1, d1, rfl, hbd, hb⟩
  have kR1 : Blk w1 w.heap.size 26 #[.int .i64 0, .int .i64 0] := ((Blk.new w _ _).alloc _).below hb (by simp; omega)
  have kR2 : Blk w1 (w.heap.size + 1) 26 #[.int .i64 0, .int .i64 0] := by
    have := (Blk.new (w.alloc (.cells #[.int .i64 0, .int .i64 0] 26)) #[.int .i64 0, .int .i64 0] 26).below hb (by simp)
    simpa using this
  replace hb := (((Below.refl w.heap.size w).alloc (Nat.le_refl _) (.cells #[.int .i64 0, .int .i64 0] 26)).alloc (by simp) (.cells #[.int .i64 0, .int .i64 0] 26)).trans (hb.mono (by simp; omega))
  obtain ⟨⟨y0, y1⟩, y2, y3⟩ := kR1.two
  obtain ⟨⟨z0, z1⟩, z2, z3⟩ := kR2.two
  clear kR1 kR2
  go_wp2_with fail
  refine bodyPost_ret (v := .tuple #[.agg #[.int .i64 a1, .int .i64 b1], .agg #[.int .i64 c1, .int .i64 d1]]) (by simp [results, Try.results24, go_sem, y0, y1, z0, z1]) rfl ⟨a1, b1, c1, d1, rfl, hbd, ?_⟩
  repeat (refine Below.setCell ?_ (by simp) _)
  exact hb
end Go.Proofs.Ytejhicnejjiaaaa
