/- The arguments of loans' laws, drawn. -/
import Derived.Test.YtipmaepkhmnhjaaDoorRpD
namespace Go.Proofs.YtipmaepkhmnhjaaDoor
open Go.RowKit
theorem isRowR {k : IntKind} {w w' : World} {a : Option Addr} {len cap : Nat} {zs : List Int} (h : IsRow k w a len cap zs) (hb : Below w.heap.size w w') : IsRow k w' a len cap zs := by
  rcases h with h | ⟨x, e, h1, h2, h3, h4, h5⟩
  · exact .inl h
  · exact .inr ⟨x, e, h1, h2, h3, fun i hi => (hb.cell (p := x.add i) (World.block_lt_of_cell? w _ (h4 i hi))).trans (h4 i hi), h5⟩
abbrev RpIn (c r f t h : Int) : Prop := (0 ≤ c ∧ c ≤ 100000001) ∧ (0 ≤ r ∧ r ≤ 3000) ∧ (0 ≤ f ∧ f ≤ 36524) ∧ (-1 ≤ t ∧ t ≤ 40525) ∧ (-1 ≤ h ∧ h ≤ 501)
/-- A loan drawn. -/
def DRp (w : World) (e : Ending) (w' : World) : Prop :=
  ∃ c r f t h : Int, e = .returned (rpV c r f t h) ∧ RpIn c r f t h ∧ Below w.heap.size w w'
def DRpP (w : World) (e : Ending) (w' : World) : Prop :=
  ∃ c r f t h n : Int, e = .returned (.tuple #[rpV c r f t h, .int .i64 n]) ∧ RpIn c r f t h ∧ (-1 ≤ n ∧ n ≤ 50001) ∧ Below w.heap.size w w'
def DRpQ (w : World) (e : Ending) (w' : World) : Prop :=
  ∃ c r f t h n m : Int, e = .returned (.tuple #[rpV c r f t h, .int .i64 n, .int .i64 m]) ∧ RpIn c r f t h ∧ (-1000000000000 ≤ n ∧ n ≤ 1000000000000) ∧ (-1000000000000 ≤ m ∧ m ≤ 1000000000000) ∧ Below w.heap.size w w'
set_option maxHeartbeats 1000000 in
theorem drawRI_any (w : World) (a : Option Addr) (len cap : Nat) (zs : List Int) (h : IsRow .u8 w a len cap zs) :
    Calls Tryd.prog 26 #[.slice a len cap] w (DRp w) := by
  have hb0 := (Below.refl w.heap.size w).alloc (Nat.le_refl _) (.cells (rpA 0 0 0 0 0) 45)
  have H := Lib.hid (isRowR h hb0); clear h
  have K := (Blk.new w (rpA 0 0 0 0 0) 45)
  go_enter Tryd.func26, Tryd.ntmps26
  go_wp2_with fail
  refine (newReader_any _ _ _ _ _ H.out).mono ?_
  rintro e w1 ⟨g, rfl, hg, hr, hb⟩
  replace K := K.below hb (by simp)
  simp only [World.size_alloc] at hg
  have hne : w.heap.size ≠ g := by omega
  have HB1 := Lib.hid (hb0.trans (hb.mono (by simp)))
  clear hb hb0
  go_wp2_with fail
  refine (anyRepo_any _ _ _ hr (by omega)).mono ?_
  rintro e w2 ⟨c, r, f, t, h, rfl, q0, q1, q2, q3, q4, hr2, hg2⟩
  replace K := K.grown hg2 hne
  have HB2 := Lib.hid (below_grown HB1.out hg2 (by omega))
  clear hg2
  obtain ⟨x0, x1, x2, x3, x4⟩ := K.rp
  obtain ⟨y0, y1, y2, y3, y4⟩ := K.rpFz
  go_wp2_with fail
  obtain ⟨r0, r1, r2, r3, r4⟩ := (K.put5 c r f t h).rp
  refine bodyPost_ret (v := rpV c r f t h) (by simp [results, Tryd.results26, go_sem, r0, r1, r2, r3, r4]) rfl ⟨c, r, f, t, h, rfl, ⟨q0, q1, q2, q3, q4⟩, put5_below HB2.out (by omega) _ _ _ _ _⟩
end Go.Proofs.YtipmaepkhmnhjaaDoor
