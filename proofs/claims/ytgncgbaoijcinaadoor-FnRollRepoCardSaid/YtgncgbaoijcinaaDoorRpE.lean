/- The arguments of loans' laws, drawn. -/
import Derived.Test.YtgncgbaoijcinaaDoorRpD
namespace Go.Proofs.YtgncgbaoijcinaaDoor
open Go.RowKit
theorem isRowR {k : IntKind} {w w' : World} {a : Option Addr} {len cap : Nat} {zs : List Int} (h : IsRow k w a len cap zs) (hb : Below w.heap.size w w') : IsRow k w' a len cap zs := by
  rcases h with h | ⟨x, e, h1, h2, h3, h4, h5⟩
  · exact .inl h
  · exact .inr ⟨x, e, h1, h2, h3, fun i hi => (hb.cell (p := x.add i) (World.block_lt_of_cell? w _ (h4 i hi))).trans (h4 i hi), h5⟩
abbrev RpIn (c r f t h : Int) : Prop := (0 ≤ c ∧ c ≤ 100000001) ∧ (0 ≤ r ∧ r ≤ 3000) ∧ (0 ≤ f ∧ f ≤ 36524) ∧ (-1 ≤ t ∧ t ≤ 40525) ∧ (-1 ≤ h ∧ h ≤ 501)
/-- A loan drawn. -/
def DRp (w : World) (e : Ending) (w' : World) : Prop :=
  ∃ c r f t h : Int, e = .returned (rpV c r f t h) ∧ RpIn c r f t h ∧ Below w.heap.size w w'
def DRpP (w : World) (e : Ending) (w' : World) : Prop :=
  ∃ c r f t h n : Int, e = .returned (.tuple #[rpV c r f t h, .int .i64 n]) ∧ RpIn c r f t h ∧ (-1 ≤ n ∧ n ≤ 50001) ∧ Below w.heap.size w w'
def DRpQ (w : World) (e : Ending) (w' : World) : Prop :=
  ∃ c r f t h n m : Int, e = .returned (.tuple #[rpV c r f t h, .int .i64 n, .int .i64 m]) ∧ RpIn c r f t h ∧ (-1000000000000 ≤ n ∧ n ≤ 1000000000000) ∧ (-1000000000000 ≤ m ∧ m ≤ 1000000000000) ∧ Below w.heap.size w w'
end Go.Proofs.YtgncgbaoijcinaaDoor
