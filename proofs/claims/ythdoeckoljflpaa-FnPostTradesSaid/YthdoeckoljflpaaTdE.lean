/- Trades drawn: the draws of chapter 15. -/
import Derived.Test.YthdoeckoljflpaaTdD
namespace Go.Proofs.Ythdoeckoljflpaa
open Go.RowKit
def DT (w : World) (e : Ending) (w' : World) : Prop :=
  ∃ b c ps, e = .returned (.slice (some ⟨b, 0, none⟩) ps.length c) ∧ TRow 73 w' w.heap.size (.slice (some ⟨b, 0, none⟩) ps.length c) ps ∧ ps.length ≤ 17 ∧ (∀ q ∈ ps, TdIn q) ∧ Below w.heap.size w w'
def DTn (w : World) (e : Ending) (w' : World) : Prop :=
  ∃ b c ps n, e = .returned (.tuple #[.slice (some ⟨b, 0, none⟩) ps.length c, .int .i64 n]) ∧ TRow 73 w' w.heap.size (.slice (some ⟨b, 0, none⟩) ps.length c) ps ∧ ps.length ≤ 17 ∧ (∀ q ∈ ps, TdIn q) ∧ (9000 ≤ n ∧ n ≤ 9100) ∧ Below w.heap.size w w'
end Go.Proofs.Ythdoeckoljflpaa
