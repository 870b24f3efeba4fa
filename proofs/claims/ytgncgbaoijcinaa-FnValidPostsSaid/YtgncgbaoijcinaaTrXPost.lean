/- Slices of Posts in the exact laws: copied, counted, compared. -/
import Derived.Test.YtgncgbaoijcinaaTr
import Derived.Test.YtgncgbaoijcinaaKp
import Derived.StillTailTactics
namespace Go.Proofs.Ytgncgbaoijcinaa
open Go.RowKit
theorem stillTPost {P : Program} {id : Nat} {Q : Exit → Act → World → Prop} {a : Act} {w : World} {l : List Oper} (n : Nat) (hm : P.follows .mixedOrders = true) (hB : Region.lexTailB .any l.toArray n = true)
    (h : wpStill P l.toArray w.drew (fun a' => wpList P l.toArray Q (l.drop n) a' w.drew) (l.take n) a) : (Code.region id l.toArray true).wp P Q a w := wp_region_still_tail n hm hB h
theorem infoPost : (Try.prog.info? 27).map (fun i => (i.zero, i.size, i.bytes)) = some (some (.agg #[.int .i64 0, .int .i64 0, .int .i64 0]), 3, 24) := by kernel_rfl
theorem infoPartsPost : ∃ i : TypeInfo, Try.prog.info? 27 = some i ∧ i.zero = some (.agg #[.int .i64 0, .int .i64 0, .int .i64 0]) ∧ i.size = 3 ∧ i.bytes = 24 := by
  have h := infoPost
  cases e : Try.prog.info? 27 with
  | none => rw [e] at h; cases h
  | some i =>
    rw [e] at h
    simp only [Option.map_some, Option.some.injEq, Prod.mk.injEq] at h
    exact ⟨i, rfl, h.1, h.2.1, h.2.2⟩
/-- A copy in memory of the call's own. -/
def CopyPost (ps : List Tri) (w : World) (e : Ending) (w' : World) : Prop := ∃ v, e = .returned v ∧ TRow 27 w' w.heap.size v ps ∧ (∃ b, v = .slice (some ⟨b, 0, none⟩) ps.length ps.length) ∧ Below w.heap.size w w'
end Go.Proofs.Ytgncgbaoijcinaa
