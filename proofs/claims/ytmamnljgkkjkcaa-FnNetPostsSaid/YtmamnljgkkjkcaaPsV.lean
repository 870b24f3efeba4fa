/- Which postings are valid, in the program. -/
import Derived.Test.YtmamnljgkkjkcaaAvPost
namespace Go.Proofs.Ytmamnljgkkjkcaa
open Go.RowKit
set_option maxHeartbeats 400000 in
theorem vposts_any (w : World) (v : Value) (ps : List Tri) (hv : R3o w v ps) (hm : ps.length ≤ 9223372036854775807) :
    Calls Try.prog 18 #[v] w fun x w' => x = .returned (.bool (Ps.ok ps)) ∧ Below w.heap.size w w' := by
  have HX := Lib.hid (av_Post w v ps 0 40 hv hm)
  have E := Lib.hid (show Ps.ok ps = (btw ps.length 0 40 && ps.all Ps.one) by
    unfold Ps.ok
    congr 1
    by_cases h : ps.length ≤ 40
    · rw [decide_eq_true h, btw_t (by omega) (by omega)]
    · rw [decide_eq_false h, btw_f (.inr (by omega))])
  obtain ⟨⟨a, c, rfl⟩, h1⟩ := hv
  clear h1
  go_enter Try.func18, Try.ntmps18
  go_wp2_with fail
  refine HX.out.mono ?_
  rintro e w1 ⟨rfl, hb⟩
  go_wp2_with fail
  go_ret
  exact ⟨ret_bool E.out.symm, hb⟩
end Go.Proofs.Ytmamnljgkkjkcaa
