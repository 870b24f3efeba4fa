/- Matched and open notes: their values by a name. -/
import Derived.Test.YtmamnljgkkjkcaaMnK
namespace Go.Proofs.Ytmamnljgkkjkcaa
open Go Go.RowKit
def Mn.mval (a b : List Tri) (tol : Int) : List Int := if Mn.okB a b tol = true then Mn.run b tol a else []
def Mn.oval (a b : List Tri) (tol : Int) : List Tri := if Mn.okB a b tol = true then Mn.opn b (Mn.run b tol a) b.length else []
theorem Mn.mval_len (a b : List Tri) (tol : Int) : (Mn.mval a b tol).length ≤ 10 := by
  unfold Mn.mval
  split
  · rename_i h; have := (Mn.okB_ok h).1; rw [Mn.run_len]; omega
  · simp
theorem Mn.oval_len (a b : List Tri) (tol : Int) : (Mn.oval a b tol).length ≤ 10 := by
  unfold Mn.oval
  split
  · rename_i h; have := (Mn.okB_ok h).2.1; have := Mn.opn_len b (Mn.run b tol a) b.length; omega
  · simp
theorem matchE_any (w : World) (va vb : Value) (a b : List Tri) (tol : Int) (ha : R3o w va a) (hb : R3o w vb b) (la : a.length ≤ 9223372036854775807) (lb : b.length ≤ 9223372036854775807) :
    Calls Try.prog 25 #[va, vb, .int .i64 tol] w fun e w' => ∃ v, e = .returned v ∧ IRow w' w.heap.size v (Mn.mval a b tol) ∧ Below w.heap.size w w' := match_any w va vb a b tol ha hb la lb
theorem smatchE_any (w : World) (va vb : Value) (a b : List Tri) (tol : Int) (ha : R3o w va a) (hb : R3o w vb b) (la : a.length ≤ 9223372036854775807) (lb : b.length ≤ 9223372036854775807) :
    Calls Try.prog 27 #[va, vb, .int .i64 tol] w fun e w' => ∃ v, e = .returned v ∧ IRow w' w.heap.size v (Mn.mval a b tol) ∧ Below w.heap.size w w' := smatch_any w va vb a b tol ha hb la lb
theorem openE_any (w : World) (va vb : Value) (a b : List Tri) (tol : Int) (ha : R3o w va a) (hb : R3o w vb b) (la : a.length ≤ 9223372036854775807) (lb : b.length ≤ 9223372036854775807) :
    Calls Try.prog 30 #[va, vb, .int .i64 tol] w fun e w' => ∃ v, e = .returned v ∧ TRow 48 w' w.heap.size v (Mn.oval a b tol) ∧ Below w.heap.size w w' := open_any w va vb a b tol ha hb la lb
theorem sopenE_any (w : World) (va vb : Value) (a b : List Tri) (tol : Int) (ha : R3o w va a) (hb : R3o w vb b) (la : a.length ≤ 9223372036854775807) (lb : b.length ≤ 9223372036854775807) :
    Calls Try.prog 33 #[va, vb, .int .i64 tol] w fun e w' => ∃ v, e = .returned v ∧ TRow 48 w' w.heap.size v (Mn.oval a b tol) ∧ Below w.heap.size w w' := sopen_any w va vb a b tol ha hb la lb
end Go.Proofs.Ytmamnljgkkjkcaa
