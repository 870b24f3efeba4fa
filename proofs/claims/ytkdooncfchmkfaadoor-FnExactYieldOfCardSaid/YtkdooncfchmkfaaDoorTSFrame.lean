/- What the rows' proofs share: the months' table and the error's variable as the rows list them. -/
import Derived.Test.YtkdooncfchmkfaaDoorSpec2
import Derived.Test.YtkdooncfchmkfaaDoorRgw
import Derived.Stop.LaidErr
import Derived.OpenVars
import Derived.Test.YtkdooncfchmkfaaDoorCards
import Derived.Test.YtkdooncfchmkfaaDoorTie
import Derived.ProofKit
import Derived.OpenShut
import Derived.LaidMore
import Derived.ChangeVars
import Derived.WalkSmall
import Derived.SevenTiedAt
import Derived.MakeChecks
import Derived.Lib.SmallJoins
import Derived.ChangeOld
namespace Go.Proofs.YtkdooncfchmkfaaDoor
open Go.ChangeShapes Go.WideShapes Go.ChangeAt Go.RowKit
theorem own : ownKnob Tryd.prog.godebug = none := by kernel_rfl
theorem laidOut : laidOutB Tryd.prog = true := by kernel_rfl
abbrev laidL : List (String × DataW Unit) := [("loop.example/bonddesk/impl.monthStart", Rows.laid_loop_example_bonddesk_impl_monthStart), ("loop.example/bonddesk/impl.errRange", Rows.laid_loop_example_bonddesk_impl_errRange)]
theorem gTab : Tryd.prog.globalNamed "loop.example/bonddesk/impl.monthStart" = some 1 := by kernel_rfl
theorem tTab : (Tryd.prog.globals[1]?).map (·.type) = some 129 := by kernel_rfl
def cells13 : Array Value := #[.int .i64 0, .int .i64 31, .int .i64 59, .int .i64 90, .int .i64 120, .int .i64 151, .int .i64 181, .int .i64 212, .int .i64 243, .int .i64 273, .int .i64 304, .int .i64 334, .int .i64 365]
abbrev tabD {H : Type} : DataW H := .agg [.lit (.int .i64 0), .lit (.int .i64 31), .lit (.int .i64 59), .lit (.int .i64 90), .lit (.int .i64 120), .lit (.int .i64 151), .lit (.int .i64 181), .lit (.int .i64 212), .lit (.int .i64 243), .lit (.int .i64 273), .lit (.int .i64 304), .lit (.int .i64 334), .lit (.int .i64 365)]
theorem cellsInt : Tryd.prog.cellsOf 3 = 1 := by kernel_rfl
theorem cellsTab : Tryd.prog.cellsOf 129 = 13 := by kernel_rfl
/-- A list of integers' cells, read one by one. -/
theorem ints_read {H : Type} {enc : TypeId × Value → H} {W : World} {sp : Nat → Bool} {held : Bool} {m : Nat} : ∀ (l : List Value) (xs : List (DataW H × List MemPlace)) (ns : List Int), l.length = ns.length → xs.length = ns.length →
    (∀ i, i < ns.length → DataW.trod enc Tryd.prog W 0 sp held m 3 ((l.drop i).take 1) = xs[i]?) → xs.map (·.1) = ns.map (fun n => .lit (.int .i64 n)) → l = ns.map (Value.int .i64)
  | [], xs, ns, h1, _, _, _ => by cases ns with | nil => rfl | cons a b => simp at h1
  | c :: l, xs, [], h1, _, _, _ => by simp at h1
  | c :: l, [], n :: ns, _, h2, _, _ => by simp at h2
  | c :: l, x :: xs, n :: ns, h1, h2, h3, h4 => by
    have h0 := h3 0 (by simp)
    obtain ⟨k, e1, e2, _⟩ := DataW.trod_int Tryd.underlying3 (show DataW.trod enc Tryd.prog W 0 sp held m 3 [c] = some x from by simpa using h0)
    simp only [List.map_cons, List.cons.injEq] at h4
    rw [e2] at h4
    obtain ⟨h5, h6⟩ := h4
    simp at h5 e1
    subst h5
    rw [e1, List.map_cons]
    congr 1
    exact ints_read l xs ns (by simpa using h1) (by simpa using h2) (fun i hi => by have := h3 (i + 1) (by simpa using hi); simpa using this) h6
theorem cells_of_laid {W : World} (h : laidMetH Tryd.prog laidL W) : W.var? Tryd.prog "loop.example/bonddesk/impl.monthStart" = some cells13 := by
  rw [MakeChecks.laidMetH_plain _ _ _ (by kernel_rfl)] at h
  obtain ⟨ps, ⟨g0, t0, cs0, f0, p0, q0, hg0, ht0, hv0, hd0, _, _⟩, _⟩ := h
  obtain rfl := Option.some.inj (gTab.symm.trans hg0)
  obtain rfl := Option.some.inj (tTab.symm.trans ht0)
  rw [hv0]
  congr 1
  obtain ⟨xs, m1, rfl, hx1, hlen, hn3, hel⟩ := DataW.trod_array Tryd.underlying129 hd0
  simp only [cellsInt, Nat.mul_one] at hel
  simp only [Prod.mk.injEq, Rows.laid_loop_example_bonddesk_impl_monthStart, DataW.agg.injEq] at hx1
  have := ints_read (W := W) cs0.toList xs [0, 31, 59, 90, 120, 151, 181, 212, 243, 273, 304, 334, 365] (by rw [hlen, cellsTab]; rfl) (by rw [hn3]; rfl) hel (by rw [← hx1.1]; rfl)
  exact Array.toList_inj.1 this
theorem door_met (os : Os) (args : Array Value) : laidMetH Tryd.prog laidL ((World.doorLaid Tryd.prog 400 os).forCall (fun _ _ => 0) ⟨#[], args, []⟩).memory :=
  laidMetH_of_parts3 (fuel := 8) (laidMet_of_run' 8 (by kernel_rfl) (by kernel_rfl)) (by kernel_rfl) (by kernel_rfl)
theorem reads_tab {H : Type} (enc : TypeId × Value → H) (W : World) (sp : Nat → Bool) : DataW.trod enc Tryd.prog W 0 sp true 3 129 cells13.toList = some (tabD, []) := by kernel_rfl
theorem tab_of {W : World} (h : W.var? Tryd.prog "loop.example/bonddesk/impl.monthStart" = some cells13) : Tab W := fun i hi => by
  rw [World.var?_cell gTab h i]
  rcases (show i = 0 ∨ i = 1 ∨ i = 2 ∨ i = 3 ∨ i = 4 ∨ i = 5 ∨ i = 6 ∨ i = 7 ∨ i = 8 ∨ i = 9 ∨ i = 10 ∨ i = 11 ∨ i = 12 by omega) with rfl | rfl | rfl | rfl | rfl | rfl | rfl | rfl | rfl | rfl | rfl | rfl | rfl <;> rfl
theorem gErr : Tryd.prog.globalNamed "loop.example/bonddesk/impl.errRange" = some 0 := by kernel_rfl
theorem tErr : (Tryd.prog.globals[0]?).map (·.type) = some 95 := by kernel_rfl
theorem starErr : "*" ++ "errors.errorString" = "*errors.errorString" := by decide
theorem rowErr (u : TypeId) (h : Tryd.prog.typeName? 3 u = some "*errors.errorString") : u = 130 :=
  typeName_ptr_named (nm := "errors.errorString") (by rw [starErr]; kernel_rfl) (by kernel_rfl) (by decide) u (by rw [starErr]; exact h)
theorem sen_of_laid {W : World} (h : laidMetH Tryd.prog laidL W) : ∃ a, Sen a W := by
  rw [MakeChecks.laidMetH_plain _ _ _ (by kernel_rfl)] at h
  obtain ⟨a, s, hv, -, -, -⟩ := laid_sentinel h.tail gErr tErr Tryd.underlying95 rowErr Tryd.underlying130 Tryd.underlying155 rfl rfl Tryd.underlying9 (by kernel_rfl) (by kernel_rfl)
  exact ⟨a, by have := World.var?_cell gErr hv 0; simpa [Sen] using this⟩
end Go.Proofs.YtkdooncfchmkfaaDoor
