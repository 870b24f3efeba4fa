/- The walks of the program's ranges: what they share. -/
import Derived.Test.YtkdooncfchmkfaaDoorRg
import Derived.Test.YtkdooncfchmkfaaDoorDrawB
import Derived.Test.YtkdooncfchmkfaaDoorSpec
import Derived.Test.YtkdooncfchmkfaaDoorZA
import Derived.Test.YtkdooncfchmkfaaDoorChecked
import Derived.WalkKit
import Derived.WalkSpells
import Derived.WalkLawsBesides
import Derived.Lib.Hide
import Derived.Below
import Derived.Deep.QuietTactic
import Derived.BigQuiet
import Derived.IntWalk
import Derived.LaidEql
namespace Go.Proofs.YtkdooncfchmkfaaDoor
open Go.RowKit Go.Extern Go.Extern.Rtype
theorem Blk.drew {w : World} {b : Nat} {t : TypeId} {cs : Array Value} (h : Blk w b t cs) : Blk w.drew b t cs := h
abbrev rV (p q : Int) : Value := .agg #[.int .i64 p, .int .i64 q]
abbrev tv (r : Rg.R) : Value := .tuple #[rV r.1 r.2.1, .bool r.2.2]
abbrev erV (a : Addr) : Value := .iface 130 (.pointer (some a))
abbrev te (a : Addr) (r : Rg.R) : Value := .tuple #[rV r.1 r.2.1, if r.2.2 = true then .nilIface else erV a]
/-- The error's variable. -/
def Sen (a : Addr) (w : World) : Prop := w.cell? ⟨0, 0, none⟩ = some (erV a)
theorem Sen.pos {a : Addr} {w : World} (h : Sen a w) : 0 < w.heap.size := by
  rcases Nat.lt_or_ge 0 w.heap.size with hlt | hge
  · exact hlt
  · unfold Sen at h; simp [World.cell?, Array.getElem?_eq_none hge] at h
theorem Sen.below {a : Addr} {w w' : World} {B : Nat} (h : Sen a w) (hb : Below B w w') (hB : 0 < B) : Sen a w' := by
  have := hb.block 0 hB
  unfold Sen at *
  simpa [World.cell?, this] using h
theorem Sen.drew {a : Addr} {w : World} (h : Sen a w) : Sen a w.drew := h
theorem Sen.alloc {a : Addr} {w : World} (h : Sen a w) (o : Obj) : Sen a (w.alloc o) := h.below ((Below.refl w.heap.size w).alloc (Nat.le_refl _) o) h.pos
theorem Sen.cell {a : Addr} {w : World} (h : Sen a w) : w.cell? ⟨0, 0, none⟩ = some (erV a) := h
theorem isTypeOf (v : Value) (w : World) : (Extern.ReflectliteType.typeOf #[.iface 130 v]).run Tryd.prog w = .ok (.iface 118 (.agg #[.pointer (some ⟨2, 130, none⟩)])) w := by kernel_rfl
abbrev cmpF : Array Value → Sem Value := Extern.ReflectliteType.method fun t => do noPackHeld "Comparable" t; pure (.bool (← typeInfo t).comparable)
theorem isComparable (w : World) : (cmpF #[.agg #[.pointer (some ⟨2, 130, none⟩)]]).run Tryd.prog w = .ok (.bool true) w := by kernel_rfl
theorem callComp (w : World) : (callFunc 133 #[.agg #[.pointer (some ⟨2, 130, none⟩)]]).run Tryd.prog w = .ok (.value (.bool true)) w := by
  rw [@run_callFunc_extern Tryd.prog 133 _ cmpF Tryd.func133 (by kernel_rfl) (by kernel_rfl) (by kernel_rfl) (by kernel_rfl), isComparable]
  rfl
theorem isMethod (v : Value) (w : World) : (Go.method 267 118 v "Comparable").run Tryd.prog w = .ok (133, v) w := by kernel_rfl
theorem isComp : (Tryd.prog.info? 130).map (·.comparable) = some true := by kernel_rfl
theorem isSize : (Tryd.prog.info? 155).map (·.size) = some 1 := by kernel_rfl
set_option maxRecDepth 4000 in
theorem is_same (a : Addr) (w : World) :
    Calls Tryd.prog 94 #[erV a, erV a] w fun e w' => e = .returned (.bool true) ∧ w' = w := by
  obtain ⟨i, hi, hcmp⟩ := Option.map_eq_some_iff.1 isComp
  obtain ⟨j, hj, hjs⟩ := Option.map_eq_some_iff.1 isSize
  have h8 := @run_callFunc_extern Tryd.prog 102 _ Extern.ReflectliteType.typeOf Tryd.func102 (by kernel_rfl) (by kernel_rfl) (by kernel_rfl) (by kernel_rfl)
  have h32 := callComp
  have tT := isTypeOf
  have mR := isMethod
  have heq := run_eql_iface_ptr_same (P := Tryd.prog) w a Tryd.underlying95 Tryd.underlying130 hi hcmp hj
  go_enter Tryd.func94, Tryd.ntmps94
  go_wp2
  refine wp_loop_rounds 1 ?_
  rw [rounds_succ]
  go_wp2
  go_ret
  exact ⟨rfl, rfl⟩
theorem is_nil (b : Addr) (w : World) :
    Calls Tryd.prog 94 #[.nilIface, erV b] w fun e w' => e = .returned (.bool false) ∧ w' = w := by
  have hn := run_eql_iface_nil_left (P := Tryd.prog) w 130 (.pointer (some b)) Tryd.underlying95
  go_enter Tryd.func94, Tryd.ntmps94
  go_wp2
  go_ret
  exact ⟨rfl, rfl⟩
end Go.Proofs.YtkdooncfchmkfaaDoor
