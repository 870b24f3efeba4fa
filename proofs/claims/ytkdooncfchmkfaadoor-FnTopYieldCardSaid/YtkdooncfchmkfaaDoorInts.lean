/- Structs of numbers, by value: opened and shut. -/
import Derived.Test.YtkdooncfchmkfaaDoorProg
import Derived.ProofKit
import Derived.OpenShut
import Derived.Lib.SmallJoins
import Derived.WideShapes
import Derived.Deep.Fields
namespace Go.Proofs.YtkdooncfchmkfaaDoor
open Go.ChangeShapes Go.WideShapes Go.ChangeAt Go.RowKit Go.Joins Go.Deep
/-- All fields are one cell of one type. -/
def oneType (P : Program) (I : TypeId) (fs : Array Field) : Bool := oneCellFields P fs && fs.toList.all fun f => f.type == I
theorem oneType_at {P : Program} {I : TypeId} {fs : Array Field} (h : oneType P I fs = true) {i : Nat} {f : Field} (hi : fs[i]? = some f) : f.offset = i ∧ P.cellsOf f.type = 1 ∧ f.type = I := by
  unfold oneType at h
  rw [Bool.and_eq_true] at h
  obtain ⟨a, b⟩ := hone_of h.1 i f hi
  have hm : f ∈ fs.toList := by rw [Array.mem_toList_iff]; exact Array.mem_of_getElem? hi
  exact ⟨a, b, by simpa using List.all_eq_true.1 h.2 f hm⟩
abbrev numV : Int → Value := Value.int .i64
section
variable {H : Type} {enc : TypeId × Value → H} {P : Program} {w : World} {base : Nat} {spare : Nat → Bool} {held : Bool}
theorem nums_struct {t I : TypeId} {fs : Array Field} (hs : P.underlying t = some (.struct fs)) (hI : P.underlying I = some (.int .i64)) (h1 : oneType P I fs = true) (hC : P.cellsOf t = fs.size)
    {fuel : Nat} {cs : List Value} {x : DataW H × List MemPlace} (h : DataW.trod enc P w base spare held fuel t cs = some x) :
    ∃ zs : List Int, cs = zs.map numV ∧ zs.length = fs.size ∧ x = (.agg (zs.map fun z => .lit (.int .i64 z)), []) ∧ ∀ z ∈ zs, (Lit.int .i64 z).wf = true := by
  obtain ⟨xs, n, -, rfl, hl, hlen, hf⟩ := DataW.trod_struct hs h
  rw [hC] at hl
  have key : ∀ i, i < fs.size → ∃ z : Int, cs[i]? = some (numV z) ∧ xs[i]? = some (.lit (.int .i64 z), []) ∧ (Lit.int .i64 z).wf = true := by
    intro i hi
    obtain ⟨o, c, ty⟩ := oneType_at h1 (Array.getElem?_eq_getElem hi)
    have hg := hf i fs[i] (Array.getElem?_eq_getElem hi)
    rw [o, c, ty] at hg
    have hx : xs[i]? = some xs[i] := List.getElem?_eq_getElem (by omega)
    rw [hx] at hg
    obtain ⟨z, e1, e2, e3⟩ := DataW.trod_int hI hg
    refine ⟨z, ?_, by rw [hx, e2], e3⟩
    have := congrArg (·[0]?) e1
    simpa [List.getElem?_take, List.getElem?_drop] using this
  refine ⟨(List.range fs.size).map fun i => intOf (cs.getD i (.int .i64 0)), ?_, by simp, ?_, ?_⟩
  · refine List.ext_getElem? fun i => ?_
    rcases Nat.lt_or_ge i fs.size with hi | hi
    · obtain ⟨z, e1, -, -⟩ := key i hi
      rw [e1]
      simp [List.getElem?_map, List.getElem?_range hi, List.getD_eq_getElem?_getD, e1, intOf]
    · rw [List.getElem?_eq_none (by omega), List.getElem?_eq_none (by simp; omega)]
  · refine Prod.ext ?_ ?_
    · refine congrArg DataW.agg (List.ext_getElem? fun i => ?_)
      rcases Nat.lt_or_ge i fs.size with hi | hi
      · obtain ⟨z, e1, e2, -⟩ := key i hi
        simp [List.getElem?_map, e2, List.getElem?_range hi, List.getD_eq_getElem?_getD, e1, intOf]
      · rw [List.getElem?_eq_none (by simp; omega), List.getElem?_eq_none (by simp; omega)]
    · refine List.flatMap_eq_nil_iff.2 fun y hy => ?_
      obtain ⟨i, hi, rfl⟩ := List.mem_iff_getElem.1 hy
      obtain ⟨z, -, e2, -⟩ := key i (by omega)
      rw [List.getElem?_eq_getElem hi] at e2
      rw [Option.some.inj e2]
  · intro z hz
    obtain ⟨i, hi, rfl⟩ := List.mem_map.1 hz
    obtain ⟨z, e1, -, e3⟩ := key i (List.mem_range.1 hi)
    simpa [List.getD_eq_getElem?_getD, e1, intOf] using e3
theorem nums_struct_mk {t I : TypeId} {fs : Array Field} (hs : P.underlying t = some (.struct fs)) (hI : P.underlying I = some (.int .i64)) (h1 : oneType P I fs = true) (hC : P.cellsOf t = fs.size)
    {zs : List Int} (hz : zs.length = fs.size) (hw : ∀ z ∈ zs, (Lit.int .i64 z).wf = true) :
    DataW.trod enc P w base spare held 2 t (zs.map numV) = some (.agg (zs.map fun z => .lit (.int .i64 z)), []) := by
  have hm : fs.toList.mapM (fun f => DataW.trod enc P w base spare held 1 f.type (((zs.map numV).drop f.offset).take (P.cellsOf f.type))) = some (zs.map fun z => ((.lit (.int .i64 z), []) : DataW H × List MemPlace)) := by
    have gen : ∀ (l : List Field) (ys : List Int), l.length = ys.length → (∀ (i : Nat) (f : Field) (z : Int), l[i]? = some f → ys[i]? = some z → DataW.trod enc P w base spare held 1 f.type (((zs.map numV).drop f.offset).take (P.cellsOf f.type)) = some ((.lit (.int .i64 z), []) : DataW H × List MemPlace)) →
        l.mapM (fun f => DataW.trod enc P w base spare held 1 f.type (((zs.map numV).drop f.offset).take (P.cellsOf f.type))) = some (ys.map fun z => ((.lit (.int .i64 z), []) : DataW H × List MemPlace)) := by
      intro l
      induction l with
      | nil => intro ys h _; cases ys with | nil => rfl | cons a b => simp at h
      | cons f l ih =>
        intro ys h hk
        cases ys with
        | nil => simp at h
        | cons z ys =>
          rw [List.mapM_cons, hk 0 f z rfl rfl, ih ys (by simpa using h) (fun i f z a b => hk (i + 1) f z (by simpa using a) (by simpa using b))]
          rfl
    refine gen fs.toList zs (by simp [hz]) fun i f z hf hzi => ?_
    rw [Array.getElem?_toList] at hf
    obtain ⟨o, c, ty⟩ := oneType_at h1 hf
    have hlt : i < zs.length := (List.getElem?_eq_some_iff.1 hzi).1
    have e : ((zs.map numV).drop i).take 1 = [numV z] := by
      rw [← List.map_drop, List.drop_eq_getElem_cons hlt]
      have := (List.getElem?_eq_some_iff.1 hzi).2
      simp [this]
    rw [o, c, ty, e]
    have hzw := hw z (List.mem_of_getElem? hzi)
    simp [DataW.trod, hI, hzw]
  have := trod_struct_mk (enc := enc) (w := w) (base := base) (spare := spare) (held := held) (n := 1) hs (by simp [hC, hz]) hm
  rw [this]
  simp [List.map_map, Function.comp_def]
theorem open_nums {r : Reach} {b0 : Nat} {t I : TypeId} {fs : Array Field} {v : Value} {d : DataW H} {p : List MemPlace} (hs : P.underlying t = some (.struct fs)) (hI : P.underlying I = some (.int .i64)) (h1 : oneType P I fs = true) (hC : P.cellsOf t = fs.size)
    (hv : Value.okWide P w r b0 t v) (h : DataW.Trod enc P w base spare held t v d p) :
    ∃ zs : List Int, v = .agg (zs.map numV).toArray ∧ zs.length = fs.size ∧ d = .agg (zs.map fun z => .lit (.int .i64 z)) ∧ p = [] ∧ ∀ z ∈ zs, (Lit.int .i64 z).wf = true := by
  obtain ⟨cs, rfl, hsz⟩ := okWide_struct hs hv
  obtain ⟨fuel, hf⟩ := h
  obtain ⟨zs, e1, e2, e3, e4⟩ := nums_struct hs hI h1 hC (by simpa [Value.cells] using hf)
  refine ⟨zs, ?_, e2, (Prod.mk.inj e3).1, (Prod.mk.inj e3).2, e4⟩
  rw [← e1]
theorem shut_nums {t I : TypeId} {fs : Array Field} (hs : P.underlying t = some (.struct fs)) (hI : P.underlying I = some (.int .i64)) (h1 : oneType P I fs = true) (hC : P.cellsOf t = fs.size)
    {zs : List Int} (hz : zs.length = fs.size) (hw : ∀ z ∈ zs, (Lit.int .i64 z).wf = true) : DataW.Trod enc P w base spare held t (.agg (zs.map numV).toArray) (.agg (zs.map fun z => .lit (.int .i64 z))) [] :=
  ⟨2, by simpa [Value.cells] using nums_struct_mk (enc := enc) (w := w) (base := base) (spare := spare) (held := held) hs hI h1 hC hz hw⟩
end
theorem list2 {l : List Int} (h : l.length = 2) : ∃ a b, l = [a, b] := by
  match l, h with
  | [a, b], _ => exact ⟨a, b, rfl⟩
theorem list3 {l : List Int} (h : l.length = 3) : ∃ a b c, l = [a, b, c] := by
  match l, h with
  | [a, b, c], _ => exact ⟨a, b, c, rfl⟩
theorem list4 {l : List Int} (h : l.length = 4) : ∃ a b c d, l = [a, b, c, d] := by
  match l, h with
  | [a, b, c, d], _ => exact ⟨a, b, c, d, rfl⟩
theorem list5 {l : List Int} (h : l.length = 5) : ∃ a b c d e, l = [a, b, c, d, e] := by
  match l, h with
  | [a, b, c, d, e], _ => exact ⟨a, b, c, d, e, rfl⟩
end Go.Proofs.YtkdooncfchmkfaaDoor
