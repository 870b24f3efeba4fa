/- A map from pairs of numbers (a struct) to slices. -/
import Derived.Test.YtmamnljgkkjkcaaBtw
import Derived.Maps.OwnSet
import Derived.WideKeyEntry
import Derived.MapKept
import Derived.DeepKeys4
import Derived.WideKeyArgs2
namespace Go.Proofs.Ytmamnljgkkjkcaa
open Go Go.Maps Go.RowKit Go.WideMaps
theorem nkSize : ∃ m, Try.prog.types.size = m + 1 := ⟨Try.prog.types.size - 1, by kernel_rfl⟩
theorem nkLaid : laidOutB Try.prog = true := by kernel_rfl
theorem nkRow : (121 : TypeId) < Try.prog.types.size := of_decide_eq_true (by kernel_rfl)
theorem nkWide : (match Try.prog.underlying 121 with | some (.array _ _) | some (.struct _) => true | _ => false) = true := by kernel_rfl
set_option maxRecDepth 100000 in
theorem nkLawK : KeyLaw Try.prog 121 := deep_law_laid nkLaid (m := 2) (by omega) nkRow (by kernel_rfl) nkWide
theorem nkLaw : Keyed Try.prog 121 := Keyed.of_law nkLawK
theorem nkCells : Try.prog.cellsOf 121 = 2 := by kernel_rfl
theorem nkInt : Try.prog.cellsOf 3 = 1 := by kernel_rfl
theorem nkKey : Try.prog.keyType 121 = true := by kernel_rfl
theorem nkOf {x y : Int} (hx : (Lit.int .i64 x).wf = true) (hy : (Lit.int .i64 y).wf = true) :
    keyOf Try.prog 121 (.agg #[.int .i64 x, .int .i64 y]) = some (.string (keyBytes [.int .i64 x, .int .i64 y])) := by
  have hu := Try.underlying121
  have hi := Try.underlying3
  obtain ⟨m, hm⟩ := nkSize
  unfold keyOf
  simp only [hu]
  rw [if_pos (by simp [nkKey, Value.formed, hu, nkCells]), hm]
  unfold Program.keyLits
  simp only [hu, Value.cells]
  rw [if_pos ⟨by rw [nkCells]; rfl, by simp⟩]
  simp [List.mapM_cons, Program.keyLits, hi, hx, hy, nkInt]
theorem nkOne {x y u v : Int} (hx : (Lit.int .i64 x).wf = true) (hy : (Lit.int .i64 y).wf = true) (hu : (Lit.int .i64 u).wf = true) (hv : (Lit.int .i64 v).wf = true) (h : keyBytes [.int .i64 x, .int .i64 y] = keyBytes [.int .i64 u, .int .i64 v]) : x = u ∧ y = v := by
  have h1 := nkOf hx hy
  rw [h] at h1
  have h2 := nkLaw.inj h1 (nkOf hu hv)
  simpa using h2
/-- A slice as data: its block, length and capacity. -/
def sEnc : Value → Option (DataW Unit × List MemPlace)
  | .slice none 0 0 => some (.agg [], [])
  | .slice (some ⟨b, 0, none⟩) l c => some (.agg [.lit (.int .i64 b), .lit (.int .i64 l), .lit (.int .i64 c)], [])
  | _ => none
theorem sEnc_nil : sEnc (.slice none 0 0) = some (.agg [], []) := rfl
theorem sEnc_some (b l c : Nat) : sEnc (.slice (some ⟨b, 0, none⟩) l c) = some (.agg [.lit (.int .i64 b), .lit (.int .i64 l), .lit (.int .i64 c)], []) := rfl
/-- A slice that a map may have: nil, or one at the beginning of a block. -/
def IsSl (v : Value) : Prop := v = .slice none 0 0 ∨ ∃ b l c : Nat, v = .slice (some ⟨b, 0, none⟩) l c
theorem sEnc_inj {v u : Value} {d : DataW Unit} {p q : List MemPlace} (hu : IsSl u) (h1 : sEnc v = some (d, p)) (h2 : sEnc u = some (d, q)) : v = u := by
  have hv : IsSl v := by
    unfold sEnc at h1
    split at h1
    · exact .inl rfl
    · exact .inr ⟨_, _, _, rfl⟩
    · cases h1
  rcases hv with rfl | ⟨b, l, c, rfl⟩ <;> rcases hu with rfl | ⟨b', l', c', rfl⟩
  · rfl
  · rw [sEnc_nil] at h1; rw [sEnc_some] at h2
    simp only [Option.some.injEq, Prod.mk.injEq] at h1 h2
    have := h1.1.trans h2.1.symm
    simp at this
  · rw [sEnc_some] at h1; rw [sEnc_nil] at h2
    simp only [Option.some.injEq, Prod.mk.injEq] at h1 h2
    have := h1.1.trans h2.1.symm
    simp at this
  · rw [sEnc_some] at h1 h2
    simp only [Option.some.injEq, Prod.mk.injEq] at h1 h2
    have := h1.1.trans h2.1.symm
    simp at this
    obtain ⟨e1, e2, e3⟩ := this
    rw [show b = b' by omega, show l = l' by omega, show c = c' by omega]
/-- Block b of w is a map that says f at every pair (nil where nothing was put). -/
def IsMs (w : World) (b n : Nat) (f : Int → Int → Value) : Prop :=
  ∃ D : DataW Unit, w.ownsMap Try.prog 121 sEnc b n D ∧ ∀ x y : Int, (Lit.int .i64 x).wf = true → (Lit.int .i64 y).wf = true → IsSl (f x y) ∧ sEnc (f x y) = some (D.atKey (.string (keyBytes [.int .i64 x, .int .i64 y])) (.agg []), [])
theorem isMs_made (w : World) : IsMs (w.alloc (.map #[] 0)) w.heap.size 0 fun _ _ => .slice none 0 0 :=
  ⟨.map [], World.ownsMap_made w _ _ _, fun x y _ _ => ⟨.inl rfl, by simp [DataW.atKey, sEnc]⟩⟩
theorem IsMs.lt {w : World} {b n : Nat} {f : Int → Int → Value} (h : IsMs w b n f) : b < w.heap.size := by
  obtain ⟨D, h1, _⟩ := h; exact h1.lt
theorem IsMs.of_block {w w' : World} {b n : Nat} {f : Int → Int → Value} (h : IsMs w b n f) (hb : w'.heap[b]? = w.heap[b]?) : IsMs w' b n f := by
  obtain ⟨D, ⟨es, cl, h1, h2⟩, h3⟩ := h
  exact ⟨D, ⟨es, cl, hb.trans h1, h2⟩, h3⟩
theorem IsMs.below {w w' : World} {b n B : Nat} {f : Int → Int → Value} (h : IsMs w b n f) (hb : Below B w w') (hB : b < B) : IsMs w' b n f := h.of_block (hb.block b hB)
theorem IsMs.sl {w : World} {b n : Nat} {f : Int → Int → Value} (h : IsMs w b n f) (x y : Int) (hx : (Lit.int .i64 x).wf = true) (hy : (Lit.int .i64 y).wf = true) : IsSl (f x y) := by
  obtain ⟨D, -, h2⟩ := h; exact (h2 x y hx hy).1
theorem IsMs.look {w : World} {e t : TypeId} {b n : Nat} {f : Int → Int → Value} (h : IsMs w b n f) (ht : Try.prog.underlying t = some (.map 121 e))
    (hz : (zeroValue e).run Try.prog w = .ok (.slice none 0 0) w) (x y : Int) (hx : (Lit.int .i64 x).wf = true) (hy : (Lit.int .i64 y).wf = true) : (Instr.lookup t (.map (some b)) (.agg #[.int .i64 x, .int .i64 y]) false).run Try.prog w = .ok (f x y) w := by
  obtain ⟨D, h1, h2⟩ := h
  obtain ⟨v, ps, hrun, hv⟩ := h1.lookup nkLaw ht hz sEnc_nil (nkOf hx hy)
  obtain ⟨h3, h4⟩ := h2 x y hx hy
  rw [hrun, sEnc_inj h3 hv h4]
theorem IsMs.put {w : World} {e t : TypeId} {b n : Nat} {f : Int → Int → Value} (h : IsMs w b n f) (ht : Try.prog.underlying t = some (.map 121 e))
    (hn : n < maxLen) (x y : Int) (z : Value) (hx : (Lit.int .i64 x).wf = true) (hy : (Lit.int .i64 y).wf = true) (hz : IsSl z) :
    ∃ w', (Instr.mapUpdate t (.map (some b)) (.agg #[.int .i64 x, .int .i64 y]) z).run Try.prog w = .ok () w' ∧ IsMs w' b (n + 1) (fun u v => if u = x ∧ v = y then z else f u v) ∧ w.grownBy w' (some b) := by
  obtain ⟨D, h1, h2⟩ := h
  obtain ⟨d, hd⟩ : ∃ d, sEnc z = some (d, []) := by
    rcases hz with rfl | ⟨b', l, c, rfl⟩
    · exact ⟨_, sEnc_nil⟩
    · exact ⟨_, sEnc_some b' l c⟩
  obtain ⟨w', hrun, hown, hg⟩ := h1.update nkLaw ht hn (nkOf hx hy) hd
  refine ⟨w', hrun, ⟨_, hown, fun u v hu hv => ?_⟩, hg⟩
  by_cases c : u = x ∧ v = y
  · obtain ⟨rfl, rfl⟩ := c
    rw [atKey_put_same h1.isMap (by simp [WideAt.IsKeyLit])]
    simp only [and_self, if_true]
    exact ⟨hz, hd⟩
  · rw [atKey_put_other (fun k => c (nkOne hu hv hx hy (by simpa using k)))]
    simp only [if_neg c]
    exact h2 u v hu hv
theorem wpList_lookup_ms (w : World) {ops : Array Oper} {rest : List Oper} {o : Oper} {a : Act} {Q : Exit → Act → World → Prop}
    (hg : o.guard = none) (m x : Operand) (t : TypeId) (hop : o.op = Op.lookup t m x false)
    (e : TypeId) (ht : Try.prog.underlying t = some (.map 121 e)) (hz : (zeroValue e).run Try.prog w = .ok (.slice none 0 0) w) (b n : Nat) (f : Int → Int → Value)
    (hm : a.eval m = .map (some b)) (hs : IsMs w b n f) (y z : Int) (hx : a.eval x = .agg #[.int .i64 y, .int .i64 z]) (hy : (Lit.int .i64 y).wf = true) (hz' : (Lit.int .i64 z).wf = true)
    (hK : wpList Try.prog ops Q rest (a.put o.dst (f y z)) w) :
    wpList Try.prog ops Q (o :: rest) a w := by
  refine wpList_plain hg fun K' hK' => ?_
  have hrun := hs.look ht hz y z hy hz'
  unfold Oper.wp
  simp [execOp, hop, hm, hx, hrun, Result.andThen]
  exact hK' _ _ hK
theorem wpList_mapUpdate_ms (w : World) {ops : Array Oper} {rest : List Oper} {o : Oper} {a : Act} {Q : Exit → Act → World → Prop}
    (hg : o.guard = none) (m x v : Operand) (t : TypeId) (hop : o.op = Op.mapUpdate t m x v)
    (e : TypeId) (ht : Try.prog.underlying t = some (.map 121 e)) (b n : Nat) (f : Int → Int → Value)
    (hm : a.eval m = .map (some b)) (hs : IsMs w b n f) (hn : n < maxLen) (y z : Int) (u : Value) (hx : a.eval x = .agg #[.int .i64 y, .int .i64 z]) (hv : a.eval v = u) (hy : (Lit.int .i64 y).wf = true) (hz : (Lit.int .i64 z).wf = true) (hu : IsSl u)
    (hK : ∀ w', IsMs w' b (n + 1) (fun p q => if p = y ∧ q = z then u else f p q) → w.grownBy w' (some b) → wpList Try.prog ops Q rest (a.put o.dst undef) w') :
    wpList Try.prog ops Q (o :: rest) a w := by
  refine wpList_plain hg fun K' hK' => ?_
  obtain ⟨w', hrun, r1, r2⟩ := hs.put ht hn y z u hy hz hu
  unfold Oper.wp
  simp [execOp, hop, hm, hx, hv, hrun, Result.andThen]
  exact hK' _ _ (hK w' r1 r2)
end Go.Proofs.Ytmamnljgkkjkcaa
