/- A map from numbers to numbers. -/
import Derived.Maps.OwnSet
import Derived.Below
namespace Go.Proofs.Ytmamnljgkkjkcaa
open Go Go.Maps Go.RowKit
/-- Block b of w is a map that says f at every number (0 where nothing was put). -/
def IsMp (w : World) (P : Program) (k e : TypeId) (b n : Nat) (f : Int → Int) : Prop :=
  ∃ D : DataW Unit, w.ownsMap P k (plainElem P e) b n D ∧ ∀ x : Int, D.atKey (.int .i64 x) (.lit (.int .i64 0)) = .lit (.int .i64 (f x))
theorem isMp_made (w : World) (P : Program) (k e : TypeId) : IsMp (w.alloc (.map #[] 0)) P k e w.heap.size 0 fun _ => 0 :=
  ⟨.map [], World.ownsMap_made w P k _, fun x => by simp [DataW.atKey]⟩
theorem IsMp.lt {w : World} {P : Program} {k e : TypeId} {b n : Nat} {f : Int → Int} (h : IsMp w P k e b n f) : b < w.heap.size := by
  obtain ⟨D, h1, _⟩ := h; exact h1.lt
theorem IsMp.of_block {w w' : World} {P : Program} {k e : TypeId} {b n : Nat} {f : Int → Int} (h : IsMp w P k e b n f) (hb : w'.heap[b]? = w.heap[b]?) : IsMp w' P k e b n f := by
  obtain ⟨D, ⟨es, cl, h1, h2⟩, h3⟩ := h
  exact ⟨D, ⟨es, cl, hb.trans h1, h2⟩, h3⟩
theorem IsMp.below {w w' : World} {P : Program} {k e : TypeId} {b n B : Nat} {f : Int → Int} (h : IsMp w P k e b n f) (hb : Below B w w') (hB : b < B) : IsMp w' P k e b n f := h.of_block (hb.block b hB)
theorem IsMp.look {w : World} {P : Program} {k e t : TypeId} {b n : Nat} {f : Int → Int} (h : IsMp w P k e b n f) (hk : P.underlying k = some (.int .i64)) (ht : P.underlying t = some (.map k e)) (he : P.underlying e = some (.int .i64))
    (hz : (zeroValue e).run P w = .ok (.int .i64 0) w) (x : Int) (hx : (Lit.int .i64 x).wf = true) : (Instr.lookup t (.map (some b)) (.int .i64 x) false).run P w = .ok (.int .i64 (f x)) w := by
  obtain ⟨D, h1, h2⟩ := h
  obtain ⟨v, ps, hrun, hv⟩ := h1.lookup (int_keyed hk) ht hz (plainElem_int he (by decide)) (keyOf_int_mk hk hx)
  rw [h2 x] at hv
  unfold plainElem at hv
  rw [he] at hv
  cases v <;> simp at hv
  obtain ⟨⟨rfl, -⟩, rfl, -⟩ := hv
  rw [hrun]
theorem IsMp.put {w : World} {P : Program} {k e t : TypeId} {b n : Nat} {f : Int → Int} (h : IsMp w P k e b n f) (hk : P.underlying k = some (.int .i64)) (ht : P.underlying t = some (.map k e)) (he : P.underlying e = some (.int .i64))
    (hn : n < maxLen) (x y : Int) (hx : (Lit.int .i64 x).wf = true) (hy : (Lit.int .i64 y).wf = true) : ∃ w', (Instr.mapUpdate t (.map (some b)) (.int .i64 x) (.int .i64 y)).run P w = .ok () w' ∧ IsMp w' P k e b (n + 1) (fun u => if u = x then y else f u) ∧ w.grownBy w' (some b) := by
  obtain ⟨D, h1, h2⟩ := h
  obtain ⟨w', hrun, hown, hg⟩ := h1.update (int_keyed hk) ht hn (keyOf_int_mk hk hx) (plainElem_int he hy)
  refine ⟨w', hrun, ⟨_, hown, fun u => ?_⟩, hg⟩
  by_cases hu : u = x
  · subst hu
    rw [atKey_put_same h1.isMap (by simp [WideAt.IsKeyLit])]
    simp
  · rw [atKey_put_other (by simpa using hu), h2 u]
    simp [hu]
theorem wpList_lookup_mp {P : Program} (w : World) {ops : Array Oper} {rest : List Oper} {o : Oper} {a : Act} {Q : Exit → Act → World → Prop}
    (hg : o.guard = none) (m x : Operand) (t : TypeId) (hop : o.op = Op.lookup t m x false)
    (k e : TypeId) (hk : P.underlying k = some (.int .i64)) (ht : P.underlying t = some (.map k e)) (he : P.underlying e = some (.int .i64)) (hz : (zeroValue e).run P w = .ok (.int .i64 0) w) (b n : Nat) (f : Int → Int)
    (hm : a.eval m = .map (some b)) (hs : IsMp w P k e b n f) (y : Int) (hx : a.eval x = .int .i64 y) (hy : (Lit.int .i64 y).wf = true)
    (hK : wpList P ops Q rest (a.put o.dst (.int .i64 (f y))) w) :
    wpList P ops Q (o :: rest) a w := by
  refine wpList_plain hg fun K' hK' => ?_
  have hrun := hs.look hk ht he hz y hy
  unfold Oper.wp
  simp [execOp, hop, hm, hx, hrun, Result.andThen]
  exact hK' _ _ hK
theorem wpList_mapUpdate_mp {P : Program} (w : World) {ops : Array Oper} {rest : List Oper} {o : Oper} {a : Act} {Q : Exit → Act → World → Prop}
    (hg : o.guard = none) (m x v : Operand) (t : TypeId) (hop : o.op = Op.mapUpdate t m x v)
    (k e : TypeId) (hk : P.underlying k = some (.int .i64)) (ht : P.underlying t = some (.map k e)) (he : P.underlying e = some (.int .i64)) (b n : Nat) (f : Int → Int)
    (hm : a.eval m = .map (some b)) (hs : IsMp w P k e b n f) (hn : n < maxLen) (y z : Int) (hx : a.eval x = .int .i64 y) (hv : a.eval v = .int .i64 z) (hy : (Lit.int .i64 y).wf = true) (hzw : (Lit.int .i64 z).wf = true)
    (hK : ∀ w', IsMp w' P k e b (n + 1) (fun u => if u = y then z else f u) → w.grownBy w' (some b) → wpList P ops Q rest (a.put o.dst undef) w') :
    wpList P ops Q (o :: rest) a w := by
  refine wpList_plain hg fun K' hK' => ?_
  obtain ⟨w', hrun, r1, r2⟩ := hs.put hk ht he hn y z hy hzw
  unfold Oper.wp
  simp [execOp, hop, hm, hx, hv, hrun, Result.andThen]
  exact hK' _ _ (hK w' r1 r2)
end Go.Proofs.Ytmamnljgkkjkcaa
