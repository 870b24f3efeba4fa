/- A map from pairs of numbers (a struct) to numbers. -/
import Derived.Test.YtmamnljgkkjkcaaNpM
import Derived.Test.YtmamnljgkkjkcaaMe
import Derived.DeepKeys4
import Derived.WideKeyArgs2
namespace Go.Proofs.Ytmamnljgkkjkcaa
open Go Go.Maps Go.RowKit Go.WideMaps
theorem accSize : ∃ m, Try.prog.types.size = m + 1 := ⟨Try.prog.types.size - 1, by kernel_rfl⟩
theorem accLaid : laidOutB Try.prog = true := by kernel_rfl
theorem accRow : (87 : TypeId) < Try.prog.types.size := of_decide_eq_true (by kernel_rfl)
theorem accWide : (match Try.prog.underlying 87 with | some (.array _ _) | some (.struct _) => true | _ => false) = true := by kernel_rfl
set_option maxRecDepth 100000 in
theorem accLawK : KeyLaw Try.prog 87 := deep_law_laid accLaid (m := 2) (by omega) accRow (by kernel_rfl) accWide
theorem accLaw : Keyed Try.prog 87 := Keyed.of_law accLawK
theorem accCells : Try.prog.cellsOf 87 = 2 := by kernel_rfl
theorem accInt : Try.prog.cellsOf 3 = 1 := by kernel_rfl
theorem accKey : Try.prog.keyType 87 = true := by kernel_rfl
theorem accOf {x y : Int} (hx : (Lit.int .i64 x).wf = true) (hy : (Lit.int .i64 y).wf = true) :
    keyOf Try.prog 87 (.agg #[.int .i64 x, .int .i64 y]) = some (.string (keyBytes [.int .i64 x, .int .i64 y])) := by
  have hu := Try.underlying87
  have hi := Try.underlying3
  obtain ⟨m, hm⟩ := accSize
  unfold keyOf
  simp only [hu]
  rw [if_pos (by simp [accKey, Value.formed, hu, accCells]), hm]
  unfold Program.keyLits
  simp only [hu, Value.cells]
  rw [if_pos ⟨by rw [accCells]; rfl, by simp⟩]
  simp [List.mapM_cons, Program.keyLits, hi, hx, hy, accInt]
theorem accOne {x y u v : Int} (hx : (Lit.int .i64 x).wf = true) (hy : (Lit.int .i64 y).wf = true) (hu : (Lit.int .i64 u).wf = true) (hv : (Lit.int .i64 v).wf = true) (h : keyBytes [.int .i64 x, .int .i64 y] = keyBytes [.int .i64 u, .int .i64 v]) : x = u ∧ y = v := by
  have h1 := accOf hx hy
  rw [h] at h1
  have h2 := accLaw.inj h1 (accOf hu hv)
  simpa using h2
/-- Block b of w is a map that says f at every pair (0 where nothing was put). -/
def IsMq (w : World) (e : TypeId) (b n : Nat) (f : Int → Int → Int) : Prop :=
  ∃ D : DataW Unit, w.ownsMap Try.prog 87 (plainElem Try.prog e) b n D ∧ ∀ x y : Int, (Lit.int .i64 x).wf = true → (Lit.int .i64 y).wf = true → D.atKey (.string (keyBytes [.int .i64 x, .int .i64 y])) (.lit (.int .i64 0)) = .lit (.int .i64 (f x y))
theorem isMq_made (w : World) (e : TypeId) : IsMq (w.alloc (.map #[] 0)) e w.heap.size 0 fun _ _ => 0 :=
  ⟨.map [], World.ownsMap_made w _ _ _, fun x y _ _ => by simp [DataW.atKey]⟩
theorem IsMq.lt {w : World} {e : TypeId} {b n : Nat} {f : Int → Int → Int} (h : IsMq w e b n f) : b < w.heap.size := by
  obtain ⟨D, h1, _⟩ := h; exact h1.lt
theorem IsMq.of_block {w w' : World} {e : TypeId} {b n : Nat} {f : Int → Int → Int} (h : IsMq w e b n f) (hb : w'.heap[b]? = w.heap[b]?) : IsMq w' e b n f := by
  obtain ⟨D, ⟨es, cl, h1, h2⟩, h3⟩ := h
  exact ⟨D, ⟨es, cl, hb.trans h1, h2⟩, h3⟩
theorem IsMq.below {w w' : World} {e : TypeId} {b n B : Nat} {f : Int → Int → Int} (h : IsMq w e b n f) (hb : Below B w w') (hB : b < B) : IsMq w' e b n f := h.of_block (hb.block b hB)
theorem IsMq.look {w : World} {e t : TypeId} {b n : Nat} {f : Int → Int → Int} (h : IsMq w e b n f) (ht : Try.prog.underlying t = some (.map 87 e)) (he : Try.prog.underlying e = some (.int .i64))
    (hz : (zeroValue e).run Try.prog w = .ok (.int .i64 0) w) (x y : Int) (hx : (Lit.int .i64 x).wf = true) (hy : (Lit.int .i64 y).wf = true) : (Instr.lookup t (.map (some b)) (.agg #[.int .i64 x, .int .i64 y]) false).run Try.prog w = .ok (.int .i64 (f x y)) w := by
  obtain ⟨D, h1, h2⟩ := h
  obtain ⟨v, ps, hrun, hv⟩ := h1.lookup accLaw ht hz (plainElem_int he (by decide)) (accOf hx hy)
  rw [h2 x y hx hy] at hv
  unfold plainElem at hv
  rw [he] at hv
  cases v <;> simp at hv
  obtain ⟨⟨rfl, -⟩, rfl, -⟩ := hv
  rw [hrun]
theorem IsMq.put {w : World} {e t : TypeId} {b n : Nat} {f : Int → Int → Int} (h : IsMq w e b n f) (ht : Try.prog.underlying t = some (.map 87 e)) (he : Try.prog.underlying e = some (.int .i64))
    (hn : n < maxLen) (x y z : Int) (hx : (Lit.int .i64 x).wf = true) (hy : (Lit.int .i64 y).wf = true) (hz : (Lit.int .i64 z).wf = true) :
    ∃ w', (Instr.mapUpdate t (.map (some b)) (.agg #[.int .i64 x, .int .i64 y]) (.int .i64 z)).run Try.prog w = .ok () w' ∧ IsMq w' e b (n + 1) (fun u v => if u = x ∧ v = y then z else f u v) ∧ w.grownBy w' (some b) := by
  obtain ⟨D, h1, h2⟩ := h
  obtain ⟨w', hrun, hown, hg⟩ := h1.update accLaw ht hn (accOf hx hy) (plainElem_int he hz)
  refine ⟨w', hrun, ⟨_, hown, fun u v hu hv => ?_⟩, hg⟩
  by_cases c : u = x ∧ v = y
  · obtain ⟨rfl, rfl⟩ := c
    rw [atKey_put_same h1.isMap (by simp [WideAt.IsKeyLit])]
    simp
  · rw [atKey_put_other (fun k => c (accOne hu hv hx hy (by simpa using k))), h2 u v hu hv]
    simp [c]
theorem wpList_lookup_mq (w : World) {ops : Array Oper} {rest : List Oper} {o : Oper} {a : Act} {Q : Exit → Act → World → Prop}
    (hg : o.guard = none) (m x : Operand) (t : TypeId) (hop : o.op = Op.lookup t m x false)
    (e : TypeId) (ht : Try.prog.underlying t = some (.map 87 e)) (he : Try.prog.underlying e = some (.int .i64)) (hz : (zeroValue e).run Try.prog w = .ok (.int .i64 0) w) (b n : Nat) (f : Int → Int → Int)
    (hm : a.eval m = .map (some b)) (hs : IsMq w e b n f) (y z : Int) (hx : a.eval x = .agg #[.int .i64 y, .int .i64 z]) (hy : (Lit.int .i64 y).wf = true) (hz' : (Lit.int .i64 z).wf = true)
    (hK : wpList Try.prog ops Q rest (a.put o.dst (.int .i64 (f y z))) w) :
    wpList Try.prog ops Q (o :: rest) a w := by
  refine wpList_plain hg fun K' hK' => ?_
  have hrun := hs.look ht he hz y z hy hz'
  unfold Oper.wp
  simp [execOp, hop, hm, hx, hrun, Result.andThen]
  exact hK' _ _ hK
theorem wpList_mapUpdate_mq (w : World) {ops : Array Oper} {rest : List Oper} {o : Oper} {a : Act} {Q : Exit → Act → World → Prop}
    (hg : o.guard = none) (m x v : Operand) (t : TypeId) (hop : o.op = Op.mapUpdate t m x v)
    (e : TypeId) (ht : Try.prog.underlying t = some (.map 87 e)) (he : Try.prog.underlying e = some (.int .i64)) (b n : Nat) (f : Int → Int → Int)
    (hm : a.eval m = .map (some b)) (hs : IsMq w e b n f) (hn : n < maxLen) (y z u : Int) (hx : a.eval x = .agg #[.int .i64 y, .int .i64 z]) (hv : a.eval v = .int .i64 u) (hy : (Lit.int .i64 y).wf = true) (hz : (Lit.int .i64 z).wf = true) (hu : (Lit.int .i64 u).wf = true)
    (hK : ∀ w', IsMq w' e b (n + 1) (fun p q => if p = y ∧ q = z then u else f p q) → w.grownBy w' (some b) → wpList Try.prog ops Q rest (a.put o.dst undef) w') :
    wpList Try.prog ops Q (o :: rest) a w := by
  refine wpList_plain hg fun K' hK' => ?_
  obtain ⟨w', hrun, r1, r2⟩ := hs.put ht he hn y z u hy hz hu
  unfold Oper.wp
  simp [execOp, hop, hm, hx, hv, hrun, Result.andThen]
  exact hK' _ _ (hK w' r1 r2)
theorem heap_set_here {w : World} {b : Nat} (h : b < w.heap.size) (o : Obj) : (ChangeMaps.setBlock w b o).heap[b]? = some o := by
  simp [ChangeMaps.setBlock, h]
theorem heap_set_grown (w : World) (b : Nat) (o : Obj) : w.grownBy (ChangeMaps.setBlock w b o) (some b) :=
  ⟨rfl, rfl, rfl, by simp [ChangeMaps.setBlock], fun k _ hk => by
    have hne : b ≠ k := fun e => hk (by rw [e])
    simp [ChangeMaps.setBlock, hne]⟩
/-- An entry found or made, and stored to later. -/
theorem IsMq.entry {w : World} {e t : TypeId} {b n : Nat} {f : Int → Int → Int} (h : IsMq w e b n f) (ht : Try.prog.underlying t = some (.map 87 e)) (he : Try.prog.underlying e = some (.int .i64))
    (hz : ∀ u : World, (zeroValue e).run Try.prog u = .ok (.int .i64 0) u) (hn : n < maxLen) (x y : Int) (hx : (Lit.int .i64 x).wf = true) (hy : (Lit.int .i64 y).wf = true) (hf : (Lit.int .i64 (f x y)).wf = true) :
    ∃ (st : Int) (w1 : World), (Instr.mapEntry t (.map (some b)) (.agg #[.int .i64 x, .int .i64 y])).run Try.prog w = .ok (.tuple #[.int .i64 (f x y), .int .i64 st]) w1 ∧ IsMq w1 e b (n + 1) f ∧ w.grownBy w1 (some b) ∧
      ∀ (w2 : World) (z : Int), (Lit.int .i64 z).wf = true → w2.heap[b]? = w1.heap[b]? → b < w2.heap.size → ∃ w3, (Instr.entryStore t (.map (some b)) (.int .i64 st) (.int .i64 z)).run Try.prog w2 = .ok () w3 ∧ IsMq w3 e b (n + 1) (fun u v => if u = x ∧ v = y then z else f u v) ∧ w2.grownBy w3 (some b) := by
  have h0 := h
  obtain ⟨D, ⟨es, clock, hb, F, h2, h3⟩, h4⟩ := h
  obtain ⟨v0, st, w1, r1, r2, r3, r4⟩ := entry_is accLawK ht hz hb F (accOf hx hy)
  have hl := h0.look ht he (hz w) x y hx hy
  rw [r2] at hl
  simp only [Result.ok.injEq, and_true] at hl
  subst hl
  obtain ⟨w', p1, p2, p3⟩ := h0.put ht he hn x y (f x y) hx hy hf
  rw [r3] at p1
  simp only [Result.ok.injEq, true_and] at p1
  subst p1
  have ef : (fun u v => if u = x ∧ v = y then f x y else f u v) = f := by
    funext u v
    split
    · next c => rw [c.1, c.2]
    · rfl
  rw [ef] at p2
  refine ⟨st, w1, r1, p2, p3, fun w2 z hzw hbb hlt => ?_⟩
  obtain ⟨o, q1, q2⟩ := r4 w2 (.int .i64 z) hbb
  obtain ⟨w'', s1, s2, s3⟩ := h0.put ht he hn x y z hx hy hzw
  rw [q2] at s1
  simp only [Result.ok.injEq, true_and] at s1
  subst s1
  refine ⟨_, q1, s2.of_block ?_, heap_set_grown _ _ _⟩
  rw [heap_set_here hlt, heap_set_here h0.lt]
end Go.Proofs.Ytmamnljgkkjkcaa
