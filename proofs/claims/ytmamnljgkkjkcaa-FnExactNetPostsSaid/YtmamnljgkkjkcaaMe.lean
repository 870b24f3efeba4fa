/- An entry of a map, found or made, and stored to later: what 'm[k] op= v' does, in either order of its steps. -/
import Derived.WideKeyEntry
import Derived.Maps.OwnSet
import Derived.MapKept
namespace Go.Proofs.Ytmamnljgkkjkcaa
open Go Go.Maps Go.MapKept Go.WideElems Go.WideMaps Go.ChangeMaps
theorem entry_is {H : Type} {P : Program} {w : World} {t k e : TypeId} {R : Value → Option (DataW H × List MemPlace)} {b : Nat} {es : Array MapEntry} {clock : Nat}
    (K : KeyLaw P k) (ht : P.underlying t = some (.map k e)) {z : Value} (hz : ∀ u : World, (zeroValue e).run P u = .ok z u) (hb : w.heap[b]? = some (.map es clock)) (F : Fit P k R es clock) {key : Value} {kl : Lit} (hkey : keyOf P k key = some kl) :
    ∃ v0 st w1, (Instr.mapEntry t (.map (some b)) key).run P w = .ok (.tuple #[v0, goInt st]) w1 ∧ (Instr.lookup t (.map (some b)) key false).run P w = .ok v0 w ∧ (Instr.mapUpdate t (.map (some b)) key v0).run P w = .ok () w1 ∧
      ∀ (w2 : World) (val : Value), w2.heap[b]? = w1.heap[b]? → ∃ o, (Instr.entryStore t (.map (some b)) (goInt st) val).run P w2 = .ok () (setBlock w2 b o) ∧ (Instr.mapUpdate t (.map (some b)) key val).run P w = .ok () (setBlock w b o) := by
  obtain ⟨v0, st, es1, clock1, h1, -, h3⟩ := entry_then_store K ht hz hb F hkey
  have hW : (setBlock w b (.map es1 clock1)).heap[b]? = some (.map es1 clock1) := heap_setBlock_same hb _
  have hst : ∀ (w2 : World) (val : Value), w2.heap[b]? = (setBlock w b (.map es1 clock1)).heap[b]? → ∃ o, (Instr.entryStore t (.map (some b)) (goInt st) val).run P w2 = .ok () (setBlock w2 b o) ∧ (Instr.mapUpdate t (.map (some b)) key val).run P w = .ok () (setBlock w b o) := fun w2 val h => by
    obtain ⟨es', clock', a, c⟩ := h3 w2 val (h.trans hW)
    exact ⟨_, a, c⟩
  refine ⟨v0, st, _, h1, ?_, ?_, hst⟩
  · rcases K.find w hkey es.toList F.keys with ⟨n1, -⟩ | ⟨j, e0, n1, n2, n3⟩
    · have r : (Instr.mapEntry t (.map (some b)) key).run P w = .ok (.tuple #[z, goInt clock]) (setBlock w b (.map (es.push ⟨key, z, clock⟩) (clock + 1))) := by
        simp [Instr.mapEntry, run_underlying ht, MapKept.run_getObj_map hb, K.check w false hkey, n1, hz, MapKept.run_setObj_map _ hb, Result.andThen, setBlock]
      rw [h1] at r
      simp only [Result.ok.injEq, Value.tuple.injEq, Array.mk.injEq, List.cons.injEq] at r
      rw [r.1.1]
      simp [Instr.lookup, run_underlying ht, MapKept.run_getObj_map hb, K.check w _ hkey, n1, hz, Result.andThen]
    · have hj : es[j]? = some e0 := by simpa using n2
      obtain ⟨w', r⟩ : ∃ w', (Instr.mapEntry t (.map (some b)) key).run P w = .ok (.tuple #[e0.val, goInt e0.born]) w' := by
        simp [Instr.mapEntry, run_underlying ht, MapKept.run_getObj_map hb, K.check w false hkey, n1, hj, n3, K.stays w hkey, MapKept.run_setObj_map _ hb, Result.andThen]
      rw [h1] at r
      simp only [Result.ok.injEq, Value.tuple.injEq, Array.mk.injEq, List.cons.injEq] at r
      rw [r.1.1]
      simp [Instr.lookup, run_underlying ht, MapKept.run_getObj_map hb, K.check w _ hkey, n1, Result.andThen]
  · rcases K.find w hkey es.toList F.keys with ⟨n1, -⟩ | ⟨j, e0, n1, n2, n3⟩
    · have r : (Instr.mapEntry t (.map (some b)) key).run P w = .ok (.tuple #[z, goInt clock]) (setBlock w b (.map (es.push ⟨key, z, clock⟩) (clock + 1))) := by
        simp [Instr.mapEntry, run_underlying ht, MapKept.run_getObj_map hb, K.check w false hkey, n1, hz, MapKept.run_setObj_map _ hb, Result.andThen, setBlock]
      rw [h1] at r
      simp only [Result.ok.injEq, Value.tuple.injEq, Array.mk.injEq, List.cons.injEq] at r
      rw [r.1.1, r.2]
      simp [Instr.mapUpdate, run_underlying ht, MapKept.run_getObj_map hb, K.check w false hkey, n1, MapKept.run_setObj_map _ hb, Result.andThen, setBlock]
    · have hj : es[j]? = some e0 := by simpa using n2
      have r : (Instr.mapEntry t (.map (some b)) key).run P w = .ok (.tuple #[e0.val, goInt e0.born]) (setBlock w b (.map (es.modify j fun x => { x with key := key }) clock)) := by
        simp [Instr.mapEntry, run_underlying ht, MapKept.run_getObj_map hb, K.check w false hkey, n1, hj, n3, K.stays w hkey, MapKept.run_setObj_map _ hb, Result.andThen, setBlock]
      rw [h1] at r
      simp only [Result.ok.injEq, Value.tuple.injEq, Array.mk.injEq, List.cons.injEq] at r
      have hm : (es.modify j fun x => { x with key := key }) = es.modify j fun x => { x with key := key, val := e0.val } := by
        apply Array.ext'
        rw [Array.toList_modify, Array.toList_modify, ChangeMaps.modify_eq_set _ _ _ _ n2, ChangeMaps.modify_eq_set _ _ _ _ n2]
      rw [r.1.1, r.2, hm]
      simp [Instr.mapUpdate, run_underlying ht, MapKept.run_getObj_map hb, K.check w false hkey, n1, hj, n3, K.stays w hkey, MapKept.run_setObj_map _ hb, Result.andThen, setBlock]
end Go.Proofs.Ytmamnljgkkjkcaa
