/- Rows of pairs that begin anywhere in a block of the call's own: read, stored to, cut at the front, appended to. -/
import Derived.Below
import Derived.OwnWalk
import Derived.Maps.AppendAt
import Derived.Laws.OwnMore
import Derived.Deep.RegionLaw
namespace Go.Proofs.Ythdoeckoljflpaa
open Go.RowKit
def OffRow (w : World) (B : Nat) (T : TypeId) (v : Value) (n : Nat) (xs : List Value) : Prop :=
  xs.length = n * 2 ∧ ((v = .slice none 0 0 ∧ n = 0) ∨ ∃ g o cap cur, v = .slice (some ⟨g, o, none⟩) n cap ∧ B ≤ g ∧ w.heap[g]? = some (.cells cur T (0, 0)) ∧ n ≤ cap ∧ cap ≤ maxLen ∧ o + cap * 2 ≤ cur.size ∧ (cur.toList.drop o).take (n * 2) = xs)
section
variable {w : World} {B : Nat} {T : TypeId} {v : Value} {n : Nat} {xs : List Value}
theorem OffRow.nil (w : World) (B : Nat) (T : TypeId) : OffRow w B T (.slice none 0 0) 0 [] := ⟨rfl, .inl ⟨rfl, rfl⟩⟩
theorem OffRow.own (h : w.ownsRow B T 2 v n xs) : OffRow w B T v n xs := by
  refine ⟨h.1, ?_⟩
  rcases h.2 with h2 | ⟨g, cap, cur, rfl, hb, hg, hc, hm, hs, ht⟩
  · exact .inl h2
  · exact .inr ⟨g, 0, cap, cur, rfl, hb, hg, hc, hm, by omega, by simpa using ht⟩
theorem OffRow.lower {C : Nat} (h : OffRow w B T v n xs) (hC : C ≤ B) : OffRow w C T v n xs := by
  refine ⟨h.1, ?_⟩
  rcases h.2 with h2 | ⟨g, o, cap, cur, rfl, hb, hr⟩
  · exact .inl h2
  · exact .inr ⟨g, o, cap, cur, rfl, by omega, hr⟩
theorem OffRow.lt (h : OffRow w B T v n xs) : ∀ k, v.ownBlock = some k → B ≤ k ∧ k < w.heap.size := by
  intro k hk
  rcases h.2 with ⟨rfl, _⟩ | ⟨g, o, cap, cur, rfl, hb, hg, _⟩
  · simp [Value.ownBlock] at hk
  · simp [Value.ownBlock] at hk
    subst hk
    exact ⟨hb, (Array.getElem?_eq_some_iff.1 hg).1⟩
theorem OffRow.kept {w' : World} {row : Option Nat} (h : OffRow w B T v n xs) (hg : w.grownBy w' row) (hne : ∀ i j, v.ownBlock = some i → row = some j → i ≠ j) : OffRow w' B T v n xs := by
  refine ⟨h.1, ?_⟩
  rcases h.2 with hn | ⟨g, o, cap, cur, rfl, hb, hgg, rest⟩
  · exact .inl hn
  · refine .inr ⟨g, o, cap, cur, rfl, hb, ?_, rest⟩
    rw [hg.block g (Array.getElem?_eq_some_iff.1 hgg).1 (fun e => hne g g rfl e.symm rfl)]
    exact hgg
theorem OffRow.alloc (h : OffRow w B T v n xs) (o : Obj) : OffRow (w.alloc o) B T v n xs := h.kept (World.grownBy_alloc w o none) (fun _ _ _ e => by cases e)
theorem OffRow.below {w' : World} {C : Nat} (h : OffRow w B T v n xs) (hb : Below C w w') (hC : w.heap.size ≤ C) : OffRow w' B T v n xs :=
  h.kept (row := none) ⟨hb.os, hb.tape, hb.output, hb.size, fun k hk _ => hb.block k (by omega)⟩ (fun _ _ _ e => by cases e)
theorem OffRow.drew (h : OffRow w B T v n xs) : OffRow w.drew B T v n xs := h
theorem OffRow.slice (h : OffRow w B T v n xs) : ∃ a c, v = .slice a n c := by
  rcases h.2 with ⟨rfl, rfl⟩ | ⟨g, o, cap, cur, rfl, _⟩
  · exact ⟨none, 0, rfl⟩
  · exact ⟨_, _, rfl⟩
theorem OffRow.form (h : OffRow w B T v n xs) (h0 : 0 < n) :
    ∃ g o cap, v = .slice (some ⟨g, o, none⟩) n cap ∧ (B ≤ g ∧ g < w.heap.size) ∧ (n ≤ cap ∧ cap ≤ maxLen) ∧ (∀ j, j < n * 2 → w.cell? ⟨g, o + j, none⟩ = xs[j]?) ∧ (∀ j, w.frozen? ⟨g, j, none⟩ = false) := by
  have hl := h.lt
  rcases h.2 with ⟨_, h2⟩ | ⟨g, o, cap, cur, rfl, hb, hg, hc, hm, hs, ht⟩
  · omega
  · refine ⟨g, o, cap, rfl, hl g rfl, ⟨hc, hm⟩, fun j hj => ?_, fun j => frozen_of_row w g j cur T hg⟩
    rw [cell_of_row w g (o + j) cur T (0, 0) hg, ← ht, List.getElem?_take, if_pos hj, List.getElem?_drop]
    simp
theorem OffRow.stored {g o cap : Nat} (h : OffRow w B T (.slice (some ⟨g, o, none⟩) n cap) n xs) (j : Nat) (hj : j < n * 2) (u : Value) :
    OffRow (w.setCell ⟨g, o + j, none⟩ u) B T (.slice (some ⟨g, o, none⟩) n cap) n (xs.set j u) ∧ w.grownBy (w.setCell ⟨g, o + j, none⟩ u) (some g) := by
  rcases h.2 with ⟨h2, _⟩ | ⟨g', o', cap', cur, e, hb, hg, hc, hm, hs, ht⟩
  · cases h2
  · simp only [Value.slice.injEq, Option.some.injEq, Addr.mk.injEq, and_true, true_and] at e
    obtain ⟨⟨rfl, rfl⟩, rfl⟩ := e
    refine ⟨⟨by rw [List.length_set]; exact h.1, .inr ⟨g, o, cap, cur.setIfInBounds (o + j) u, rfl, hb, heap_setCell_same w g (o + j) cur T u hg, hc, hm, by simpa using hs, ?_⟩⟩,
      ⟨rfl, rfl, rfl, by simp, fun k _ hk => heap_setCell_other w ⟨g, o + j, none⟩ k u (fun e => hk (by simp [e]))⟩⟩
    rw [Array.toList_setIfInBounds, ← ht]
    refine List.ext_getElem? fun i => ?_
    rw [List.getElem?_take, List.getElem?_drop, List.getElem?_set, List.getElem?_set, List.getElem?_take, List.getElem?_drop]
    simp only [List.length_take, List.length_drop, Array.length_toList]
    by_cases hi : i < n * 2
    · rw [if_pos hi, if_pos hi]
      by_cases e : j = i
      · subst e
        rw [if_pos rfl, if_pos rfl, if_pos (by omega), if_pos (by omega)]
      · rw [if_neg (by omega), if_neg e]
    · rw [if_neg hi, if_neg (by omega), if_neg hi]
theorem OffRow.tail {g o cap : Nat} (h : OffRow w B T (.slice (some ⟨g, o, none⟩) (n + 1) cap) (n + 1) xs) :
    OffRow w B T (.slice (if cap = 1 then some ⟨g, o, none⟩ else some ⟨g, o + 2, none⟩) n (cap - 1)) n (xs.drop 2) := by
  rcases h.2 with ⟨h2, _⟩ | ⟨g', o', cap', cur, e, hb, hg, hc, hm, hs, ht⟩
  · cases h2
  · simp only [Value.slice.injEq, Option.some.injEq, Addr.mk.injEq, and_true, true_and] at e
    obtain ⟨⟨rfl, rfl⟩, rfl⟩ := e
    refine ⟨by rw [List.length_drop, h.1]; omega, .inr ?_⟩
    by_cases c : cap = 1
    · subst c
      obtain rfl : n = 0 := by omega
      refine ⟨g, o, 0, cur, rfl, hb, hg, Nat.le_refl _, Nat.zero_le _, by omega, ?_⟩
      have hd : xs.drop 2 = [] := List.drop_of_length_le (by rw [h.1]; omega)
      rw [hd]
      simp
    · refine ⟨g, o + 2, cap - 1, cur, by rw [if_neg c], hb, hg, by omega, by omega, by omega, ?_⟩
      rw [← ht, List.drop_take, List.drop_drop]
      congr 1
      omega
/-- One pair appended. -/
theorem run_append_off {P : Program} (w : World) {B : Nat} {T : TypeId} (t ty : TypeId) (i : TypeInfo) (z : Value) (ht : P.underlying t = some (.slice T)) (hi : P.info? T = some i) (hz : i.zero = some z)
    (hsize : i.size = 2) (hby : i.bytes = 16) (hzs : z.cells.size = 2) (v : Value) (n : Nat) (xs : List Value) (h : OffRow w B T v n xs)
    (a : Addr) (c : Nat) (x y : Value) (hx : w.cell? (a.add 0) = some x) (hy : w.cell? (a.add 1) = some y) (h1 : x.oneCell' = true) (h2 : y.oneCell' = true) (hn : n ≤ 1000000) (hB : B ≤ w.heap.size) :
    ∃ v' w', (Builtin.append_ #[t, t] ty #[v, .slice (some a) 1 c]).run P w = .ok v' w' ∧ OffRow w' B T v' (n + 1) (xs ++ [x, y]) ∧ w.grownBy w' v.ownBlock ∧ (v'.ownBlock = v.ownBlock ∨ v'.ownBlock = some w.heap.size) := by
  have hnews : ∀ j u, [x, y][j]? = some u → w.cell? (a.add j) = some u := fun j u hu => by
    match j, hu with
    | 0, hu => simp at hu; subst hu; exact hx
    | 1, hu => simp at hu; subst hu; exact hy
  have hone : ∀ u ∈ [x, y], u.oneCell' = true := fun u hu => by
    simp only [List.mem_cons, List.not_mem_nil, or_false] at hu
    rcases hu with rfl | rfl
    · exact h1
    · exact h2
  have hlen : (xs ++ [x, y]).length = (n + 1) * 2 := by rw [List.length_append, h.1]; simp; omega
  have hmx : n + 1 ≤ maxLen := by unfold maxLen; omega
  have new : ∀ old : Nat, OffRow (w.drew.alloc (.cells (xs.toArray ++ #[x, y] ++ Builtin.zeroCells z.cells (grownCap w (n + 1) old T - (n + 1))) T)) B T (.slice (some ⟨w.heap.size, 0, none⟩) (n + 1) (grownCap w (n + 1) old T)) (n + 1) (xs ++ [x, y]) := fun old => by
    have hge := grownCap_ge w (n + 1) old T
    refine ⟨hlen, .inr ⟨w.heap.size, 0, _, _, rfl, hB, heap_alloc_new w.drew _, hge, grownCap_le_maxLen w (n + 1) old T hmx, ?_, ?_⟩⟩
    · simp only [Array.size_append, List.size_toArray, size_zeroCells, hzs, h.1, List.length_cons, List.length_nil]
      omega
    · simp only [Array.toList_append, List.drop_zero]
      rw [← hlen]
      exact List.take_left
  have newG : ∀ (old : Nat) (row : Option Nat), w.grownBy (w.drew.alloc (.cells (xs.toArray ++ #[x, y] ++ Builtin.zeroCells z.cells (grownCap w (n + 1) old T - (n + 1))) T)) row :=
    fun old row => ⟨rfl, rfl, rfl, by simp, fun k hk _ => heap_alloc_old w.drew _ k hk⟩
  rcases h.2 with ⟨rfl, rfl⟩ | ⟨g, o, cap, cur, rfl, hb, hg, hc, hm, hs, htk⟩
  · have hxs : xs = [] := List.eq_nil_of_length_eq_zero (by simpa using h.1)
    subst hxs
    have hr := run_append_nil (P := P) w t ty T i z ht hi hz a 1 c [x, y] (by rw [hsize]; rfl) hnews (by omega) (by omega) (by rw [hby]; omega)
    refine ⟨_, _, hr, ?_, ?_, .inr rfl⟩
    · simpa using new 0
    · simpa using newG 0 (Value.ownBlock (.slice none 0 0))
  · by_cases hroom : n + 1 ≤ cap
    · have hf := run_firstCells_some (P := P) w i.size 1 a 1 c [x, y] (by rw [hsize]; rfl) hnews
      have hst := run_storeCells_at P g (o + n * 2) T [x, y] 0 cur w hg (by simp; omega) hone
      simp only [Nat.add_zero] at hst
      have hadd : (⟨g, o, none⟩ : Addr).add (n * 2) = ⟨g, o + n * 2, none⟩ := by unfold Addr.add; split <;> simp_all
      refine ⟨.slice (some ⟨g, o, none⟩) (n + 1) cap, w.setRow g (cur.toList.take (o + n * 2) ++ [x, y] ++ cur.toList.drop (o + n * 2 + 2)).toArray, ?_, ?_, ⟨rfl, rfl, rfl, by simp, fun k _ hk => setRow_other w g k _ (fun e => hk (by simp [Value.ownBlock, e]))⟩, .inl rfl⟩
      · rw [hsize] at hf
        simp [Builtin.append_, run_underlying ht, sizeOf, typeInfo, hi, Builtin.lenOf, hroom, hf, hsize, hadd, hst]
      · refine ⟨hlen, .inr ⟨g, o, cap, _, rfl, hb, setRow_heap w g cur _ T _ hg, hroom, hm, ?_, ?_⟩⟩
        · simp only [List.size_toArray, List.length_append, List.length_take, List.length_drop, Array.length_toList, List.length_cons, List.length_nil]
          omega
        · rw [← htk]
          refine List.ext_getElem? fun k => ?_
          rw [List.getElem?_take, List.getElem?_drop]
          by_cases hk : k < (n + 1) * 2
          · rw [if_pos hk]
            by_cases hk2 : k < n * 2
            · rw [List.append_assoc, List.getElem?_append_left (by simp; omega), List.getElem?_append_left (by simp; omega), List.getElem?_take, if_pos (by omega), List.getElem?_take, if_pos hk2, List.getElem?_drop]
            · rw [List.append_assoc, List.getElem?_append_right (by simp; omega), List.getElem?_append_left (by simp; omega), List.getElem?_append_right (by simp; omega)]
              congr 1
              simp
              omega
          · rw [if_neg hk, List.getElem?_eq_none (by simp; omega)]
    · have holds : ∀ j u, xs[j]? = some u → w.cell? ((⟨g, o, none⟩ : Addr).add j) = some u := fun j u hu => by
        have hadd : (⟨g, o, none⟩ : Addr).add j = ⟨g, o + j, none⟩ := by unfold Addr.add; split <;> simp_all
        rw [hadd, cell_of_row w g (o + j) cur T (0, 0) hg]
        rw [← htk, List.getElem?_take, List.getElem?_drop] at hu
        split at hu
        · simpa using hu
        · cases hu
      have hr := run_append_grow (P := P) w t ty T i z ht hi hz ⟨g, o, none⟩ n cap xs (by rw [hsize]; exact h.1) holds a 1 c [x, y] (by rw [hsize]; rfl) hnews (by omega) (by omega) (growslice_fits (by omega) (by rw [hby]; omega))
      exact ⟨_, _, hr, new cap, newG cap _, .inr rfl⟩
end
theorem step_append_off {P : Program} (w : World) {ops : Array Oper} {o : Oper} {act : Act} {K : Act → World → Prop} {Q : Exit → Act → World → Prop} {E : Prop} (hgd : o.guard = none) (s u : Operand) {B : Nat} {T : TypeId} (t : TypeId)
    (ho : o.op = .call { callee := .builtin .append, args := #[s, u], argTypes := #[t, t] })
    (i : TypeInfo) (z : Value) (ht : P.underlying t = some (.slice T)) (hi : P.info? T = some i) (hz : i.zero = some z)
    (hsize : i.size = 2) (hby : i.bytes = 16) (hzs : z.cells.size = 2) (v : Value) (n : Nat) (xs : List Value) (hs : act.eval s = v) (h : OffRow w B T v n xs)
    (a : Addr) (c : Nat) (x y : Value) (hu : act.eval u = .slice (some a) 1 c) (hx : w.cell? (a.add 0) = some x) (hy : w.cell? (a.add 1) = some y) (h1 : x.oneCell' = true) (h2 : y.oneCell' = true) (hn : n ≤ 1000000) (hB : B ≤ w.heap.size)
    (hK : ∀ g' o' cap' w', OffRow w' B T (.slice (some ⟨g', o', none⟩) (n + 1) cap') (n + 1) (xs ++ [x, y]) → w.grownBy w' v.ownBlock → (v.ownBlock = some g' ∨ g' = w.heap.size) → K (act.put o.dst (.slice (some ⟨g', o', none⟩) (n + 1) cap')) w') :
    if Region.wanted o (yielded ops act.tmps) = true then Oper.wp P o act w K Q else E := by
  have hw : Region.wanted o (yielded ops act.tmps) = true := by simp [Region.wanted, hgd]
  rw [if_pos hw]
  obtain ⟨v', w', hr, h3, h4, h5⟩ := run_append_off (P := P) w t o.type i z ht hi hz hsize hby hzs v n xs h a c x y hx hy h1 h2 hn hB
  obtain ⟨g', o', cap', rfl, -⟩ := h3.form (by omega)
  unfold Oper.wp execOp
  simp only [ho, resolve, invoke, builtin, Sem.run_bind, Sem.run_pure, Result.andThen_ok, List.map_toArray, List.map_cons, List.map_nil, hs, hu, hr]
  refine hK g' o' cap' w' h3 h4 ?_
  rcases h5 with h5 | h5
  · exact .inl h5.symm
  · have h6 : some g' = some w.heap.size := h5
    injection h6 with h6
    exact .inr h6
theorem wpList_append_off {P : Program} (w : World) {ops : Array Oper} {rest : List Oper} {o : Oper} {act : Act} {Q : Exit → Act → World → Prop} (hgd : o.guard = none) (s u : Operand) {B : Nat} {T : TypeId} (t : TypeId)
    (ho : o.op = .call { callee := .builtin .append, args := #[s, u], argTypes := #[t, t] })
    (i : TypeInfo) (z : Value) (ht : P.underlying t = some (.slice T)) (hi : P.info? T = some i) (hz : i.zero = some z)
    (hsize : i.size = 2) (hby : i.bytes = 16) (hzs : z.cells.size = 2) (v : Value) (n : Nat) (xs : List Value) (hs : act.eval s = v) (h : OffRow w B T v n xs)
    (a : Addr) (c : Nat) (x y : Value) (hu : act.eval u = .slice (some a) 1 c) (hx : w.cell? (a.add 0) = some x) (hy : w.cell? (a.add 1) = some y) (h1 : x.oneCell' = true) (h2 : y.oneCell' = true) (hn : n ≤ 1000000) (hB : B ≤ w.heap.size)
    (hK : ∀ g' o' cap' w', OffRow w' B T (.slice (some ⟨g', o', none⟩) (n + 1) cap') (n + 1) (xs ++ [x, y]) → w.grownBy w' v.ownBlock → (v.ownBlock = some g' ∨ g' = w.heap.size) → wpList P ops Q rest (act.put o.dst (.slice (some ⟨g', o', none⟩) (n + 1) cap')) w') :
    wpList P ops Q (o :: rest) act w :=
  wpList_plain hgd fun K hKK => by
    obtain ⟨v', w', hr, h3, h4, h5⟩ := run_append_off (P := P) w t o.type i z ht hi hz hsize hby hzs v n xs h a c x y hx hy h1 h2 hn hB
    obtain ⟨g', o', cap', rfl, -⟩ := h3.form (by omega)
    unfold Oper.wp execOp
    simp only [ho, resolve, invoke, builtin, Sem.run_bind, Sem.run_pure, Result.andThen_ok, List.map_toArray, List.map_cons, List.map_nil, hs, hu, hr]
    refine hKK _ _ (hK g' o' cap' w' h3 h4 ?_)
    rcases h5 with h5 | h5
    · exact .inl h5.symm
    · have h6 : some g' = some w.heap.size := h5
      injection h6 with h6
      exact .inr h6
end Go.Proofs.Ythdoeckoljflpaa
