/- Slices of periods, as arguments: opened. -/
import Derived.Test.YtbihadelhknlnaaPeX
import Derived.Test.YtbihadelhknlnaaInts
import Derived.Deep.Slices
namespace Go.Proofs.Ytbihadelhknlnaa
open Go.ChangeShapes Go.WideShapes Go.ChangeAt Go.RowKit Go.Joins Go.Deep
theorem add_noneP (b off k : Nat) : (Addr.add ⟨b, off, none⟩ k : Addr) = ⟨b, off + k, none⟩ := by unfold Addr.add; split <;> simp_all
section
variable {H : Type} {enc : TypeId × Value → H} {P : Program} {w : World} {base : Nat} {spare : Nat → Bool} {held : Bool}
def perFields (P : Program) (I B : TypeId) (fs : Array Field) : Bool :=
  (fs.size == 3) && ((fs[0]?.map fun f => (f.offset, f.type)) == some (0, I)) && ((fs[1]?.map fun f => (f.offset, f.type)) == some (1, I)) && ((fs[2]?.map fun f => (f.offset, f.type)) == some (2, B)) && (P.cellsOf I == 1) && (P.cellsOf B == 1)
theorem per_struct {t I B : TypeId} {fs : Array Field} (hs : P.underlying t = some (.struct fs)) (hI : P.underlying I = some (.int .i64)) (hB : P.underlying B = some .bool) (h1 : perFields P I B fs = true)
    {fuel : Nat} {cs : List Value} {x : DataW H × List MemPlace} (h : DataW.trod enc P w base spare held fuel t cs = some x) :
    ∃ p : Per, cs[0]? = some (.int .i64 p.1) ∧ cs[1]? = some (.int .i64 p.2.1) ∧ cs[2]? = some (.bool p.2.2) := by
  unfold perFields at h1
  simp only [Bool.and_eq_true, beq_iff_eq] at h1
  obtain ⟨⟨⟨⟨⟨hsz, e0⟩, e1⟩, e2⟩, cI⟩, cB⟩ := h1
  obtain ⟨xs, n, -, rfl, hl, hlen, hf⟩ := DataW.trod_struct hs h
  have get : ∀ (i : Nat) (T : TypeId), (fs[i]?.map fun f => (f.offset, f.type)) = some (i, T) → P.cellsOf T = 1 → ∃ y, DataW.trod enc P w base spare held n T ((cs.drop i).take 1) = some y := by
    intro i T hT hc
    obtain ⟨f, hfi, he⟩ := Option.map_eq_some_iff.1 hT
    simp only [Prod.mk.injEq] at he
    have hg := hf i f hfi
    have hi : i < fs.size := by
      rcases Nat.lt_or_ge i fs.size with a | a
      · exact a
      · rw [Array.getElem?_eq_none a] at hfi; cases hfi
    have hx : xs[i]? = some xs[i] := List.getElem?_eq_getElem (by omega)
    rw [hx, he.1, he.2, hc] at hg
    exact ⟨_, hg⟩
  obtain ⟨y0, g0⟩ := get 0 I e0 cI
  obtain ⟨y1, g1⟩ := get 1 I e1 cI
  obtain ⟨y2, g2⟩ := get 2 B e2 cB
  obtain ⟨z0, q0, -, -⟩ := DataW.trod_int hI g0
  obtain ⟨z1, q1, -, -⟩ := DataW.trod_int hI g1
  obtain ⟨z2, q2, -⟩ := DataW.trod_bool hB g2
  refine ⟨(z0, z1, z2), ?_, ?_, ?_⟩
  · have := congrArg (·[0]?) q0
    simpa [List.getElem?_take, List.getElem?_drop] using this
  · have := congrArg (·[0]?) q1
    simpa [List.getElem?_take, List.getElem?_drop] using this
  · have := congrArg (·[0]?) q2
    simpa [List.getElem?_take, List.getElem?_drop] using this
theorem open_pers {t e I B : TypeId} {fs : Array Field} (ht : P.underlying t = some (.slice e)) (he : P.underlying e = some (.struct fs)) (hI : P.underlying I = some (.int .i64)) (hB : P.underlying B = some .bool) (h1 : perFields P I B fs = true) (hC : P.cellsOf e = 3)
    {fuel : Nat} {a : Option Addr} {len cap : Nat} {x : DataW H × List MemPlace} (h : DataW.trod enc P w base spare held fuel t [.slice a len cap] = some x) :
    ∃ ps : List Per, RPo w (.slice a len cap) ps ∧ ps.length = len ∧ len ≤ maxLen := by
  rcases open_slice ht h with ⟨hcs, -⟩ | ⟨x, l, c, m, n, D, Pl, hcs, hb, hl, hm, hmm, -, hi⟩
  · simp only [List.cons.injEq, Value.slice.injEq, and_true] at hcs
    obtain ⟨rfl, rfl, rfl⟩ := hcs
    exact ⟨[], ⟨⟨none, 0, rfl⟩, fun h => by simp at h⟩, rfl, by unfold maxLen; omega⟩
  · simp only [List.cons.injEq, Value.slice.injEq, and_true] at hcs
    obtain ⟨rfl, rfl, rfl⟩ := hcs
    have hlm : len ≤ m := by rw [hmm]; split <;> omega
    have key : ∀ i, ∃ p : Per, i < len → (w.cell? ((x.add (i * 3)).add 0) = some (.int .i64 p.1) ∧ w.cell? ((x.add (i * 3)).add 1) = some (.int .i64 p.2.1) ∧ w.cell? ((x.add (i * 3)).add 2) = some (.bool p.2.2)) := by
      intro i
      by_cases hlt : i < len
      · obtain ⟨cs', hc, ht'⟩ := hi i (by omega)
        rw [hC] at hc
        obtain ⟨-, hcl, hat⟩ := World.cells?_some hc
        obtain ⟨p, e0, e1, e2⟩ := per_struct he hI hB h1 ht'
        exact ⟨p, fun _ => ⟨(hat 0 (by omega)).trans e0, (hat 1 (by omega)).trans e1, (hat 2 (by omega)).trans e2⟩⟩
      · exact ⟨p0, fun q => absurd q hlt⟩
    obtain ⟨f, hf⟩ : ∃ f : Nat → Per, ∀ i, i < len → (w.cell? ((x.add (i * 3)).add 0) = some (.int .i64 (f i).1) ∧ w.cell? ((x.add (i * 3)).add 1) = some (.int .i64 (f i).2.1) ∧ w.cell? ((x.add (i * 3)).add 2) = some (.bool (f i).2.2)) := ⟨fun i => Classical.choose (key i), fun i => Classical.choose_spec (key i)⟩
    clear key
    refine ⟨(List.range len).map f, ⟨⟨some x, cap, by simp⟩, fun hpos => ?_⟩, by simp, by omega⟩
    have hpos' : 0 < len := by simpa using hpos
    have hc := (hf 0 hpos').1
    obtain ⟨b, off, spot⟩ := x
    have hspot : spot = none := by simpa [Addr.add] using World.cell?_spot hc
    subst hspot
    have hbl : b < w.heap.size := by
      have := World.block_lt_of_cell? w _ hc
      simpa [Addr.add] using this
    refine ⟨b, off, cap, by simp, hbl, fun i hi' => ?_⟩
    have hi2 : i < len := by simpa using hi'
    obtain ⟨q0, q1, q2⟩ := hf i hi2
    rw [add_noneP, add_noneP] at q0 q1 q2
    have hg : ((List.range len).map f).getD i p0 = f i := by
      rw [List.getD_eq_getElem?_getD, List.getElem?_map, List.getElem?_range hi2]; rfl
    rw [hg]
    exact ⟨q0, q1, q2⟩
end
end Go.Proofs.Ytbihadelhknlnaa
