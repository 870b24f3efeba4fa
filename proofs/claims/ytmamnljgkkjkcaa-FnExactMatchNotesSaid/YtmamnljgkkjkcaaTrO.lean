/- Slices of structs of three numbers, as arguments: opened. -/
import Derived.Test.YtmamnljgkkjkcaaTr
import Derived.Test.YtmamnljgkkjkcaaInts
import Derived.Deep.Slices
namespace Go.Proofs.Ytmamnljgkkjkcaa
open Go.ChangeShapes Go.WideShapes Go.ChangeAt Go.RowKit Go.Joins Go.Deep
theorem add_none (b off k : Nat) : (Addr.add ⟨b, off, none⟩ k : Addr) = ⟨b, off + k, none⟩ := by unfold Addr.add; split <;> simp_all
section
variable {H : Type} {enc : TypeId × Value → H} {P : Program} {w : World} {base : Nat} {spare : Nat → Bool} {held : Bool}
theorem open_tris {t e I : TypeId} {fs : Array Field} (ht : P.underlying t = some (.slice e)) (he : P.underlying e = some (.struct fs)) (hI : P.underlying I = some (.int .i64)) (h1 : oneType P I fs = true) (hC : P.cellsOf e = fs.size) (h3 : fs.size = 3)
    {fuel : Nat} {a : Option Addr} {len cap : Nat} {x : DataW H × List MemPlace} (h : DataW.trod enc P w base spare held fuel t [.slice a len cap] = some x) :
    ∃ ps : List Tri, R3o w (.slice a len cap) ps ∧ ps.length = len ∧ len ≤ maxLen := by
  rcases open_slice ht h with ⟨hcs, -⟩ | ⟨x, l, c, m, n, D, Pl, hcs, hb, hl, hm, hmm, -, hi⟩
  · simp only [List.cons.injEq, Value.slice.injEq, and_true] at hcs
    obtain ⟨rfl, rfl, rfl⟩ := hcs
    exact ⟨[], ⟨⟨none, 0, rfl⟩, fun h => by simp at h⟩, rfl, by unfold maxLen; omega⟩
  · simp only [List.cons.injEq, Value.slice.injEq, and_true] at hcs
    obtain ⟨rfl, rfl, rfl⟩ := hcs
    have hlm : len ≤ m := by rw [hmm]; split <;> omega
    have key : ∀ i, ∃ p : Tri, i < len → (w.cell? ((x.add (i * 3)).add 0) = some (.int .i64 p.1) ∧ w.cell? ((x.add (i * 3)).add 1) = some (.int .i64 p.2.1) ∧ w.cell? ((x.add (i * 3)).add 2) = some (.int .i64 p.2.2)) := by
      intro i
      by_cases hlt : i < len
      · obtain ⟨cs', hc, ht'⟩ := hi i (by omega)
        rw [hC, h3] at hc
        obtain ⟨-, hcl, hat⟩ := World.cells?_some hc
        obtain ⟨zs, e1, e2, -, -⟩ := nums_struct he hI h1 hC ht'
        rw [h3] at e2
        match zs, e2 with
        | [z0, z1, z2], _ =>
          subst e1
          exact ⟨(z0, z1, z2), fun _ => ⟨hat 0 (by omega), hat 1 (by omega), hat 2 (by omega)⟩⟩
      · exact ⟨t0, fun q => absurd q hlt⟩
    obtain ⟨f, hf⟩ : ∃ f : Nat → Tri, ∀ i, i < len → (w.cell? ((x.add (i * 3)).add 0) = some (.int .i64 (f i).1) ∧ w.cell? ((x.add (i * 3)).add 1) = some (.int .i64 (f i).2.1) ∧ w.cell? ((x.add (i * 3)).add 2) = some (.int .i64 (f i).2.2)) := ⟨fun i => Classical.choose (key i), fun i => Classical.choose_spec (key i)⟩
    clear key
    refine ⟨(List.range len).map f, ⟨⟨some x, cap, by simp⟩, fun hpos => ?_⟩, by simp, by omega⟩
    have hpos' : 0 < len := by simpa using hpos
    have hc := (hf 0 hpos').1
    obtain ⟨b, off, spot⟩ := x
    have hspot : spot = none := by simpa [Addr.add] using World.cell?_spot hc
    subst hspot
    have hbl : b < w.heap.size := by
      have := World.block_lt_of_cell? w _ hc
      simpa [Addr.add] using this
    refine ⟨b, off, cap, by simp, hbl, fun i hi' => ?_⟩
    have hi2 : i < len := by simpa using hi'
    obtain ⟨q0, q1, q2⟩ := hf i hi2
    rw [add_none, add_none] at q0 q1 q2
    have hg : ((List.range len).map f).getD i t0 = f i := by
      rw [List.getD_eq_getElem?_getD, List.getElem?_map, List.getElem?_range hi2]; rfl
    rw [hg]
    exact ⟨q0, q1, q2⟩
end
end Go.Proofs.Ytmamnljgkkjkcaa
