/- The exact laws of business days. -/
import Derived.Test.YtdmamojidefdaaaHolM
namespace Go.Proofs.Ytdmamojidefdaaa
open Go.RowKit
theorem below_drewN' {B : Nat} {a w : World} (h : Below B a w) (n : Nat) : Below B a (w.drewN n) := ⟨h.os, h.tape, h.output, h.size, h.block⟩
theorem ints_of_row {w : World} {a : Option Addr} {len cap : Nat} {zs : List Int} (h : IsRow .i64 w a len cap zs) : (zs.take len).length = len ∧ Ints w w.heap.size a (zs.take len) := by
  rcases h with ⟨rfl, rfl, rfl, rfl⟩ | ⟨x, rfl, h1, h2, h3, h4, h5⟩
  · exact ⟨rfl, fun hl => by simp at hl⟩
  · have hlen : (zs.take len).length = len := by simp; omega
    refine ⟨hlen, fun hl => ?_⟩
    have hc := h4 0 (by omega)
    obtain ⟨b, off, spot⟩ := x
    have hspot : spot = none := by simpa [Addr.add] using World.cell?_spot hc
    subst hspot
    have hb : b < w.heap.size := by
      rcases Nat.lt_or_ge b w.heap.size with hlt | hge
      · exact hlt
      · simp [World.cell?, Addr.add, Array.getElem?_eq_none hge] at hc
    refine ⟨b, off, rfl, hb, fun i hi => ?_⟩
    have hi' := h4 i (by omega)
    have e : (Addr.add ⟨b, off, none⟩ i : Addr) = ⟨b, off + i, none⟩ := by unfold Addr.add; split <;> simp_all
    rw [e] at hi'
    rw [hi']
    simp [List.getD_eq_getElem?_getD, show i < len by omega]
end Go.Proofs.Ytdmamojidefdaaa
