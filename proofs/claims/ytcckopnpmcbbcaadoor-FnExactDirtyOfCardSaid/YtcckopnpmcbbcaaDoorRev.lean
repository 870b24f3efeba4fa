/- Reversing a row of periods. -/
import Derived.Test.YtcckopnpmcbbcaaDoorRow
import Derived.WalkKit
import Derived.WalkSpells
import Derived.WalkLawsBesides
import Derived.Lib.Hide
import Derived.IntWalk
import Derived.RegionTactic
import Derived.Shelf.RegionOpenPlain
import Derived.Outline
namespace Go.Proofs.YtcckopnpmcbbcaaDoor
open Go.RowKit
/-- The elements in reverse but for those between i and the place opposite. -/
def RevTo (ps qs : List Per) (i : Nat) : Prop := qs.length = ps.length ∧ ∀ t, t < ps.length → qs.getD t p0 = if t < i ∨ ps.length ≤ t + i then ps.getD (ps.length - 1 - t) p0 else ps.getD t p0
theorem revTo_start (ps : List Per) : RevTo ps ps 0 := ⟨rfl, fun t ht => by rw [if_neg (by omega)]⟩
theorem revTo_end {ps qs : List Per} {i : Nat} (h : RevTo ps qs i) (hi : ps.length ≤ 2 * i + 1) : qs = ps.reverse := by
  apply List.ext_getElem
  · rw [h.1, List.length_reverse]
  · intro t h1 h2
    have ht : t < ps.length := by rw [← h.1]; exact h1
    have e := h.2 t ht
    rw [List.getD_eq_getElem?_getD, List.getElem?_eq_getElem h1] at e
    rw [List.getElem_reverse]
    have e2 : ps.getD (ps.length - 1 - t) p0 = ps[ps.length - 1 - t]'(by omega) := by rw [List.getD_eq_getElem?_getD, List.getElem?_eq_getElem (by omega)]; rfl
    rw [← e2]
    by_cases c : t < i ∨ ps.length ≤ t + i
    · rw [if_pos c] at e; exact e
    · rw [if_neg c] at e
      rw [show ps.length - 1 - t = t by omega]
      exact e
def swapL (qs : List Per) (i j : Nat) : List Per := (qs.set i (qs.getD j p0)).set j (qs.getD i p0)
theorem revTo_step {ps qs : List Per} {i : Nat} (h : RevTo ps qs i) (hi : 2 * i + 1 < ps.length) : RevTo ps (swapL qs i (ps.length - 1 - i)) (i + 1) := by
  obtain ⟨h1, h2⟩ := h
  refine ⟨by simp [swapL, h1], fun t ht => ?_⟩
  unfold swapL
  have ei := h2 i (by omega)
  have ej := h2 (ps.length - 1 - i) (by omega)
  rw [if_neg (by omega)] at ei ej
  have g : ∀ (l : List Per) (a b : Nat) (x : Per), (l.set a x).getD b p0 = if a = b then (if b < l.length then x else p0) else l.getD b p0 := fun l a b x => by
    rw [List.getD_eq_getElem?_getD, List.getElem?_set]
    by_cases c : a = b
    · subst c
      rw [if_pos rfl, if_pos rfl]
      by_cases c' : a < l.length
      · rw [if_pos c', if_pos c']; rfl
      · rw [if_neg c', if_neg c']; rfl
    · rw [if_neg c, if_neg c, List.getD_eq_getElem?_getD]
  rw [g, g]
  by_cases c1 : ps.length - 1 - i = t
  · rw [if_pos c1, if_pos (by rw [List.length_set]; omega), ei, if_pos (by omega)]
    congr 1; omega
  · rw [if_neg c1]
    by_cases c2 : i = t
    · rw [if_pos c2, if_pos (by omega), ej, if_pos (by omega), ← c2]
    · rw [if_neg c2, h2 t ht]
      by_cases c3 : t < i ∨ ps.length ≤ t + i
      · rw [if_pos c3, if_pos (by omega)]
      · rw [if_neg c3, if_neg (by omega)]
theorem grown_dr (w : World) (r : Option Nat) : w.grownBy w.drew r := ⟨rfl, rfl, rfl, Nat.le_refl _, fun _ _ _ => rfl⟩
set_option maxHeartbeats 2000000 in
theorem rev_any (w : World) (B : Nat) (b cap : Nat) (ps : List Per) (h : PRow w B (.slice (some ⟨b, 0, none⟩) ps.length cap) ps) (hl : 0 < ps.length) (hm : ps.length ≤ 1000) :
    Calls Tryd.prog 52 #[.slice (some ⟨b, 0, none⟩) ps.length cap] w fun e w' => e = .returned (.tuple #[]) ∧ PRow w' B (.slice (some ⟨b, 0, none⟩) ps.length cap) ps.reverse ∧ w.grownBy w' (some b) := by
  have H := Lib.hid h; clear h
  obtain ⟨n, hn⟩ : ∃ n, n = ps.length := ⟨_, rfl⟩
  rw [← hn] at hl hm ⊢
  have HN := Lib.hid hn; clear hn
  go_enter Tryd.func52, Tryd.ntmps52
  go_wp2_with fail
  go_loopw [2, 3] (fun x y wr => ∃ (i : Nat) (qs : List Per), 2 * i ≤ n ∧ x = .int .i64 i ∧ y = .int .i64 ((n : Int) - 1 - i) ∧ Hid (RevTo ps qs i) ∧ Hid (qs.length = n ∧ PRow wr B (.slice (some ⟨b, 0, none⟩) qs.length cap) qs) ∧ w.grownBy wr (some b)) (fun x _ _ => n - (intOf x).toNat)
  case atStart => exact ⟨0, ps, by omega, rfl, by simp, Lib.hid (revTo_start ps), Lib.hid ⟨HN.out.symm, H.out⟩, ⟨rfl, rfl, rfl, Nat.le_refl _, fun _ _ _ => rfl⟩⟩
  case round =>
    obtain ⟨i, qs, hi, rfl, rfl, HR, HQ, hg⟩ := hrel
    by_cases hlt : 2 * i + 1 < n
    · obtain ⟨b', cap', e', hb', hblt, hcap, hc, hf⟩ := HQ.out.2.form (by have := HQ.out.1; omega)
      simp only [Value.slice.injEq, Option.some.injEq, Addr.mk.injEq, and_true, true_and] at e'
      obtain ⟨rfl, rfl⟩ := e'
      have hq : qs.length = n := HQ.out.1
      obtain ⟨a0, a1, a2⟩ := hc i (by omega)
      obtain ⟨c0, c1, c2⟩ := hc (n - 1 - i) (by omega)
      clear hc hq
      obtain ⟨j, hj⟩ : ∃ j : Nat, j = n - 1 - i := ⟨_, rfl⟩
      rw [← hj] at c0 c1 c2
      have ej : (n : Int) - 1 - i = j := by omega
      have hij : i < j := by omega
      have hjn : j < n := by omega
      rw [ej]
      have HJ := Lib.hid hj
      clear hj ej
      obtain ⟨x, hx⟩ : ∃ x, x = qs.getD i p0 := ⟨_, rfl⟩
      obtain ⟨y, hy⟩ : ∃ y, y = qs.getD j p0 := ⟨_, rfl⟩
      rw [← hx] at a0 a1 a2
      rw [← hy] at c0 c1 c2
      have HX := Lib.hid hx; clear hx
      have HY := Lib.hid hy; clear hy
      obtain ⟨x1, x2, x3⟩ := x
      obtain ⟨y1, y2, y3⟩ := y
      dsimp only at a0 a1 a2 c0 c1 c2
      have f0 := hf (i * 3)
      have f1 := hf (i * 3 + 1)
      have f2 := hf (i * 3 + 2)
      have g0 := hf (j * 3)
      have g1 := hf (j * 3 + 1)
      have g2 := hf (j * 3 + 2)
      clear hf hcap
      go_wp2_with fail
      go_region
      have hq := HQ.out
      have hi' : i < qs.length := by rw [hq.1]; omega
      have S1 := PRow.store hq.2 i hi' y1 y2 y3
      have S2 := PRow.store S1.1 j (by rw [List.length_set, hq.1]; omega) x1 x2 x3
      have es : (qs.set i (y1, y2, y3)).set j (x1, x2, x3) = swapL qs i j := by unfold swapL; rw [← HX.out, ← HY.out]
      rw [es] at S2
      have hs := revTo_step HR.out (by rw [← HN.out]; omega)
      rw [← HN.out, ← HJ.out] at hs
      have HS2 := Lib.hid S2
      have HS1 := Lib.hid S1.2
      have HR2 := Lib.hid hs
      clear S1 S2 hs es hq hi'
      go_wp2_with fail
      go_roundw
      case rel =>
        refine ⟨i + 1, swapL qs i j, by omega, by go_num, by congr 1; have := HJ.out; omega, HR2, Lib.hid ⟨by have := HQ.out.1; simp [swapL]; omega, World.ownsRow.drew HS2.out.1⟩, ?_⟩
        exact hg.trans (HS1.out.trans (HS2.out.2.trans (grown_dr _ _)))
      case measure => simp [intOf]; omega
    · have c : ¬ (i : Int) < (n : Int) - 1 - i := by omega
      have HF := Lib.hid (revTo_end HR.out (by rw [← HN.out]; omega))
      go_wp2_with fail
      go_end0
      exact ⟨rfl, by have := HQ.out; rw [HF.out] at this; rw [← this.1]; exact this.2, hg⟩
end Go.Proofs.YtcckopnpmcbbcaaDoor
