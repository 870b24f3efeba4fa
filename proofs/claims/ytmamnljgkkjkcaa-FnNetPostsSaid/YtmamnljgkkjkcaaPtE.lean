/- Rows of postings, compared by the laws. -/
import Derived.Test.YtmamnljgkkjkcaaTrPPost
import Derived.Test.YtmamnljgkkjkcaaKp
namespace Go.Proofs.Ytmamnljgkkjkcaa
open Go.RowKit
theorem TRow.sl {T : TypeId} {w : World} {B : Nat} {v : Value} {ps : List Tri} (h : TRow T w B v ps) (hn : v ≠ .slice none 0 0) : ∃ b c, v = .slice (some ⟨b, 0, none⟩) ps.length c := by
  rcases h.2 with ⟨rfl, _⟩ | ⟨b, cap, cur, rfl, _⟩
  · exact absurd rfl hn
  · exact ⟨_, _, rfl⟩
theorem TRow.lt {T : TypeId} {w : World} {B : Nat} {v : Value} {ps : List Tri} (h : TRow T w B v ps) : ∀ j, v.ownBlock = some j → B ≤ j ∧ j < w.heap.size := World.ownsRow.lt h
theorem TRow.sli {T : TypeId} {w : World} {B : Nat} {v : Value} {ps : List Tri} (h : TRow T w B v ps) : ∃ a c, v = .slice a ps.length c := by
  rcases h.2 with ⟨rfl, h3⟩ | ⟨b, cap, cur, rfl, _⟩
  · exact ⟨none, 0, by rw [h3]⟩
  · exact ⟨_, _, rfl⟩
theorem belowE {B : Nat} {a w : World} (h : Below B a w) (n : Nat) : Below B a (w.drewN n) := ⟨h.os, h.tape, h.output, h.size, h.block⟩
set_option maxRecDepth 8000 in
set_option maxHeartbeats 1000000 in
theorem eqPo_same (w : World) (v u : Value) (fs : List Tri) (hv : R3o w v fs) (hu : R3o w u fs) (hm : fs.length ≤ 1000) :
    Calls Try.prog 15 #[v, u] w fun e w' => e = .returned (.bool true) ∧ Below w.heap.size w w' := by
  obtain ⟨⟨a, c, rfl⟩, h1⟩ := hv
  obtain ⟨⟨a', c', rfl⟩, h2⟩ := hu
  have H1 := Lib.hid h1; clear h1
  have H2 := Lib.hid h2; clear h2
  obtain ⟨n, hn⟩ : ∃ n, n = fs.length := ⟨_, rfl⟩
  rw [← hn] at hm ⊢
  have HN := Lib.hid hn; clear hn
  go_enter Try.func15, Try.ntmps15
  go_wp2_with fail
  go_loopw [5] (fun x wr => ∃ i : Nat, i ≤ n ∧ x = .int .i64 i ∧ Below w.heap.size w wr) (fun x _ => n - (intOf x).toNat)
  case atStart => exact ⟨0, Nat.zero_le _, rfl, Below.refl _ _⟩
  case round =>
    obtain ⟨i, hi, rfl, hb⟩ := hrel
    by_cases hlt : i < n
    · obtain ⟨b, off, d, e, hbl, hc⟩ := H1.out (by rw [← HN.out]; omega)
      obtain ⟨b', off', d', e', hbl', hc'⟩ := H2.out (by rw [← HN.out]; omega)
      rw [← HN.out] at e e'
      simp only [Value.slice.injEq, true_and] at e e'
      obtain ⟨rfl, rfl⟩ := e
      obtain ⟨rfl, rfl⟩ := e'
      obtain ⟨c0, c1, c2⟩ := hc i (by rw [← HN.out]; exact hlt)
      obtain ⟨g0, g1, g2⟩ := hc' i (by rw [← HN.out]; exact hlt)
      replace c0 := (hb.cell (p := ⟨b, off + i * 3, none⟩) hbl).trans c0
      replace c1 := (hb.cell (p := ⟨b, off + i * 3 + 1, none⟩) hbl).trans c1
      replace c2 := (hb.cell (p := ⟨b, off + i * 3 + 2, none⟩) hbl).trans c2
      replace g0 := (hb.cell (p := ⟨b', off' + i * 3, none⟩) hbl').trans g0
      replace g1 := (hb.cell (p := ⟨b', off' + i * 3 + 1, none⟩) hbl').trans g1
      replace g2 := (hb.cell (p := ⟨b', off' + i * 3 + 2, none⟩) hbl').trans g2
      clear hc hc'
      generalize fs.getD i t0 = p at c0 c1 c2 g0 g1 g2
      obtain ⟨p1, p2, p3⟩ := p
      dsimp only at c0 c1 c2 g0 g1 g2
      have e0 : (p1 != p1) = false := by simp
      have e1 : (p2 != p2) = false := by simp
      have e2 : (p3 != p3) = false := by simp
      go_wp2_with fail
      go_quiet (fail)
      go_wp2_with fail
      go_roundw
      case rel => exact ⟨i + 1, by omega, by go_num, belowE hb _⟩
      case measure => simp [intOf]; omega
    · obtain rfl : i = n := by omega
      go_wp2_with fail
      go_ret
      exact ⟨rfl, hb⟩
end Go.Proofs.Ytmamnljgkkjkcaa
