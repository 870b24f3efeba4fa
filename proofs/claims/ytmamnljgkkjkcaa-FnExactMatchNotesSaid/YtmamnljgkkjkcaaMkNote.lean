/- Marks laid into slices of Notes. -/
import Derived.Test.YtmamnljgkkjkcaaTrXNote
import Derived.Test.YtmamnljgkkjkcaaI1
namespace Go.Proofs.Ytmamnljgkkjkcaa
open Go.RowKit
def MkNote (ps : List Tri) (m : Int) (k : Nat) : Prop := ∀ i, i < k → ps.getD i t0 = (m + 3 * (i : Int), m + 3 * (i : Int) + 1, m + 3 * (i : Int) + 1 + 1)
def MarkedNote (w : World) (B : Nat) (v : Value) (n : Nat) (m : Int) (e : Ending) (w' : World) : Prop :=
  ∃ ys, e = .returned (.int .i64 (m + 3 * n)) ∧ ys.length = n ∧ TRow 48 w' B v ys ∧ MkNote ys m n ∧ w.grownBy w' v.ownBlock
theorem TRow.sliceOfNote {w : World} {B : Nat} {v : Value} {ps : List Tri} (h : TRow 48 w B v ps) : ∃ a c, v = .slice a ps.length c := by
  rcases h.2 with ⟨rfl, h3⟩ | ⟨b, cap, cur, rfl, _⟩
  · exact ⟨none, 0, by rw [h3]⟩
  · exact ⟨_, _, rfl⟩
theorem grown_reflNote (w : World) (r : Option Nat) : w.grownBy w r := ⟨rfl, rfl, rfl, Nat.le_refl _, fun _ _ _ => rfl⟩
theorem grown_transNote {a b c : World} {r : Option Nat} (h : a.grownBy b r) (k : b.grownBy c r) : a.grownBy c r :=
  ⟨k.os.trans h.os, k.tape.trans h.tape, k.output.trans h.output, Nat.le_trans h.size k.size, fun i hi hne => (k.block i (Nat.lt_of_lt_of_le hi h.size) hne).trans (h.block i hi hne)⟩
set_option maxRecDepth 8000 in
set_option maxHeartbeats 1000000 in
theorem markNote_any (w : World) (B : Nat) (v : Value) (xs : List Tri) (m : Int) (hv : TRow 48 w B v xs) (hl : xs.length ≤ 1048576) (m0 : 0 ≤ m) (m1 : m ≤ 10000000) :
    Calls Try.prog 47 #[v, .int .i64 m] w (MarkedNote w B v xs.length m) := by
  have HV := Lib.hid hv
  obtain ⟨a, cap, rfl⟩ := hv.sliceOfNote
  clear hv
  have hm : (xs.length : Int) ≤ 1048576 := by omega
  obtain ⟨n, hn⟩ : ∃ n, n = xs.length := ⟨_, rfl⟩
  rw [← hn] at hl hm HV ⊢
  go_enter Try.func47, Try.ntmps47
  go_wp2_with fail
  go_loopw [1, 5] (fun o y wr => ∃ (k : Nat) (ys : List Tri), k ≤ n ∧ y = .int .i64 k ∧ o = .int .i64 (m + 3 * k) ∧ Hid (ys.length = n) ∧ Hid (TRow 48 wr B (.slice a n cap) ys) ∧ Hid (MkNote ys m k) ∧ Hid (w.grownBy wr (Value.slice a n cap).ownBlock)) (fun _ y _ => n - (intOf y).toNat)
  case atStart => exact ⟨0, xs, Nat.zero_le _, rfl, by go_num, Lib.hid hn.symm, HV, Lib.hid (fun i hi => by omega), Lib.hid (grown_reflNote _ _)⟩
  case round =>
    obtain ⟨k, ys, hk, rfl, rfl, HL, HF, HM, HG⟩ := hrel
    by_cases hlt : k < n
    · obtain ⟨b, cap4, e4, -, hbl4, -, hc4, hf4⟩ := HF.out.form (by rw [HL.out]; omega)
      rw [HL.out] at e4
      simp only [Value.slice.injEq, true_and] at e4
      obtain ⟨rfl, rfl⟩ := e4
      obtain ⟨d0, d1, d2⟩ := hc4 k (by rw [HL.out]; exact hlt)
      have g0 := hf4 (k * 3)
      have g1 := hf4 (k * 3 + 1)
      have g2 := hf4 (k * 3 + 2)
      clear hc4 hf4
      have HF2 := HF
      rw [← HL.out] at HF2
      have HS := Lib.hid (HF2.out.store k (by rw [HL.out]; exact hlt) (m + 3 * k) (m + 3 * k + 1) (m + 3 * k + 1 + 1))
      have hi : (k : Int) < n := by omega
      generalize ys.getD k t0 = y at d0 d1 d2
      go_wp2_with fail
      go_roundw
      case rel =>
        refine ⟨k + 1, ys.set k (m + 3 * (k : Int), m + 3 * (k : Int) + 1, m + 3 * (k : Int) + 1 + 1), by omega, by go_num, by go_num, Lib.hid (by rw [List.length_set]; exact HL.out), ?_, Lib.hid (fun i hi' => ?_), Lib.hid (grown_transNote HG.out (by have h := HS.out.2; exact h))⟩
        · have h := HS.out.1
          rw [List.length_set, HL.out] at h
          exact Lib.hid (by exact h)
        · rw [List.getD_eq_getElem?_getD, List.getElem?_set]
          by_cases q : k = i
          · subst q; simp [show k < ys.length by rw [HL.out]; exact hlt]
          · rw [if_neg q, ← List.getD_eq_getElem?_getD]
            exact HM.out i (by omega)
      case measure => simp [intOf] <;> omega
    · obtain rfl : k = n := by omega
      go_wp2_with fail
      go_ret
      exact ⟨ys, rfl, HL.out, HF.out, HM.out, HG.out⟩
set_option maxRecDepth 8000 in
set_option maxHeartbeats 1000000 in
theorem heldNote_any (w : World) (v : Value) (xs : List Tri) (m : Int) (hv : R3o w v xs) (hx : MkNote xs m xs.length) (hl : xs.length ≤ 1048576) (m0 : 0 ≤ m) (m1 : m ≤ 10000000) :
    Calls Try.prog 50 #[v, .int .i64 m] w fun e w' => e = .returned (.int .i64 (m + 3 * xs.length)) ∧ w = w' := by
  obtain ⟨⟨a, cap, rfl⟩, h1⟩ := hv
  have H := Lib.hid h1; clear h1
  have HX := Lib.hid hx; clear hx
  have hm : (xs.length : Int) ≤ 1048576 := by omega
  go_enter Try.func50, Try.ntmps50
  go_wp2_with fail
  go_loop [1, 5] (fun o y => ∃ k : Nat, k ≤ xs.length ∧ y = .int .i64 k ∧ o = .int .i64 (m + 3 * k)) (fun _ y => xs.length - (intOf y).toNat)
  case atStart => exact ⟨0, Nat.zero_le _, rfl, by go_num⟩
  case round =>
    obtain ⟨k, hk, rfl, rfl⟩ := hrel
    by_cases hlt : k < xs.length
    · obtain ⟨b, off, c, e, hbb, hc⟩ := H.out (by omega)
      simp only [Value.slice.injEq, true_and] at e
      obtain ⟨rfl, rfl⟩ := e
      have hck := hc k hlt
      clear hc
      rw [HX.out k hlt] at hck
      simp only at hck
      obtain ⟨d0, d1, d2⟩ := hck
      have hne0 : (m + 3 * (k : Int) != m + 3 * (k : Int)) = false := by simp
      have hne1 : (m + 3 * (k : Int) + 1 != m + 3 * (k : Int) + 1) = false := by simp
      have hne2 : (m + 3 * (k : Int) + 1 + 1 != m + 3 * (k : Int) + 1 + 1) = false := by simp
      go_wp2_with fail
      go_round
      case rel => exact ⟨k + 1, by omega, by go_num, by go_num⟩
      case measure => simp [intOf] <;> omega
    · obtain rfl : k = xs.length := by omega
      go_wp2_with fail
      go_ret
      exact ⟨rfl, rfl⟩
end Go.Proofs.Ytmamnljgkkjkcaa
