/- Weights with a cap: the program's parts. -/
import Derived.Test.YtgkldgljebhcgaaCwB
import Derived.Test.YtgkldgljebhcgaaCwN
import Derived.Test.YtgkldgljebhcgaaMinMax
import Derived.Lib.LazyBuf
namespace Go.Proofs.Ytgkldgljebhcgaa
open Go.RowKit
theorem Cw.above_take {L : Int} {ws : List Int} {i : Nat} (hi : i < ws.length) : Cw.above L (ws.take (i + 1)) = Cw.above L (ws.take i) + max (ws.getD i 0 - L) 0 := by
  unfold Cw.above
  rw [take_snoc1 hi, List.map_append, List.sum_append]
  simp
theorem Cw.above_le {L : Int} (hL : 0 ≤ L) {ws : List Int} (hw : ∀ i, i < ws.length → 0 ≤ ws.getD i 0 ∧ ws.getD i 0 ≤ 1000) : ∀ i : Nat, i ≤ ws.length → 0 ≤ Cw.above L (ws.take i) ∧ Cw.above L (ws.take i) ≤ 1000 * (i : Int)
  | 0, _ => by simp [Cw.above]
  | i + 1, hi => by
    have h := Cw.above_le hL hw i (by omega)
    have h1 := hw i (by omega)
    rw [Cw.above_take (by omega)]
    omega
set_option maxHeartbeats 400000 in
theorem cw1_any (p L : Int) (w : World) (q : Nat) (hq : w.cell? ⟨q, 0, none⟩ = some (.int .i64 L)) (hp : 0 ≤ p ∧ p ≤ 1000) (hL : 0 ≤ L ∧ L ≤ 1000) :
    Calls Try.prog 35 #[.int .i64 p, .pointer (some ⟨q, 0, none⟩)] w fun e w' => e = .returned (.int .i64 (max (p - L) 0)) ∧ w = w' := by
  obtain ⟨t, ht⟩ : ∃ t, t = max (p - L) 0 := ⟨_, rfl⟩
  rw [← ht]
  have fmax : ∀ W : World, (Builtin.max_ #[3, 3] 3 #[.int .i64 (p - L), .int .i64 0]).run Try.prog W = .ok (.int .i64 t) W := fun W => by rw [ht]; exact run_max2' _ _ _ _ W
  clear ht
  obtain ⟨p0, p1⟩ := hp
  obtain ⟨L0, L1⟩ := hL
  go_enter Try.func35, Try.ntmps35
  go_wp2_with fail
  go_ret
  exact ⟨rfl, rfl⟩
set_option maxHeartbeats 1000000 in
theorem sumCw_any (w : World) (v : Value) (ws : List Int) (L : Int) (q : Nat) (hv : R1o w v ws) (hm : ws.length ≤ 8) (hw : ∀ i, i < ws.length → 0 ≤ ws.getD i 0 ∧ ws.getD i 0 ≤ 1000) (hL : 0 ≤ L ∧ L ≤ 1000) (hq : w.cell? ⟨q, 0, none⟩ = some (.int .i64 L)) :
    Calls Try.prog 34 #[v, .func (.func 35) #[] #[.pointer (some ⟨q, 0, none⟩)]] w fun e w' => e = .returned (.int .i64 (Cw.above L ws)) ∧ w = w' := by
  obtain ⟨⟨a, c, rfl⟩, h1⟩ := hv
  have H1 := Lib.hid h1; clear h1
  have HA := Lib.hid hw
  have HLb := Lib.hid hL
  have HBd := Lib.hid (Cw.above_le hL.1 hw)
  have HT := Lib.hid (fun i (hi : i < ws.length) => Cw.above_take (L := L) hi)
  have HE := Lib.hid (show ∀ i, ws.length ≤ i → ws.take i = ws from fun i hi => List.take_of_length_le hi)
  have C1 := Lib.hid (fun p hp => cw1_any p L w q hq hp hL)
  clear hw hq hL
  obtain ⟨n, hn⟩ : ∃ n, n = ws.length := ⟨_, rfl⟩
  rw [← hn] at hm H1 HA HBd HT HE ⊢
  clear hn
  go_enter Try.func34, Try.ntmps34
  go_wp2_with fail
  go_loop [5, 10] (fun s x => ∃ i : Nat, i ≤ n ∧ x = .int .i64 i ∧ s = .int .i64 (Cw.above L (ws.take i))) (fun _ x => n - (intOf x).toNat)
  case atStart => exact ⟨0, Nat.zero_le _, rfl, by simp [Cw.above]⟩
  case round =>
    obtain ⟨i, hi, rfl, rfl⟩ := hrel
    by_cases hlt : i < n
    · obtain ⟨b, off, d', e, hbl, hc⟩ := H1.out (by omega)
      simp only [Value.slice.injEq, true_and] at e
      obtain ⟨rfl, rfl⟩ := e
      have c0 := hc i hlt
      clear hc
      have hone := HA.out i hlt
      obtain ⟨s0, s1⟩ := HBd.out i hi
      have HTi := Lib.hid (HT.out i hlt)
      generalize ws.getD i 0 = p at c0 hone HTi
      have WM := Lib.hid (C1.out p hone)
      have hmx : 0 ≤ max (p - L) 0 ∧ max (p - L) 0 ≤ 1000 := by have := HLb.out; omega
      generalize max (p - L) 0 = u at HTi WM hmx
      generalize Cw.above L (ws.take i) = S at s0 s1 HTi ⊢
      obtain ⟨u0, u1⟩ := hmx
      clear hone
      go_wp2_with fail
      refine WM.out.mono ?_
      rintro e w2 ⟨rfl, rfl⟩
      go_wp2_with fail
      go_round
      case rel => exact ⟨i + 1, by omega, by go_num, by rw [HTi.out]⟩
      case measure => simp [intOf]; omega
    · obtain rfl : i = n := by omega
      rw [HE.out i (Nat.le_refl _)]
      go_wp2_with fail
      go_ret
      exact ⟨rfl, rfl⟩
theorem Cw.any_take {L : Int} {ws : List Int} {i : Nat} (hi : i < ws.length) : Cw.anyB L (ws.take (i + 1)) = (Cw.anyB L (ws.take i) || decide (L < ws.getD i 0)) := by
  unfold Cw.anyB
  rw [take_snoc1 hi, List.any_append]
  simp
set_option maxHeartbeats 1000000 in
theorem max_any (w : World) (v : Value) (ws : List Int) (hv : R1o w v ws) (h0 : 1 ≤ ws.length) (hm : ws.length ≤ 8) :
    Calls Try.prog 24 #[v] w fun e w' => (∃ m, e = .returned (.int .i64 m) ∧ ∀ L, decide (L < m) = Cw.anyB L ws) ∧ w = w' := by
  obtain ⟨-, h1⟩ := hv
  obtain ⟨b, off, c, rfl, hbl, hc⟩ := h1 (by omega)
  have H1 := Lib.hid hc
  have c0 := hc 0 (by omega)
  rw [Nat.add_zero] at c0
  clear hc h1
  have HT := Lib.hid (fun i (hi : i < ws.length) L => Cw.any_take (L := L) hi)
  have HE := Lib.hid (show ∀ i, ws.length ≤ i → ws.take i = ws from fun i hi => List.take_of_length_le hi)
  have H0 := Lib.hid (show ∀ L, decide (L < ws.getD 0 0) = Cw.anyB L (ws.take 1) from fun L => by rw [Cw.any_take (by omega)]; rfl)
  generalize hp0 : ws.getD 0 0 = p0 at c0 H0
  clear hp0
  obtain ⟨n, hn⟩ : ∃ n, n = ws.length := ⟨_, rfl⟩
  rw [← hn] at h0 hm H1 HT HE ⊢
  clear hn
  have n1 : (1 : Int) ≤ n := by omega
  go_enter Try.func24, Try.ntmps24
  go_wp2_with fail
  go_loop [3, 4] (fun s x => ∃ (i : Nat) (m : Int), 1 ≤ i ∧ i ≤ n ∧ x = .int .i64 i ∧ s = .int .i64 m ∧ Hid (∀ L, decide (L < m) = Cw.anyB L (ws.take i))) (fun _ x => n - (intOf x).toNat)
  case atStart => exact ⟨1, p0, Nat.le_refl _, h0, rfl, rfl, H0⟩
  case round =>
    obtain ⟨i, m, hi1, hi, rfl, rfl, HM⟩ := hrel
    by_cases hlt : i < n
    · have c1 := H1.out i hlt
      have HTi := Lib.hid (HT.out i hlt)
      generalize ws.getD i 0 = p at c1 HTi
      obtain ⟨t, ht⟩ : ∃ t, t = max m p := ⟨_, rfl⟩
      have HTt := Lib.hid ht
      have fmax : ∀ W : World, (Builtin.max_ #[3, 3] 3 #[.int .i64 m, .int .i64 p]).run Try.prog W = .ok (.int .i64 t) W := fun W => by rw [ht]; exact run_max2' _ _ _ _ W
      clear ht
      go_wp2_with fail
      go_round
      case rel => exact ⟨i + 1, t, by omega, by omega, by go_num, rfl, Lib.hid (fun L => by rw [HTi.out, ← HM.out L, HTt.out, ← Bool.decide_or]; exact decide_eq_decide.2 (by omega))⟩
      case measure => simp [intOf]; omega
    · obtain rfl : i = n := by omega
      go_wp2_with fail
      go_ret
      exact ⟨⟨m, rfl, fun L => by rw [HM.out L, HE.out i (Nat.le_refl _)]⟩, rfl⟩
set_option maxHeartbeats 1000000 in
theorem clone_any (w : World) (v : Value) (ws : List Int) (hv : R1o w v ws) (h0 : 1 ≤ ws.length) (hm : ws.length ≤ 8) :
    Calls Try.prog 23 #[v] w (HandsI ws w) := by
  obtain ⟨-, h1⟩ := hv
  obtain ⟨b, off, c, rfl, hbl, hc⟩ := h1 (by omega)
  have HC := Lib.hid (show ∀ j u, (ws.map (Value.int .i64))[j]? = some u → (w.alloc (.cells #[] 3)).cell? ((⟨b, off, none⟩ : Addr).add j) = some u from fun j u hu => by
    have hj : j < ws.length := by
      rcases Nat.lt_or_ge j ws.length with h | h
      · exact h
      · rw [List.getElem?_eq_none (by simpa using h)] at hu; cases hu
    have e : (⟨b, off, none⟩ : Addr).add j = ⟨b, off + j, none⟩ := by unfold Addr.add; split <;> simp_all
    rw [e, (((Below.refl _ _).alloc (Nat.le_refl _) _ : Below w.heap.size w (w.alloc (.cells #[] 3))).cell (p := ⟨b, off + j, none⟩) hbl).trans (hc j hj)]
    rw [List.getElem?_map, List.getElem?_eq_getElem hj] at hu
    rw [Sr.getD_get hj]
    simpa using hu)
  have HO := Lib.hid (own_new w)
  have hbA := Lib.hid ((Below.refl w.heap.size w).alloc (Nat.le_refl _) (.cells #[] 3))
  obtain ⟨i0, hi, hz0, hz1, hz2⟩ := info_parts infoInt
  clear hc h1
  have fnil : ∀ W : World, (binOp .eql 23 (.slice (some ⟨b, off, none⟩) ws.length c) (.slice none 0 0)).run Try.prog W = .ok (.bool false) W := fun W => run_eql_slice_nil W _ _ (some ⟨b, off, none⟩) _ _ Try.underlying23
  go_enter Try.func23, Try.ntmps23
  go_wp2_with (at_builtin; refine wpList_append_own _ rfl _ _ 23 rfl w.heap.size 3 i0 (.int .i64 0) 1 8 Try.underlying23 hi hz0 hz1 hz2 rfl (by decide) (.slice (some ⟨w.heap.size, 0, none⟩) 0 0) 0 [] rfl HO.out.1 ⟨b, off, none⟩ ws.length c (ws.map (Value.int .i64)) rfl (by simp) HC.out (ints_oneCell .i64 ws) (by unfold maxLen; omega) (by omega) (by simp) ?_; intro v5 w5 hown5 hg5 hv5)
  go_ret
  refine ⟨v5, rfl, ?_, ?_⟩
  · unfold IRow; simpa using hown5
  · exact hbA.out.grown hg5 (by simp) (fun j hj => by simp [Value.ownBlock] at hj; omega)
end Go.Proofs.Ytgkldgljebhcgaa
