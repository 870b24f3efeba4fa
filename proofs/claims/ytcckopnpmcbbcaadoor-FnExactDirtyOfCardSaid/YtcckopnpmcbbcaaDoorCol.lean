/- The periods from the last one on: the iterator, and what collects it. -/
import Derived.RangeFuncNested
import Derived.RangeFuncBound
import Derived.RangeFuncCalls
import Derived.RangeFuncLeaves
import Derived.RangeFuncBox
import Derived.Shelf.Abstract
import Derived.Shelf.RegionOpen
import Derived.WalkKit
import Derived.OwnWalkIn
import Derived.TacticsInMore
import Derived.LoopNIn
import Derived.LoopIn
import Derived.Maps.AppendAt
import Derived.Test.YtcckopnpmcbbcaaDoorSch
import Derived.Test.YtcckopnpmcbbcaaDoorDrawB
import Derived.Test.YtcckopnpmcbbcaaDoorDate2
import Derived.Test.YtcckopnpmcbbcaaDoorRow
namespace Go.Proofs.YtcckopnpmcbbcaaDoor
open Go.RowKit Go.Shelf
attribute [local go_sem] Oper.semAt_some
def pv (p : Per) : Value := .agg #[.int .i64 p.1, .int .i64 p.2.1, .bool p.2.2]
def encP (p : Per) : Array Value := #[pv p]
theorem addM_S (e m : Int) (k : Nat) (w : World) (hT : Tab w) :
    Calls Tryd.prog 76 #[.int .i64 e, .int .i64 (-(k : Int) * m)] w fun x w' => x = .returned (.int .i64 (Sc.S e m k)) ∧ Below w.heap.size w w' := by
  have h := addMonths_any e (-(k : Int) * m) w hT
  have e1 : addV e (-(k : Int) * m) = Sc.S e m k := by unfold Sc.S; rw [Int.neg_mul]
  rw [e1] at h
  exact h
theorem grown_of_below {w w' : World} (hb : Below w.heap.size w w') : w.grownBy w' none := ⟨hb.os, hb.tape, hb.output, hb.size, fun k hk _ => hb.block k hk⟩
set_option maxRecDepth 100000 in
set_option maxHeartbeats 1000000 in
theorem back1_in (n : Nat) (hn : 1 ≤ n) (s e m : Int) (ok : Sc.okB s e m = true) (l n₀ Be Bs Bm : Nat) (hBe : Be < n₀) (hBs : Bs < n₀) (hBm : Bm < n₀) (hp : 0 < n₀) (J Jx : List Per → World → Prop)
    (hY : ∀ pre x W, J pre W → pre.length < 41 → YieldAt Fence.wide (n - 1) Tryd.prog l (encP x) W fun e W' =>
      (e = .returned (.bool true) ∧ J (pre ++ [x]) W' ∧ Below n₀ W W') ∨ (e = .returned (.bool false) ∧ Jx (pre ++ [x]) W'))
    (W : World) (hJb : ∀ pre W1 W2, J pre W1 → Below W1.heap.size W1 W2 → J pre W2) (hn₀ : n₀ ≤ W.heap.size) (hT : Tab W)
    (ce : W.cell? ⟨Be, 0, none⟩ = some (.int .i64 e)) (cs : W.cell? ⟨Bs, 0, none⟩ = some (.int .i64 s)) (cm : W.cell? ⟨Bm, 0, none⟩ = some (.int .i64 m)) (h0 : J [] W) :
    CallsIn Fence.wide n Tryd.prog 75 #[.func (.yield l) #[] #[], .pointer (some ⟨Be, 0, none⟩), .pointer (some ⟨Bs, 0, none⟩), .pointer (some ⟨Bm, 0, none⟩)] W fun x W' => (∃ v, x = .returned v) ∧
      ((∃ ys, ys = Sc.back s e m (Sc.N s e m) ∧ J ys W') ∨ (∃ pre, pre <+: Sc.back s e m (Sc.N s e m) ∧ Jx pre W')) := by
  obtain ⟨⟨s0, se, e1⟩, hm⟩ := Sc.okB_iff.1 ok
  obtain ⟨m0, m1⟩ := Sc.mon_bd hm
  have OK := Lib.hid ok; clear ok
  have HM := Lib.hid hm; clear hm
  have HT := Lib.hid hT; clear hT
  have HY := Lib.hid hY; clear hY
  have HJ := Lib.hid hJb; clear hJb
  refine callsIn_of_wp Tryd.func75 rfl trivial ?_ rfl
  simp only [Tryd.ntmps75, List.size_toArray, List.length_cons, List.length_nil, Nat.reduceAdd, Nat.reduceSub, Array.replicate_succ, Array.replicate_zero, List.push_toArray, List.append_toArray, List.nil_append, List.cons_append]
  gi_wp2
  have CE := Lib.hid ce; clear ce
  have CS := Lib.hid cs; clear cs
  have CM := Lib.hid cm; clear cm
  gi_loopw [5, 6] (fun t k wr => ∃ j : Nat, 1 ≤ j ∧ j ≤ 42 ∧ k = .int .i64 j ∧ t = .int .i64 (Sc.S e m (j - 1)) ∧ J (Sc.back s e m (j - 1)) wr ∧ Below n₀ W wr ∧ Hid (∀ i, i < j - 1 → s < Sc.S e m i)) (fun _ k _ => 42 - (intOf k).toNat)
  case atStart => exact ⟨1, by omega, by omega, rfl, by rw [show 1 - 1 = 0 from rfl, Sc.S_zero (by omega) e1], h0, Below.refl _ _, Lib.hid fun i hi => by omega⟩
  case round =>
    obtain ⟨j, j1, j2, rfl, rfl, hJ, hb, HS⟩ := hrel
    have HJ1 := Lib.hid hJ; clear hJ
    have ce := (hb.cell (p := ⟨Be, 0, none⟩) hBe).trans CE.out
    have cs := (hb.cell (p := ⟨Bs, 0, none⟩) hBs).trans CS.out
    have cm := (hb.cell (p := ⟨Bm, 0, none⟩) hBm).trans CM.out
    have hsz := hb.size
    obtain ⟨b0, b1⟩ := Sc.S_bd e m (j - 1)
    obtain ⟨d0, d1⟩ := Sc.S_bd e m j
    by_cases hc : s < Sc.S e m (j - 1) ∧ j ≤ 41
    · obtain ⟨hc1, hc2⟩ := hc
      have hkm := Sc.km_bd HM.out (k := j) (by omega)
      have hneg : -504 ≤ -(j : Int) * m ∧ -(j : Int) * m ≤ 0 := by rw [Int.neg_mul]; omega
      obtain ⟨n0, n1⟩ := hneg
      have c1 : ((j : Nat) : Int) ≤ 41 := by omega
      have HTr := Lib.hid (HT.out.below hb hp)
      rcases Int.lt_or_le (Sc.S e m j) s with q | q
      · have hP := (show Sc.P s e m j = (s, Sc.S e m (j - 1), false) by unfold Sc.P; rw [Int.max_eq_right (by omega), decide_eq_false (by omega)])
        have HP := Lib.hid hP; clear hP
        have q' := decide_eq_false (show ¬ s ≤ Sc.S e m j by omega)
        have hlen : (Sc.back s e m (j - 1)).length < 41 := by rw [Sc.back_len]; omega
        gi_wp2_with (refine ⟨trivial, ?_⟩; gi_at_call 76; refine (callsIn_wide.2 (addM_S e m j _ HTr.out)).mono ?_; rintro x w2 ⟨rfl, hb2⟩; have cs2 := (hb2.cell (p := ⟨Bs, 0, none⟩) (by show Bs < wr.heap.size; omega)).trans cs; obtain ⟨fn, tmps, assign, body, hy, hR⟩ := HY.out _ ((s, Sc.S e m (j - 1), false)) w2 (HJ.out _ _ _ HJ1.out hb2) hlen; dsimp only [encP, pv] at hy)
        refine hR.mono ?_
        rintro e' W3 (⟨rfl, hJ3, hk3⟩ | ⟨rfl, hJx3⟩)
        · have HJ3 := Lib.hid hJ3; clear hJ3
          gi_wp2
          go_roundw
          case rel => exact ⟨j + 1, by omega, by omega, by simp, by rw [show j + 1 - 1 = j by omega], by rw [show j + 1 - 1 = (j - 1) + 1 by omega, Sc.back_succ, show j - 1 + 1 = j by omega, HP.out]; exact HJ3.out, hb.trans ((hb2.mono (by omega)).trans hk3), Lib.hid fun i hi => by
            rcases Nat.lt_or_ge i (j - 1) with a | a
            · exact HS.out i a
            · obtain rfl : i = j - 1 := by omega
              exact hc1⟩
          case measure => simp [intOf]; omega
        · have HJx := Lib.hid hJx3; clear hJx3
          gi_wp2
          refine bodyPost_ret (results_none rfl _ _ _) rfl ?_
          refine ⟨⟨_, rfl⟩, .inr ⟨Sc.back s e m (j - 1) ++ [(s, Sc.S e m (j - 1), false)], ?_, HJx.out⟩⟩
          have hle : j ≤ Sc.N s e m := Sc.N_ge OK.out (by omega) fun i hi => by
            rcases Nat.lt_or_ge i (j - 1) with a | a
            · exact HS.out i a
            · obtain rfl : i = j - 1 := by omega
              exact hc1
          rw [← HP.out]
          have e2 : Sc.back s e m (j - 1) ++ [Sc.P s e m j] = Sc.back s e m j := by
            have := Sc.back_succ s e m (j - 1)
            rw [show j - 1 + 1 = j by omega] at this
            exact this.symm
          rw [e2]
          exact Sc.back_pre s e m hle
      · have hP := (show Sc.P s e m j = (Sc.S e m j, Sc.S e m (j - 1), true) by unfold Sc.P; rw [Int.max_eq_left q, decide_eq_true q])
        have HP := Lib.hid hP; clear hP
        have q2 : ¬ Sc.S e m j < s := by omega
        have q' := decide_eq_true q
        have hlen : (Sc.back s e m (j - 1)).length < 41 := by rw [Sc.back_len]; omega
        gi_wp2_with (refine ⟨trivial, ?_⟩; gi_at_call 76; refine (callsIn_wide.2 (addM_S e m j _ HTr.out)).mono ?_; rintro x w2 ⟨rfl, hb2⟩; have cs2 := (hb2.cell (p := ⟨Bs, 0, none⟩) (by show Bs < wr.heap.size; omega)).trans cs; obtain ⟨fn, tmps, assign, body, hy, hR⟩ := HY.out _ ((Sc.S e m j, Sc.S e m (j - 1), true)) w2 (HJ.out _ _ _ HJ1.out hb2) hlen; dsimp only [encP, pv] at hy)
        refine hR.mono ?_
        rintro e' W3 (⟨rfl, hJ3, hk3⟩ | ⟨rfl, hJx3⟩)
        · have HJ3 := Lib.hid hJ3; clear hJ3
          gi_wp2
          go_roundw
          case rel => exact ⟨j + 1, by omega, by omega, by simp, by rw [show j + 1 - 1 = j by omega], by rw [show j + 1 - 1 = (j - 1) + 1 by omega, Sc.back_succ, show j - 1 + 1 = j by omega, HP.out]; exact HJ3.out, hb.trans ((hb2.mono (by omega)).trans hk3), Lib.hid fun i hi => by
            rcases Nat.lt_or_ge i (j - 1) with a | a
            · exact HS.out i a
            · obtain rfl : i = j - 1 := by omega
              exact hc1⟩
          case measure => simp [intOf]; omega
        · have HJx := Lib.hid hJx3; clear hJx3
          gi_wp2
          refine bodyPost_ret (results_none rfl _ _ _) rfl ?_
          refine ⟨⟨_, rfl⟩, .inr ⟨Sc.back s e m (j - 1) ++ [(Sc.S e m j, Sc.S e m (j - 1), true)], ?_, HJx.out⟩⟩
          have hle : j ≤ Sc.N s e m := Sc.N_ge OK.out (by omega) fun i hi => by
            rcases Nat.lt_or_ge i (j - 1) with a | a
            · exact HS.out i a
            · obtain rfl : i = j - 1 := by omega
              exact hc1
          rw [← HP.out]
          have e2 : Sc.back s e m (j - 1) ++ [Sc.P s e m j] = Sc.back s e m j := by
            have := Sc.back_succ s e m (j - 1)
            rw [show j - 1 + 1 = j by omega] at this
            exact this.symm
          rw [e2]
          exact Sc.back_pre s e m hle
    · have hend : Sc.N s e m = j - 1 := by
        refine Sc.N_eq OK.out ⟨?_, by omega, HS.out, fun hlt => ?_⟩
        · rcases Nat.lt_or_ge 1 j with a | a
          · omega
          · exfalso
            obtain rfl : j = 1 := by omega
            apply hc
            rw [show 1 - 1 = 0 from rfl, Sc.S_zero (by omega) e1]
            omega
        · rcases Int.lt_or_le s (Sc.S e m (j - 1)) with a | a
          · exact absurd ⟨a, by omega⟩ hc
          · exact a
      have HE := Lib.hid hend; clear hend
      by_cases c2 : s < Sc.S e m (j - 1)
      · have c3 : ¬ ((j : Nat) : Int) ≤ 41 := by omega
        gi_wp2
        go_end0
        exact ⟨⟨_, rfl⟩, .inl (by rw [HE.out]; exact HJ1.out)⟩
      · gi_wp2
        go_end0
        exact ⟨⟨_, rfl⟩, .inl (by rw [HE.out]; exact HJ1.out)⟩
theorem back_stops (n : Nat) (hn : 1 ≤ n) (s e m : Int) (ok : Sc.okB s e m = true) (Be Bs Bm : Nat) (w : World) (hBe : Be < w.heap.size) (hBs : Bs < w.heap.size) (hBm : Bm < w.heap.size) (hT : Tab w)
    (ce : w.cell? ⟨Be, 0, none⟩ = some (.int .i64 e)) (cs : w.cell? ⟨Bs, 0, none⟩ = some (.int .i64 s)) (cm : w.cell? ⟨Bm, 0, none⟩ = some (.int .i64 m)) :
    SeqStopsK Fence.wide n Tryd.prog 75 #[.pointer (some ⟨Be, 0, none⟩), .pointer (some ⟨Bs, 0, none⟩), .pointer (some ⟨Bm, 0, none⟩)] encP (Below w.heap.size) (fun ys => ys = Sc.back s e m (Sc.N s e m)) (fun pre => pre <+: Sc.back s e m (Sc.N s e m)) 41 w := fun l J Jx W hW hJ _ hY h0 =>
  back1_in n hn s e m ok l w.heap.size Be Bs Bm hBe hBs hBm hT.pos J Jx hY W (fun pre W1 W2 hj hb => hJ pre W1 W2 none hj (grown_of_below hb) (fun r e => by cases e)) hW.size (hT.below hW hT.pos)
    ((hW.cell (p := ⟨Be, 0, none⟩) hBe).trans ce) ((hW.cell (p := ⟨Bs, 0, none⟩) hBs).trans cs) ((hW.cell (p := ⟨Bm, 0, none⟩) hBm).trans cm) h0
theorem infoP : (Tryd.prog.info? 45).map (fun i => (i.zero, i.size, i.bytes)) = some (some (.agg #[.int .i64 0, .int .i64 0, .bool false]), 3, 24) := by kernel_rfl
theorem cell_three_new (w : World) (a b c : Value) (t : TypeId) : ∀ j u, [a, b, c][j]? = some u → (w.alloc (.cells #[a, b, c] t)).cell? ((⟨w.heap.size, 0, none⟩ : Addr).add j) = some u := by
  intro j u hj
  match j, hj with
  | 0, hj => simp at hj; subst hj; simp [Addr.add]
  | 1, hj => simp at hj; subst hj; simp [Addr.add]
  | 2, hj => simp at hj; subst hj; simp [Addr.add]
theorem blk_own (B : Nat) (t : TypeId) (cs : Array Value) : ∀ (X Y : World) (row : Option Nat), Blk X B t cs → X.grownBy Y row → (∀ r, row = some r → ∃ o : Obj, X.heap[r]? = some o ∧ o.isCells = false) → Blk Y B t cs := fun X Y row h hg hr =>
  (hg.block B h.lt (fun e' => by obtain ⟨o, ho, hc⟩ := hr B e'.symm; rw [show X.heap[B]? = _ from h] at ho; cases ho; cases hc)).trans h
def Coll (ps : List Per) (w : World) (x : Ending) (w' : World) : Prop := ∃ v, x = .returned v ∧ PRow w' w.heap.size v ps ∧ (v = .slice none 0 0 ↔ ps = []) ∧ Below w.heap.size w w'
set_option maxRecDepth 100000 in
set_option maxHeartbeats 2000000 in
theorem appendSeq_any (n : Nat) (hn : 3 ≤ n) (s e m : Int) (ok : Sc.okB s e m = true) (Be Bs Bm : Nat) (w : World) (hBe : Be < w.heap.size) (hBs : Bs < w.heap.size) (hBm : Bm < w.heap.size) (hT : Tab w)
    (ce : w.cell? ⟨Be, 0, none⟩ = some (.int .i64 e)) (cs : w.cell? ⟨Bs, 0, none⟩ = some (.int .i64 s)) (cm : w.cell? ⟨Bm, 0, none⟩ = some (.int .i64 m)) :
    CallsIn Fence.wide n Tryd.prog 74 #[.slice none 0 0, .func (.func 75) #[] #[.pointer (some ⟨Be, 0, none⟩), .pointer (some ⟨Bs, 0, none⟩), .pointer (some ⟨Bm, 0, none⟩)]] w
      (Coll (Sc.back s e m (Sc.N s e m)) w) := by
  have h1 : 1 ≤ n := by omega
  obtain ⟨i0, hi, hz0, hz1, hz2⟩ := info_parts infoP
  have hst := back_stops (n - 1) (by omega) s e m ok Be Bs Bm w hBe hBs hBm hT ce cs cm
  clear ce cs cm
  refine callsIn_of_wp_marks Tryd.func74 rfl trivial ?_ rfl
  simp only [Tryd.ntmps74, List.size_toArray, List.length_cons, List.length_nil, Nat.reduceAdd, Nat.reduceSub, Array.replicate_succ, Array.replicate_zero, List.push_toArray, List.append_toArray, List.nil_append, List.cons_append]
  gi_wp2
  have bO := Boxed.new w 29 (.slice none 0 0)
  have hB0 : Below w.heap.size w (w.alloc (.cells #[.slice none 0 0] 29)) := (Below.refl _ w).alloc (Nat.le_refl _) _
  have hsz : (w.alloc (.cells #[.slice none 0 0] 29)).heap.size = w.heap.size + 1 := by simp
  obtain ⟨W0, hW0⟩ : ∃ W0, w.alloc (.cells #[.slice none 0 0] 29) = W0 := ⟨_, rfl⟩
  rw [hW0] at bO hB0 hsz ⊢
  clear hW0
  refine wpIn_rangeFunc_ownH rfl h1 (gf := 75) (lb := #[.pointer (some ⟨Be, 0, none⟩), .pointer (some ⟨Bs, 0, none⟩), .pointer (some ⟨Bm, 0, none⟩)]) rfl trivial (enters_of Tryd.func75 (by kernel_rfl) rfl)
    hst belowK_t (belowK_b (by omega)) hB0 (fun _ => rfl)
    (fun pre W => (∃ v, Boxed W w.heap.size 29 v ∧ W.ownsRow w.heap.size 45 3 v pre.length (pre.flatMap pc) ∧ (v = .slice none 0 0 ↔ pre = [])) ∧ Below w.heap.size w W)
    (fun _ _ _ => False)
    (OwnFrom.and (Own.from (holdsRow_own w.heap.size w.heap.size 29 45 3 (fun pre : List Per => pre.length) (fun pre => pre.flatMap pc) (fun pre v => v = .slice none 0 0 ↔ pre = [])) _) (ownFrom_below (Nat.le_refl _) (by omega)))
    (fun _ _ _ _ _ hs _ _ => hs)
    ⟨⟨_, bO, World.ownsRow_nil _ _ _ _, by simp⟩, hB0⟩
    (fun x a' W => ∃ Bx, w.heap.size < Bx ∧ Blk W Bx 45 #[.int .i64 x.1, .int .i64 x.2.1, .bool x.2.2] ∧ a' = { tmps := #[.slice none 0 0, .func (.func 75) #[] #[.pointer (some ⟨Be, 0, none⟩), .pointer (some ⟨Bs, 0, none⟩), .pointer (some ⟨Bm, 0, none⟩)], .pointer (some ⟨w.heap.size, 0, none⟩), undef, .slice none 0 0, .pointer (some ⟨Bx, 0, none⟩), .func (.func 75) #[] #[.pointer (some ⟨Be, 0, none⟩), .pointer (some ⟨Bs, 0, none⟩), .pointer (some ⟨Bm, 0, none⟩)], pv x, undef, undef, undef, undef, undef], defers := [] })
    (fun x a' _ X Y row hs hg hr => by obtain ⟨Bx, h1, h2, h3⟩ := hs; exact ⟨Bx, h1, blk_own Bx _ _ X Y row h2 hg (fun r e => (hr r e).2), h3⟩)
    ?assign ?body ?done ?stop
  case assign =>
    rintro l pre x W K ⟨⟨v, hv, hrow, hnil⟩, hB⟩ hK
    obtain ⟨x1, x2, x3⟩ := x
    dsimp only [encP, pv] at hK ⊢
    gi_wp2
    exact hK _ _ ((KeepsOthers.alloc _ _).from _) ((Below.refl _ W).alloc hB.size _) ⟨⟨v, hv.alloc _, hrow.alloc _, hnil⟩, hB.alloc hB.size _⟩ ⟨W.heap.size, hv.lt, Blk.new W _ _, rfl⟩
  case body =>
    rintro l pre x a' W hl ⟨r, hr⟩ ⟨⟨v, hv, hrow, hnil⟩, hB⟩ ⟨Bx, hBx, bX, rfl⟩ hlt
    obtain ⟨x1, x2, x3⟩ := x
    have hc := hv.cell
    have hX := bX.three
    obtain ⟨⟨y0, y1, y2⟩, _⟩ := hX
    dsimp only [pv] at y0 y1 y2 ⊢
    have hsW := hB.size
    gi_wp2_with (gi_at_builtin; refine wpListIn_append_own _ rfl _ _ 29 rfl w.heap.size 45 i0 (.agg #[.int .i64 0, .int .i64 0, .bool false]) 3 24 Tryd.underlying29 hi hz0 hz1 hz2 rfl (by decide) _ _ _ rfl (hrow.alloc _) ⟨W.heap.size, 0, none⟩ 1 1 [.int .i64 x1, .int .i64 x2, .bool x3] rfl rfl (cell_three_new _ _ _ _ _) (pc_one (x1, x2, x3)) (by unfold maxLen; omega) (by omega) (by simp; omega) ?_; intro v' w1 hown' hgrow _; obtain ⟨g', cap', rfl⟩ := ownsRow_succ hown'; obtain ⟨hv1, hv2, hr2, hk2, hb2⟩ := hv.appended (by decide) hrow hsW (Nat.le_refl _) hown' hgrow; have hc1 := hv1.cell; have hf1 := hv1.frozen)
    exact ⟨hk2.from _, hb2, ⟨_, hv2, by rw [flat_take]; simpa [pc] using hr2, by simp⟩, hB.trans hb2⟩
  case done =>
    rintro D ys W hD rfl ⟨⟨v, hv, hrow, hnil⟩, hB⟩ hK
    have hc := hv.cell
    gi_wp2
    refine ⟨by simp, .inl ⟨_, _, rfl, run_takeDeferred hK, ?_⟩⟩
    exact ⟨_, results_tmp rfl _ _ _, v, rfl, ownsRow_putObj hrow _ hK rfl, hnil, hB.trans (belowK_b (w := w) (Nat.le_refl _) W D _ _ (by omega) hK rfl rfl)⟩
  case stop =>
    rintro D c pre W _ _ h _
    exact h.elim
set_option maxHeartbeats 1000000 in
theorem collect_any (s e m : Int) (ok : Sc.okB s e m = true) (Be Bs Bm : Nat) (w : World) (hBe : Be < w.heap.size) (hBs : Bs < w.heap.size) (hBm : Bm < w.heap.size) (hT : Tab w)
    (ce : w.cell? ⟨Be, 0, none⟩ = some (.int .i64 e)) (cs : w.cell? ⟨Bs, 0, none⟩ = some (.int .i64 s)) (cm : w.cell? ⟨Bm, 0, none⟩ = some (.int .i64 m)) :
    Calls Tryd.prog 50 #[.func (.func 75) #[] #[.pointer (some ⟨Be, 0, none⟩), .pointer (some ⟨Bs, 0, none⟩), .pointer (some ⟨Bm, 0, none⟩)]] w
      (Coll (Sc.back s e m (Sc.N s e m)) w) := by
  have h := (callsIn_wide (n := 6)).1 (appendSeq_any 6 (by omega) s e m ok Be Bs Bm w hBe hBs hBm hT ce cs cm)
  have H := Lib.hid h
  clear h ce cs cm
  go_enter Tryd.func50, Tryd.ntmps50
  go_wp2_with fail
  refine H.out.mono ?_
  rintro x w1 ⟨v, rfl, hrow, hnil, hb⟩
  have HR := Lib.hid hrow; clear hrow
  have HN := Lib.hid hnil; clear hnil
  go_wp2_with fail
  go_ret
  exact ⟨v, rfl, HR.out, HN.out, hb⟩
end Go.Proofs.YtcckopnpmcbbcaaDoor
