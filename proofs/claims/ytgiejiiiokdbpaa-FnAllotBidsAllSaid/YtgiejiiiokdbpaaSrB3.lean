/- Bids sorted from the smallest yield on: what the iterator of a slice gives, and what collects it. -/
import Derived.RangeFuncNested
import Derived.RangeFuncBound
import Derived.RangeFuncCalls
import Derived.RangeFuncLeaves
import Derived.RangeFuncBox
import Derived.Shelf.Abstract
import Derived.Shelf.RegionOpen
import Derived.WalkKit
import Derived.OwnWalkIn
import Derived.TacticsInMore
import Derived.LoopNIn
import Derived.LoopIn
import Derived.Maps.AppendAt
import Derived.Test.YtgiejiiiokdbpaaSrB2
namespace Go.Proofs.Ytgiejiiiokdbpaa
open Go.RowKit Go.Shelf
attribute [local go_sem] Oper.semAt_some
def encQ (p : Pr) : Array Value := #[floV p]
theorem grown_of_belowQ {w w' : World} (hb : Below w.heap.size w w') : w.grownBy w' none := ⟨hb.os, hb.tape, hb.output, hb.size, fun k hk _ => hb.block k hk⟩
set_option maxRecDepth 100000 in
set_option maxHeartbeats 1000000 in
theorem vals_in (n : Nat) (hn : 1 ≤ n) (a : Option Addr) (cap : Nat) (ps : List Pr) (l n₀ q : Nat) (J Jx : List Pr → World → Prop)
    (hY : ∀ pre x W, J pre W → pre.length < 9 → YieldAt Fence.wide (n - 1) Try.prog l (encQ x) W fun e W' =>
      (e = .returned (.bool true) ∧ J (pre ++ [x]) W' ∧ Below n₀ W W') ∨ (e = .returned (.bool false) ∧ Jx (pre ++ [x]) W'))
    (w0 W : World) (hJb : ∀ pre W1 W2, J pre W1 → Below W1.heap.size W1 W2 → J pre W2) (hn₀ : n₀ ≤ W.heap.size) (hn1 : w0.heap.size = n₀) (hw0 : Below n₀ w0 W) (hl : ps.length ≤ 8)
    (hv : R2o w0 (.slice a ps.length cap) ps) (cq : W.cell? ⟨q, 0, none⟩ = some (.slice a ps.length cap)) (h0 : J [] W) :
    CallsIn Fence.wide n Try.prog 101 #[.func (.yield l) #[] #[], .pointer (some ⟨q, 0, none⟩)] W fun x W' => (∃ v, x = .returned v) ∧
      ((∃ ys, ys = ps ∧ J ys W') ∨ (∃ pre, pre <+: ps ∧ Jx pre W')) := by
  have HV := Lib.hid hv; clear hv
  have HY := Lib.hid hY; clear hY
  have HJ := Lib.hid hJb; clear hJb
  have HW := Lib.hid hw0; clear hw0
  have HT := Lib.hid (fun k (hk : k < ps.length) => (show ps.take (k + 1) = ps.take k ++ [ps.getD k pr0] by rw [List.take_add_one, List.getD_eq_getElem?_getD, List.getElem?_eq_getElem hk]; rfl))
  have HE := Lib.hid (show ∀ i, ps.length ≤ i → ps.take i = ps from fun i hi => List.take_of_length_le hi)
  have HTl := Lib.hid (fun k (hk : k ≤ ps.length) => (show (ps.take k).length = k by rw [List.length_take]; omega))
  have HPre := Lib.hid (fun k => List.take_prefix k ps)
  obtain ⟨m, hm⟩ : ∃ m, m = ps.length := ⟨_, rfl⟩
  rw [← hm] at hl cq HV HT HE HTl
  have HN := Lib.hid hm; clear hm
  refine callsIn_of_wp Try.func101 rfl trivial ?_ rfl
  simp only [Try.ntmps101, List.size_toArray, List.length_cons, List.length_nil, Nat.reduceAdd, Nat.reduceSub, Array.replicate_succ, Array.replicate_zero, List.push_toArray, List.append_toArray, List.nil_append, List.cons_append]
  gi_wp2
  gi_loopw [7] (fun i wr => ∃ k : Nat, k ≤ m ∧ i = .int .i64 k ∧ J (ps.take k) wr ∧ Below n₀ W wr) (fun i _ => m - (intOf i).toNat)
  case atStart => exact ⟨0, Nat.zero_le _, rfl, h0, Below.refl _ _⟩
  case round =>
    obtain ⟨k, hk, rfl, hJ, hb⟩ := hrel
    have HJ1 := Lib.hid hJ; clear hJ
    by_cases hlt : k < m
    · obtain ⟨b, off, d', e, hbl, hc⟩ := HV.out.2 (by rw [← HN.out]; omega)
      rw [← HN.out] at e
      simp only [Value.slice.injEq, true_and] at e
      obtain ⟨rfl, rfl⟩ := e
      obtain ⟨c0, c1⟩ := hc k (by rw [← HN.out]; exact hlt)
      clear hc
      have hbW := HW.out.trans hb
      replace c0 := (hbW.cell (p := ⟨b, off + k * 2, none⟩) (by show b < n₀; omega)).trans c0
      replace c1 := (hbW.cell (p := ⟨b, off + k * 2 + 1, none⟩) (by show b < n₀; omega)).trans c1
      have HTk := Lib.hid (HT.out k hlt)
      have hlen := HTl.out k hk
      generalize ps.getD k pr0 = p at c0 c1 HTk
      obtain ⟨x, y⟩ := p
      simp only at c0 c1
      have hsz := hb.size
      have hba := (Below.refl wr.heap.size wr).alloc (Nat.le_refl _) (.cells #[.int .i64 x, .int .i64 y] 42)
      obtain ⟨fn, tmps, assign, body, hy, hR⟩ := HY.out (ps.take k) (x, y) _ (HJ.out _ _ _ HJ1.out hba) (by omega)
      dsimp only [encQ, floV] at hy
      gi_wp2
      refine hR.mono ?_
      rintro e' W3 (⟨rfl, hJ3, hk3⟩ | ⟨rfl, hJx3⟩)
      · have HJ3 := Lib.hid hJ3; clear hJ3
        gi_wp2
        go_roundw
        case rel => exact ⟨k + 1, by omega, by go_num, by rw [HTk.out]; exact HJ3.out, hb.trans (((Below.refl _ _).alloc (by omega) _).trans hk3)⟩
        case measure => simp [intOf]; omega
      · have HJx := Lib.hid hJx3; clear hJx3
        gi_wp2
        refine bodyPost_ret (results_none rfl _ _ _) rfl ?_
        refine ⟨⟨_, rfl⟩, .inr ⟨ps.take (k + 1), HPre.out _, ?_⟩⟩
        rw [HTk.out]; exact HJx.out
    · obtain rfl : k = m := by omega
      have HJ2 := HJ1.out
      rw [HE.out k (Nat.le_refl _)] at HJ2
      have HJ3 := Lib.hid HJ2
      clear HJ2
      gi_wp2
      go_end0
      exact ⟨⟨_, rfl⟩, .inl ⟨_, rfl, HJ3.out⟩⟩
theorem vals_stops (n : Nat) (hn : 1 ≤ n) (a : Option Addr) (cap : Nat) (ps : List Pr) (q : Nat) (w : World) (hq : q < w.heap.size) (hl : ps.length ≤ 8) (hv : R2o w (.slice a ps.length cap) ps)
    (cq : w.cell? ⟨q, 0, none⟩ = some (.slice a ps.length cap)) :
    SeqStopsK Fence.wide n Try.prog 101 #[.pointer (some ⟨q, 0, none⟩)] encQ (Below w.heap.size) (fun ys => ys = ps) (fun pre => pre <+: ps) 9 w := fun l J Jx W hW hJ _ hY h0 =>
  vals_in n hn a cap ps l w.heap.size q J Jx hY w W (fun pre W1 W2 hj hb => hJ pre W1 W2 none hj (grown_of_belowQ hb) (fun r e => by cases e)) hW.size rfl hW hl hv ((hW.cell (p := ⟨q, 0, none⟩) hq).trans cq) h0
theorem cell_two_newQ (w : World) (a b : Value) (t : TypeId) : ∀ j u, [a, b][j]? = some u → (w.alloc (.cells #[a, b] t)).cell? ((⟨w.heap.size, 0, none⟩ : Addr).add j) = some u := by
  intro j u hj
  match j, hj with
  | 0, hj => simp at hj; subst hj; simp [Addr.add]
  | 1, hj => simp at hj; subst hj; simp [Addr.add]
theorem blk_ownQ (B : Nat) (t : TypeId) (cs : Array Value) : ∀ (X Y : World) (row : Option Nat), Blk X B t cs → X.grownBy Y row → (∀ r, row = some r → ∃ o : Obj, X.heap[r]? = some o ∧ o.isCells = false) → Blk Y B t cs := fun X Y row h hg hr =>
  (hg.block B h.lt (fun e' => by obtain ⟨o, ho, hc⟩ := hr B e'.symm; rw [show X.heap[B]? = _ from h] at ho; cases ho; cases hc)).trans h
theorem Blk.twoQ {w : World} {b : Nat} {t : TypeId} {x y : Value} (h : Blk w b t #[x, y]) : w.cell? ⟨b, 0, none⟩ = some x ∧ w.cell? ⟨b, 1, none⟩ = some y := by
  unfold Blk at h
  simp [World.cell?, h]
def CollQ (ps : List Pr) (w : World) (x : Ending) (w' : World) : Prop := ∃ v, x = .returned v ∧ TRow2 42 w' w.heap.size v ps ∧ (v = .slice none 0 0 ↔ ps = []) ∧ Below w.heap.size w w'
set_option maxRecDepth 100000 in
set_option maxHeartbeats 2000000 in
theorem appendQ_any (n : Nat) (hn : 3 ≤ n) (a : Option Addr) (cap : Nat) (ps : List Pr) (q : Nat) (w : World) (hq : q < w.heap.size) (hl : ps.length ≤ 8) (hv : R2o w (.slice a ps.length cap) ps)
    (cq : w.cell? ⟨q, 0, none⟩ = some (.slice a ps.length cap)) :
    CallsIn Fence.wide n Try.prog 104 #[.slice none 0 0, .func (.func 101) #[] #[.pointer (some ⟨q, 0, none⟩)]] w
      (CollQ ps w) := by
  have h1 : 1 ≤ n := by omega
  obtain ⟨i0, hi, hz0, hz1, hz2⟩ := infoPartsBid
  have hst := vals_stops (n - 1) (by omega) a cap ps q w hq hl hv cq
  clear cq hv
  refine callsIn_of_wp_marks Try.func104 rfl trivial ?_ rfl
  simp only [Try.ntmps104, List.size_toArray, List.length_cons, List.length_nil, Nat.reduceAdd, Nat.reduceSub, Array.replicate_succ, Array.replicate_zero, List.push_toArray, List.append_toArray, List.nil_append, List.cons_append]
  gi_wp2
  have bO := Boxed.new w 37 (.slice none 0 0)
  have hB0 : Below w.heap.size w (w.alloc (.cells #[.slice none 0 0] 37)) := (Below.refl _ w).alloc (Nat.le_refl _) _
  have hsz : (w.alloc (.cells #[.slice none 0 0] 37)).heap.size = w.heap.size + 1 := by simp
  obtain ⟨W0, hW0⟩ : ∃ W0, w.alloc (.cells #[.slice none 0 0] 37) = W0 := ⟨_, rfl⟩
  rw [hW0] at bO hB0 hsz ⊢
  clear hW0
  refine wpIn_rangeFunc_ownH rfl h1 (gf := 101) (lb := #[.pointer (some ⟨q, 0, none⟩)]) rfl trivial (enters_of Try.func101 (by kernel_rfl) rfl)
    hst belowK_t (belowK_b (by omega)) hB0 (fun _ => rfl)
    (fun pre W => (∃ v, Boxed W w.heap.size 37 v ∧ W.ownsRow w.heap.size 42 2 v pre.length (pre.flatMap ac2) ∧ (v = .slice none 0 0 ↔ pre = [])) ∧ Below w.heap.size w W)
    (fun _ _ _ => False)
    (OwnFrom.and (Own.from (holdsRow_own w.heap.size w.heap.size 37 42 2 (fun pre : List Pr => pre.length) (fun pre => pre.flatMap ac2) (fun pre v => v = .slice none 0 0 ↔ pre = [])) _) (ownFrom_below (Nat.le_refl _) (by omega)))
    (fun _ _ _ _ _ hs _ _ => hs)
    ⟨⟨_, bO, World.ownsRow_nil _ _ _ _, by simp⟩, hB0⟩
    (fun x a' W => ∃ Bx, w.heap.size < Bx ∧ Blk W Bx 42 #[.int .i64 x.1, .int .i64 x.2] ∧ a' = { tmps := #[.slice none 0 0, .func (.func 101) #[] #[.pointer (some ⟨q, 0, none⟩)], .pointer (some ⟨w.heap.size, 0, none⟩), undef, .slice none 0 0, .pointer (some ⟨Bx, 0, none⟩), .func (.func 101) #[] #[.pointer (some ⟨q, 0, none⟩)], floV x, undef, undef, undef, undef, undef], defers := [] })
    (fun x a' _ X Y row hs hg hr => by obtain ⟨Bx, h1, h2, h3⟩ := hs; exact ⟨Bx, h1, blk_ownQ Bx _ _ X Y row h2 hg (fun r e => (hr r e).2), h3⟩)
    ?assign ?body ?done ?stop
  case assign =>
    rintro l pre x W K ⟨⟨v, hv, hrow, hnil⟩, hB⟩ hK
    obtain ⟨x1, x2⟩ := x
    dsimp only [encQ, floV] at hK ⊢
    gi_wp2
    exact hK _ _ ((KeepsOthers.alloc _ _).from _) ((Below.refl _ W).alloc hB.size _) ⟨⟨v, hv.alloc _, hrow.alloc _, hnil⟩, hB.alloc hB.size _⟩ ⟨W.heap.size, hv.lt, Blk.new W _ _, rfl⟩
  case body =>
    rintro l pre x a' W hl' ⟨r, hr⟩ ⟨⟨v, hv, hrow, hnil⟩, hB⟩ ⟨Bx, hBx, bX, rfl⟩ hlt
    obtain ⟨x1, x2⟩ := x
    have hc := hv.cell
    have hX := bX.twoQ
    obtain ⟨y0, y1⟩ := hX
    dsimp only [floV] at y0 y1 ⊢
    have hsW := hB.size
    gi_wp2_with (gi_at_builtin; refine wpListIn_append_own _ rfl _ _ 37 rfl w.heap.size 42 i0 (.agg #[.int .i64 0, .int .i64 0]) 2 16 Try.underlying37 hi hz0 hz1 hz2 rfl (by decide) _ _ _ rfl (hrow.alloc _) ⟨W.heap.size, 0, none⟩ 1 1 [.int .i64 x1, .int .i64 x2] rfl rfl (cell_two_newQ _ _ _ _) (ac2_one (x1, x2)) (by unfold maxLen; omega) (by omega) (by simp; omega) ?_; intro v' w1 hown' hgrow _; obtain ⟨g', cap', rfl⟩ := ownsRow_succ hown'; obtain ⟨hv1, hv2, hr2, hk2, hb2⟩ := hv.appended (by decide) hrow hsW (Nat.le_refl _) hown' hgrow; have hc1 := hv1.cell; have hf1 := hv1.frozen)
    exact ⟨hk2.from _, hb2, ⟨_, hv2, by rw [flat_take]; simpa [ac2] using hr2, by simp⟩, hB.trans hb2⟩
  case done =>
    rintro D ys W hD rfl ⟨⟨v, hv, hrow, hnil⟩, hB⟩ hK
    have hc := hv.cell
    gi_wp2
    refine ⟨by simp, .inl ⟨_, _, rfl, run_takeDeferred hK, ?_⟩⟩
    exact ⟨_, results_tmp rfl _ _ _, v, rfl, ownsRow_putObj hrow _ hK rfl, hnil, hB.trans (belowK_b (w := w) (Nat.le_refl _) W D _ _ (by omega) hK rfl rfl)⟩
  case stop =>
    rintro D c pre W _ _ h _
    exact h.elim
set_option maxHeartbeats 1000000 in
theorem collectQ_any (a : Option Addr) (cap : Nat) (ps : List Pr) (q : Nat) (w : World) (hq : q < w.heap.size) (hl : ps.length ≤ 8) (hv : R2o w (.slice a ps.length cap) ps)
    (cq : w.cell? ⟨q, 0, none⟩ = some (.slice a ps.length cap)) :
    Calls Try.prog 99 #[.func (.func 101) #[] #[.pointer (some ⟨q, 0, none⟩)]] w
      (CollQ ps w) := by
  have h := (callsIn_wide (n := 6)).1 (appendQ_any 6 (by omega) a cap ps q w hq hl hv cq)
  have H := Lib.hid h
  clear h cq hv
  go_enter Try.func99, Try.ntmps99
  go_wp2_with fail
  refine H.out.mono ?_
  rintro x w1 ⟨v, rfl, hrow, hnil, hb⟩
  have HR := Lib.hid hrow; clear hrow
  have HN := Lib.hid hnil; clear hnil
  go_wp2_with fail
  go_ret
  exact ⟨v, rfl, HR.out, HN.out, hb⟩
end Go.Proofs.Ytgiejiiiokdbpaa
