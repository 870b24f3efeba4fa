import Derived.Test.YtkdooncfchmkfaaDoorProg
import Derived.Test.YtkdooncfchmkfaaDoorDrawA
import Derived.Below
import Derived.Maps.AppendAt
import Derived.Laws.OwnMore
import Derived.RangeFuncNested
import Derived.RangeFuncBound
import Derived.RangeFuncCalls
import Derived.RangeFuncLeaves
import Derived.RangeFuncBox
import Derived.Shelf.Abstract
import Derived.Shelf.RegionOpen
import Derived.WalkKit
import Derived.OwnWalkIn
import Derived.TacticsInMore
import Derived.LoopNIn
import Derived.LoopIn
import Derived.Test.YtkdooncfchmkfaaDoorSch
import Derived.Test.YtkdooncfchmkfaaDoorDrawB
import Derived.Test.YtkdooncfchmkfaaDoorDate2
import Derived.WalkSpells
import Derived.WalkLawsBesides
import Derived.Lib.Hide
import Derived.IntWalk
import Derived.RegionTactic
import Derived.Shelf.RegionOpenPlain
import Derived.Outline
/- Rows of periods that a call has made. -/
namespace Go.Proofs.YtkdooncfchmkfaaDoor
open Go.RowKit
/-- A row's cells, k for each element. -/
theorem flat_len {α : Type} (k : Nat) (f : α → List Value) (hf : ∀ x, (f x).length = k) : ∀ ps : List α, (ps.flatMap f).length = ps.length * k
  | [] => by simp
  | p :: ps => by rw [List.flatMap_cons, List.length_append, hf, flat_len k f hf ps, List.length_cons, Nat.add_mul]; omega
theorem flat_at {α : Type} (k : Nat) (f : α → List Value) (hf : ∀ x, (f x).length = k) (d : α) : ∀ (ps : List α) (i j : Nat), i < ps.length → j < k → (ps.flatMap f)[k * i + j]? = (f (ps.getD i d))[j]?
  | [], i, j, h, _ => by simp at h
  | p :: ps, 0, j, _, hj => by
    rw [List.flatMap_cons, List.getElem?_append_left (by rw [hf]; omega)]
    simp
  | p :: ps, i + 1, j, h, hj => by
    rw [List.flatMap_cons, List.getElem?_append_right (by rw [hf, Nat.mul_add]; omega), hf, show k * (i + 1) + j - k = k * i + j by rw [Nat.mul_add]; omega]
    rw [flat_at k f hf d ps i j (by simpa using h) hj]
    simp
abbrev Per := Int × Int × Bool
def pc (p : Per) : List Value := [.int .i64 p.1, .int .i64 p.2.1, .bool p.2.2]
theorem pc_len (p : Per) : (pc p).length = 3 := rfl
theorem pc_one (p : Per) : ∀ u ∈ pc p, u.oneCell' = true := by intro u hu; simp [pc] at hu; rcases hu with rfl | rfl | rfl <;> rfl
def p0 : Per := (0, 0, false)
/-- A slice of periods in memory of the call's own; nil where there is none. -/
def PRow (w : World) (B : Nat) (v : Value) (ps : List Per) : Prop := w.ownsRow B 58 3 v ps.length (ps.flatMap pc)
theorem PRow.nil (w : World) (B : Nat) : PRow w B (.slice none 0 0) [] := World.ownsRow_nil w B _ 3
theorem PRow.kept {w w' : World} {B : Nat} {v : Value} {ps : List Per} {row : Option Nat} (h : PRow w B v ps) (hg : w.grownBy w' row) (hr : ∀ j, row = some j → j < B) : PRow w' B v ps :=
  World.ownsRow.kept h hg (by
    cases hb : v.ownBlock with
    | none => exact .inl rfl
    | some k => exact .inr fun e => by have := hr k e.symm; have := (World.ownsRow.lt h k hb).1; omega)
theorem PRow.below {w w' : World} {B C : Nat} {v : Value} {ps : List Per} (h : PRow w B v ps) (hb : Below C w w') (hC : w.heap.size ≤ C) : PRow w' B v ps :=
  World.ownsRow.kept h (row := none) ⟨hb.os, hb.tape, hb.output, hb.size, fun k hk _ => hb.block k (by omega)⟩ (by cases v.ownBlock <;> simp)
theorem PRow.alloc {w : World} {B : Nat} {v : Value} {ps : List Per} (h : PRow w B v ps) (o : Obj) : PRow (w.alloc o) B v ps := World.ownsRow.alloc h o
theorem PRow.drewN {w : World} {B : Nat} {v : Value} {ps : List Per} (h : PRow w B v ps) (n : Nat) : PRow (w.drewN n) B v ps := h
theorem PRow.lower {w : World} {B C : Nat} {v : Value} {ps : List Per} (h : PRow w B v ps) (hC : C ≤ B) : PRow w C v ps := by
  obtain ⟨h1, h2⟩ := h
  refine ⟨h1, ?_⟩
  rcases h2 with h2 | ⟨g, cap, cur, e, hb, rest⟩
  · exact .inl h2
  · exact .inr ⟨g, cap, cur, e, Nat.le_trans hC hb, rest⟩
/-- What can be read of it. -/
theorem PRow.form {w : World} {B : Nat} {v : Value} {ps : List Per} (h : PRow w B v ps) (hl : 0 < ps.length) :
    ∃ b cap, v = .slice (some ⟨b, 0, none⟩) ps.length cap ∧ B ≤ b ∧ b < w.heap.size ∧ (ps.length ≤ cap ∧ cap ≤ maxLen) ∧
      (∀ i, i < ps.length → w.cell? ⟨b, i * 3, none⟩ = some (.int .i64 (ps.getD i p0).1) ∧ w.cell? ⟨b, i * 3 + 1, none⟩ = some (.int .i64 (ps.getD i p0).2.1) ∧ w.cell? ⟨b, i * 3 + 2, none⟩ = some (.bool (ps.getD i p0).2.2)) ∧ (∀ i, w.frozen? ⟨b, i, none⟩ = false) := by
  have h0 := h
  rcases h.2 with ⟨_, h3⟩ | ⟨b, cap, cur, rfl, hb, hblk, hc1, hc2, _⟩
  · omega
  · refine ⟨b, cap, rfl, hb, ?_, ⟨hc1, hc2⟩, fun i hi => ?_, fun i => World.ownsRow.frozenAt h0 i⟩
    · exact (World.ownsRow.lt h0 b rfl).2
    · have key : ∀ j, j < 3 → w.cell? ⟨b, i * 3 + j, none⟩ = (pc (ps.getD i p0))[j]? := fun j hj => by
        rw [World.ownsRow.cellAt h0 (i * 3 + j) (by omega), Nat.mul_comm i 3, flat_at 3 pc pc_len p0 ps i j hi hj]
      exact ⟨key 0 (by omega), key 1 (by omega), key 2 (by omega)⟩
/-- An element's three cells stored anew. -/
theorem flat_set : ∀ (ps : List Per) (i : Nat) (x : Int) (y : Int) (z : Bool), ((((ps.flatMap pc).set (i * 3) (.int .i64 x)).set (i * 3 + 1) (.int .i64 y)).set (i * 3 + 2) (.bool z)) = if i < ps.length then (ps.set i (x, y, z)).flatMap pc else ps.flatMap pc
  | [], i, x, y, z => by simp
  | p :: ps, 0, x, y, z => by simp [pc]
  | p :: ps, i + 1, x, y, z => by
    have ih := flat_set ps i x y z
    have e : ∀ j, (i + 1) * 3 + j = (i * 3 + j) + 1 + 1 + 1 := fun j => by omega
    rw [List.flatMap_cons]
    show ((((Value.int .i64 p.1 :: .int .i64 p.2.1 :: .bool p.2.2 :: ps.flatMap pc).set ((i + 1) * 3) (.int .i64 x)).set ((i + 1) * 3 + 1) (.int .i64 y)).set ((i + 1) * 3 + 2) (.bool z)) = _
    rw [show (i + 1) * 3 = i * 3 + 1 + 1 + 1 by omega, show i * 3 + 1 + 1 + 1 + 1 = (i * 3 + 1) + 1 + 1 + 1 by omega, show i * 3 + 1 + 1 + 1 + 2 = (i * 3 + 2) + 1 + 1 + 1 by omega]
    simp only [List.set_cons_succ]
    rw [ih]
    by_cases c : i < ps.length
    · rw [if_pos c, if_pos (by simpa using c)]; simp [pc]
    · rw [if_neg c, if_neg (by simpa using c)]; simp [pc]
theorem PRow.store {w : World} {B b cap : Nat} {ps : List Per} (h : PRow w B (.slice (some ⟨b, 0, none⟩) ps.length cap) ps) (i : Nat) (hi : i < ps.length) (x y : Int) (z : Bool) :
    PRow (((w.setCell ⟨b, i * 3, none⟩ (.int .i64 x)).setCell ⟨b, i * 3 + 1, none⟩ (.int .i64 y)).setCell ⟨b, i * 3 + 2, none⟩ (.bool z)) B (.slice (some ⟨b, 0, none⟩) (ps.set i (x, y, z)).length cap) (ps.set i (x, y, z)) ∧
    w.grownBy (((w.setCell ⟨b, i * 3, none⟩ (.int .i64 x)).setCell ⟨b, i * 3 + 1, none⟩ (.int .i64 y)).setCell ⟨b, i * 3 + 2, none⟩ (.bool z)) (some b) := by
  have h1 := World.ownsRow.stored h (i * 3) (.int .i64 x)
  have h2 := World.ownsRow.stored h1.1 (i * 3 + 1) (.int .i64 y)
  have h3 := World.ownsRow.stored h2.1 (i * 3 + 2) (.bool z)
  have e := flat_set ps i x y z
  rw [if_pos hi] at e
  refine ⟨?_, (h1.2.trans h2.2).trans h3.2⟩
  unfold PRow
  rw [← e, List.length_set]
  exact h3.1
theorem flat_take {α : Type} (f : α → List Value) (ps : List α) (p : α) : (ps ++ [p]).flatMap f = ps.flatMap f ++ f p := by simp
end Go.Proofs.YtkdooncfchmkfaaDoor

/- The periods from the last one on: the iterator, and what collects it. -/
namespace Go.Proofs.YtkdooncfchmkfaaDoor
open Go.RowKit Go.Shelf
attribute [local go_sem] Oper.semAt_some
def pv (p : Per) : Value := .agg #[.int .i64 p.1, .int .i64 p.2.1, .bool p.2.2]
def encP (p : Per) : Array Value := #[pv p]
theorem addM_S (e m : Int) (k : Nat) (w : World) (hT : Tab w) :
    Calls Tryd.prog 100 #[.int .i64 e, .int .i64 (-(k : Int) * m)] w fun x w' => x = .returned (.int .i64 (Sc.S e m k)) ∧ Below w.heap.size w w' := by
  have h := addMonths_any e (-(k : Int) * m) w hT
  have e1 : addV e (-(k : Int) * m) = Sc.S e m k := by unfold Sc.S; rw [Int.neg_mul]
  rw [e1] at h
  exact h
theorem grown_of_below {w w' : World} (hb : Below w.heap.size w w') : w.grownBy w' none := ⟨hb.os, hb.tape, hb.output, hb.size, fun k hk _ => hb.block k hk⟩
set_option maxRecDepth 100000 in
set_option maxHeartbeats 1000000 in
theorem back1_in (n : Nat) (hn : 1 ≤ n) (s e m : Int) (ok : Sc.okB s e m = true) (l n₀ Be Bs Bm : Nat) (hBe : Be < n₀) (hBs : Bs < n₀) (hBm : Bm < n₀) (hp : 1 < n₀) (J Jx : List Per → World → Prop)
    (hY : ∀ pre x W, J pre W → pre.length < 41 → YieldAt Fence.wide (n - 1) Tryd.prog l (encP x) W fun e W' =>
      (e = .returned (.bool true) ∧ J (pre ++ [x]) W' ∧ Below n₀ W W') ∨ (e = .returned (.bool false) ∧ Jx (pre ++ [x]) W'))
    (W : World) (hJb : ∀ pre W1 W2, J pre W1 → Below W1.heap.size W1 W2 → J pre W2) (hn₀ : n₀ ≤ W.heap.size) (hT : Tab W)
    (ce : W.cell? ⟨Be, 0, none⟩ = some (.int .i64 e)) (cs : W.cell? ⟨Bs, 0, none⟩ = some (.int .i64 s)) (cm : W.cell? ⟨Bm, 0, none⟩ = some (.int .i64 m)) (h0 : J [] W) :
    CallsIn Fence.wide n Tryd.prog 99 #[.func (.yield l) #[] #[], .pointer (some ⟨Be, 0, none⟩), .pointer (some ⟨Bs, 0, none⟩), .pointer (some ⟨Bm, 0, none⟩)] W fun x W' => (∃ v, x = .returned v) ∧
      ((∃ ys, ys = Sc.back s e m (Sc.N s e m) ∧ J ys W') ∨ (∃ pre, pre <+: Sc.back s e m (Sc.N s e m) ∧ Jx pre W')) := by
  obtain ⟨⟨s0, se, e1⟩, hm⟩ := Sc.okB_iff.1 ok
  obtain ⟨m0, m1⟩ := Sc.mon_bd hm
  have OK := Lib.hid ok; clear ok
  have HM := Lib.hid hm; clear hm
  have HT := Lib.hid hT; clear hT
  have HY := Lib.hid hY; clear hY
  have HJ := Lib.hid hJb; clear hJb
  refine callsIn_of_wp Tryd.func99 rfl trivial ?_ rfl
  simp only [Tryd.ntmps99, List.size_toArray, List.length_cons, List.length_nil, Nat.reduceAdd, Nat.reduceSub, Array.replicate_succ, Array.replicate_zero, List.push_toArray, List.append_toArray, List.nil_append, List.cons_append]
  gi_wp2
  have CE := Lib.hid ce; clear ce
  have CS := Lib.hid cs; clear cs
  have CM := Lib.hid cm; clear cm
  gi_loopw [5, 6] (fun t k wr => ∃ j : Nat, 1 ≤ j ∧ j ≤ 42 ∧ k = .int .i64 j ∧ t = .int .i64 (Sc.S e m (j - 1)) ∧ J (Sc.back s e m (j - 1)) wr ∧ Below n₀ W wr ∧ Hid (∀ i, i < j - 1 → s < Sc.S e m i)) (fun _ k _ => 42 - (intOf k).toNat)
  case atStart => exact ⟨1, by omega, by omega, rfl, by rw [show 1 - 1 = 0 from rfl, Sc.S_zero (by omega) e1], h0, Below.refl _ _, Lib.hid fun i hi => by omega⟩
  case round =>
    obtain ⟨j, j1, j2, rfl, rfl, hJ, hb, HS⟩ := hrel
    have HJ1 := Lib.hid hJ; clear hJ
    have ce := (hb.cell (p := ⟨Be, 0, none⟩) hBe).trans CE.out
    have cs := (hb.cell (p := ⟨Bs, 0, none⟩) hBs).trans CS.out
    have cm := (hb.cell (p := ⟨Bm, 0, none⟩) hBm).trans CM.out
    have hsz := hb.size
    obtain ⟨b0, b1⟩ := Sc.S_bd e m (j - 1)
    obtain ⟨d0, d1⟩ := Sc.S_bd e m j
    by_cases hc : s < Sc.S e m (j - 1) ∧ j ≤ 41
    · obtain ⟨hc1, hc2⟩ := hc
      have hkm := Sc.km_bd HM.out (k := j) (by omega)
      have hneg : -504 ≤ -(j : Int) * m ∧ -(j : Int) * m ≤ 0 := by rw [Int.neg_mul]; omega
      obtain ⟨n0, n1⟩ := hneg
      have c1 : ((j : Nat) : Int) ≤ 41 := by omega
      have HTr := Lib.hid (HT.out.below hb hp)
      rcases Int.lt_or_le (Sc.S e m j) s with q | q
      · have hP := (show Sc.P s e m j = (s, Sc.S e m (j - 1), false) by unfold Sc.P; rw [Int.max_eq_right (by omega), decide_eq_false (by omega)])
        have HP := Lib.hid hP; clear hP
        have q' := decide_eq_false (show ¬ s ≤ Sc.S e m j by omega)
        have hlen : (Sc.back s e m (j - 1)).length < 41 := by rw [Sc.back_len]; omega
        gi_wp2_with (refine ⟨trivial, ?_⟩; gi_at_call 100; refine (callsIn_wide.2 (addM_S e m j _ HTr.out)).mono ?_; rintro x w2 ⟨rfl, hb2⟩; have cs2 := (hb2.cell (p := ⟨Bs, 0, none⟩) (by show Bs < wr.heap.size; omega)).trans cs; obtain ⟨fn, tmps, assign, body, hy, hR⟩ := HY.out _ ((s, Sc.S e m (j - 1), false)) w2 (HJ.out _ _ _ HJ1.out hb2) hlen; dsimp only [encP, pv] at hy)
        refine hR.mono ?_
        rintro e' W3 (⟨rfl, hJ3, hk3⟩ | ⟨rfl, hJx3⟩)
        · have HJ3 := Lib.hid hJ3; clear hJ3
          gi_wp2
          go_roundw
          case rel => exact ⟨j + 1, by omega, by omega, by simp, by rw [show j + 1 - 1 = j by omega], by rw [show j + 1 - 1 = (j - 1) + 1 by omega, Sc.back_succ, show j - 1 + 1 = j by omega, HP.out]; exact HJ3.out, hb.trans ((hb2.mono (by omega)).trans hk3), Lib.hid fun i hi => by
            rcases Nat.lt_or_ge i (j - 1) with a | a
            · exact HS.out i a
            · obtain rfl : i = j - 1 := by omega
              exact hc1⟩
          case measure => simp [intOf]; omega
        · have HJx := Lib.hid hJx3; clear hJx3
          gi_wp2
          refine bodyPost_ret (results_none rfl _ _ _) rfl ?_
          refine ⟨⟨_, rfl⟩, .inr ⟨Sc.back s e m (j - 1) ++ [(s, Sc.S e m (j - 1), false)], ?_, HJx.out⟩⟩
          have hle : j ≤ Sc.N s e m := Sc.N_ge OK.out (by omega) fun i hi => by
            rcases Nat.lt_or_ge i (j - 1) with a | a
            · exact HS.out i a
            · obtain rfl : i = j - 1 := by omega
              exact hc1
          rw [← HP.out]
          have e2 : Sc.back s e m (j - 1) ++ [Sc.P s e m j] = Sc.back s e m j := by
            have := Sc.back_succ s e m (j - 1)
            rw [show j - 1 + 1 = j by omega] at this
            exact this.symm
          rw [e2]
          exact Sc.back_pre s e m hle
      · have hP := (show Sc.P s e m j = (Sc.S e m j, Sc.S e m (j - 1), true) by unfold Sc.P; rw [Int.max_eq_left q, decide_eq_true q])
        have HP := Lib.hid hP; clear hP
        have q2 : ¬ Sc.S e m j < s := by omega
        have q' := decide_eq_true q
        have hlen : (Sc.back s e m (j - 1)).length < 41 := by rw [Sc.back_len]; omega
        gi_wp2_with (refine ⟨trivial, ?_⟩; gi_at_call 100; refine (callsIn_wide.2 (addM_S e m j _ HTr.out)).mono ?_; rintro x w2 ⟨rfl, hb2⟩; have cs2 := (hb2.cell (p := ⟨Bs, 0, none⟩) (by show Bs < wr.heap.size; omega)).trans cs; obtain ⟨fn, tmps, assign, body, hy, hR⟩ := HY.out _ ((Sc.S e m j, Sc.S e m (j - 1), true)) w2 (HJ.out _ _ _ HJ1.out hb2) hlen; dsimp only [encP, pv] at hy)
        refine hR.mono ?_
        rintro e' W3 (⟨rfl, hJ3, hk3⟩ | ⟨rfl, hJx3⟩)
        · have HJ3 := Lib.hid hJ3; clear hJ3
          gi_wp2
          go_roundw
          case rel => exact ⟨j + 1, by omega, by omega, by simp, by rw [show j + 1 - 1 = j by omega], by rw [show j + 1 - 1 = (j - 1) + 1 by omega, Sc.back_succ, show j - 1 + 1 = j by omega, HP.out]; exact HJ3.out, hb.trans ((hb2.mono (by omega)).trans hk3), Lib.hid fun i hi => by
            rcases Nat.lt_or_ge i (j - 1) with a | a
            · exact HS.out i a
            · obtain rfl : i = j - 1 := by omega
              exact hc1⟩
          case measure => simp [intOf]; omega
        · have HJx := Lib.hid hJx3; clear hJx3
          gi_wp2
          refine bodyPost_ret (results_none rfl _ _ _) rfl ?_
          refine ⟨⟨_, rfl⟩, .inr ⟨Sc.back s e m (j - 1) ++ [(Sc.S e m j, Sc.S e m (j - 1), true)], ?_, HJx.out⟩⟩
          have hle : j ≤ Sc.N s e m := Sc.N_ge OK.out (by omega) fun i hi => by
            rcases Nat.lt_or_ge i (j - 1) with a | a
            · exact HS.out i a
            · obtain rfl : i = j - 1 := by omega
              exact hc1
          rw [← HP.out]
          have e2 : Sc.back s e m (j - 1) ++ [Sc.P s e m j] = Sc.back s e m j := by
            have := Sc.back_succ s e m (j - 1)
            rw [show j - 1 + 1 = j by omega] at this
            exact this.symm
          rw [e2]
          exact Sc.back_pre s e m hle
    · have hend : Sc.N s e m = j - 1 := by
        refine Sc.N_eq OK.out ⟨?_, by omega, HS.out, fun hlt => ?_⟩
        · rcases Nat.lt_or_ge 1 j with a | a
          · omega
          · exfalso
            obtain rfl : j = 1 := by omega
            apply hc
            rw [show 1 - 1 = 0 from rfl, Sc.S_zero (by omega) e1]
            omega
        · rcases Int.lt_or_le s (Sc.S e m (j - 1)) with a | a
          · exact absurd ⟨a, by omega⟩ hc
          · exact a
      have HE := Lib.hid hend; clear hend
      by_cases c2 : s < Sc.S e m (j - 1)
      · have c3 : ¬ ((j : Nat) : Int) ≤ 41 := by omega
        gi_wp2
        go_end0
        exact ⟨⟨_, rfl⟩, .inl (by rw [HE.out]; exact HJ1.out)⟩
      · gi_wp2
        go_end0
        exact ⟨⟨_, rfl⟩, .inl (by rw [HE.out]; exact HJ1.out)⟩
theorem back_stops (n : Nat) (hn : 1 ≤ n) (s e m : Int) (ok : Sc.okB s e m = true) (Be Bs Bm : Nat) (w : World) (hBe : Be < w.heap.size) (hBs : Bs < w.heap.size) (hBm : Bm < w.heap.size) (hT : Tab w)
    (ce : w.cell? ⟨Be, 0, none⟩ = some (.int .i64 e)) (cs : w.cell? ⟨Bs, 0, none⟩ = some (.int .i64 s)) (cm : w.cell? ⟨Bm, 0, none⟩ = some (.int .i64 m)) :
    SeqStopsK Fence.wide n Tryd.prog 99 #[.pointer (some ⟨Be, 0, none⟩), .pointer (some ⟨Bs, 0, none⟩), .pointer (some ⟨Bm, 0, none⟩)] encP (Below w.heap.size) (fun ys => ys = Sc.back s e m (Sc.N s e m)) (fun pre => pre <+: Sc.back s e m (Sc.N s e m)) 41 w := fun l J Jx W hW hJ _ hY h0 =>
  back1_in n hn s e m ok l w.heap.size Be Bs Bm hBe hBs hBm hT.pos J Jx hY W (fun pre W1 W2 hj hb => hJ pre W1 W2 none hj (grown_of_below hb) (fun r e => by cases e)) hW.size (hT.below hW hT.pos)
    ((hW.cell (p := ⟨Be, 0, none⟩) hBe).trans ce) ((hW.cell (p := ⟨Bs, 0, none⟩) hBs).trans cs) ((hW.cell (p := ⟨Bm, 0, none⟩) hBm).trans cm) h0
theorem infoP : (Tryd.prog.info? 58).map (fun i => (i.zero, i.size, i.bytes)) = some (some (.agg #[.int .i64 0, .int .i64 0, .bool false]), 3, 24) := by kernel_rfl
theorem cell_three_new (w : World) (a b c : Value) (t : TypeId) : ∀ j u, [a, b, c][j]? = some u → (w.alloc (.cells #[a, b, c] t)).cell? ((⟨w.heap.size, 0, none⟩ : Addr).add j) = some u := by
  intro j u hj
  match j, hj with
  | 0, hj => simp at hj; subst hj; simp [Addr.add]
  | 1, hj => simp at hj; subst hj; simp [Addr.add]
  | 2, hj => simp at hj; subst hj; simp [Addr.add]
theorem blk_own (B : Nat) (t : TypeId) (cs : Array Value) : ∀ (X Y : World) (row : Option Nat), Blk X B t cs → X.grownBy Y row → (∀ r, row = some r → ∃ o : Obj, X.heap[r]? = some o ∧ o.isCells = false) → Blk Y B t cs := fun X Y row h hg hr =>
  (hg.block B h.lt (fun e' => by obtain ⟨o, ho, hc⟩ := hr B e'.symm; rw [show X.heap[B]? = _ from h] at ho; cases ho; cases hc)).trans h
def Coll (ps : List Per) (w : World) (x : Ending) (w' : World) : Prop := ∃ v, x = .returned v ∧ PRow w' w.heap.size v ps ∧ (v = .slice none 0 0 ↔ ps = []) ∧ Below w.heap.size w w'
set_option maxRecDepth 100000 in
set_option maxHeartbeats 2000000 in
theorem appendSeq_any (n : Nat) (hn : 3 ≤ n) (s e m : Int) (ok : Sc.okB s e m = true) (Be Bs Bm : Nat) (w : World) (hBe : Be < w.heap.size) (hBs : Bs < w.heap.size) (hBm : Bm < w.heap.size) (hT : Tab w)
    (ce : w.cell? ⟨Be, 0, none⟩ = some (.int .i64 e)) (cs : w.cell? ⟨Bs, 0, none⟩ = some (.int .i64 s)) (cm : w.cell? ⟨Bm, 0, none⟩ = some (.int .i64 m)) :
    CallsIn Fence.wide n Tryd.prog 98 #[.slice none 0 0, .func (.func 99) #[] #[.pointer (some ⟨Be, 0, none⟩), .pointer (some ⟨Bs, 0, none⟩), .pointer (some ⟨Bm, 0, none⟩)]] w
      (Coll (Sc.back s e m (Sc.N s e m)) w) := by
  have h1 : 1 ≤ n := by omega
  obtain ⟨i0, hi, hz0, hz1, hz2⟩ := info_parts infoP
  have hst := back_stops (n - 1) (by omega) s e m ok Be Bs Bm w hBe hBs hBm hT ce cs cm
  clear ce cs cm
  refine callsIn_of_wp_marks Tryd.func98 rfl trivial ?_ rfl
  simp only [Tryd.ntmps98, List.size_toArray, List.length_cons, List.length_nil, Nat.reduceAdd, Nat.reduceSub, Array.replicate_succ, Array.replicate_zero, List.push_toArray, List.append_toArray, List.nil_append, List.cons_append]
  gi_wp2
  have bO := Boxed.new w 65 (.slice none 0 0)
  have hB0 : Below w.heap.size w (w.alloc (.cells #[.slice none 0 0] 65)) := (Below.refl _ w).alloc (Nat.le_refl _) _
  have hsz : (w.alloc (.cells #[.slice none 0 0] 65)).heap.size = w.heap.size + 1 := by simp
  obtain ⟨W0, hW0⟩ : ∃ W0, w.alloc (.cells #[.slice none 0 0] 65) = W0 := ⟨_, rfl⟩
  rw [hW0] at bO hB0 hsz ⊢
  clear hW0
  refine wpIn_rangeFunc_ownH rfl h1 (gf := 99) (lb := #[.pointer (some ⟨Be, 0, none⟩), .pointer (some ⟨Bs, 0, none⟩), .pointer (some ⟨Bm, 0, none⟩)]) rfl trivial (enters_of Tryd.func99 (by kernel_rfl) rfl)
    hst belowK_t (belowK_b (by omega)) hB0 (fun _ => rfl)
    (fun pre W => (∃ v, Boxed W w.heap.size 65 v ∧ W.ownsRow w.heap.size 58 3 v pre.length (pre.flatMap pc) ∧ (v = .slice none 0 0 ↔ pre = [])) ∧ Below w.heap.size w W)
    (fun _ _ _ => False)
    (OwnFrom.and (Own.from (holdsRow_own w.heap.size w.heap.size 65 58 3 (fun pre : List Per => pre.length) (fun pre => pre.flatMap pc) (fun pre v => v = .slice none 0 0 ↔ pre = [])) _) (ownFrom_below (Nat.le_refl _) (by omega)))
    (fun _ _ _ _ _ hs _ _ => hs)
    ⟨⟨_, bO, World.ownsRow_nil _ _ _ _, by simp⟩, hB0⟩
    (fun x a' W => ∃ Bx, w.heap.size < Bx ∧ Blk W Bx 58 #[.int .i64 x.1, .int .i64 x.2.1, .bool x.2.2] ∧ a' = { tmps := #[.slice none 0 0, .func (.func 99) #[] #[.pointer (some ⟨Be, 0, none⟩), .pointer (some ⟨Bs, 0, none⟩), .pointer (some ⟨Bm, 0, none⟩)], .pointer (some ⟨w.heap.size, 0, none⟩), undef, .slice none 0 0, .pointer (some ⟨Bx, 0, none⟩), .func (.func 99) #[] #[.pointer (some ⟨Be, 0, none⟩), .pointer (some ⟨Bs, 0, none⟩), .pointer (some ⟨Bm, 0, none⟩)], pv x, undef, undef, undef, undef, undef], defers := [] })
    (fun x a' _ X Y row hs hg hr => by obtain ⟨Bx, h1, h2, h3⟩ := hs; exact ⟨Bx, h1, blk_own Bx _ _ X Y row h2 hg (fun r e => (hr r e).2), h3⟩)
    ?assign ?body ?done ?stop
  case assign =>
    rintro l pre x W K ⟨⟨v, hv, hrow, hnil⟩, hB⟩ hK
    obtain ⟨x1, x2, x3⟩ := x
    dsimp only [encP, pv] at hK ⊢
    gi_wp2
    exact hK _ _ ((KeepsOthers.alloc _ _).from _) ((Below.refl _ W).alloc hB.size _) ⟨⟨v, hv.alloc _, hrow.alloc _, hnil⟩, hB.alloc hB.size _⟩ ⟨W.heap.size, hv.lt, Blk.new W _ _, rfl⟩
  case body =>
    rintro l pre x a' W hl ⟨r, hr⟩ ⟨⟨v, hv, hrow, hnil⟩, hB⟩ ⟨Bx, hBx, bX, rfl⟩ hlt
    obtain ⟨x1, x2, x3⟩ := x
    have hc := hv.cell
    have hX := bX.three
    obtain ⟨⟨y0, y1, y2⟩, _⟩ := hX
    dsimp only [pv] at y0 y1 y2 ⊢
    have hsW := hB.size
    gi_wp2_with (gi_at_builtin; refine wpListIn_append_own _ rfl _ _ 65 rfl w.heap.size 58 i0 (.agg #[.int .i64 0, .int .i64 0, .bool false]) 3 24 Tryd.underlying65 hi hz0 hz1 hz2 rfl (by decide) _ _ _ rfl (hrow.alloc _) ⟨W.heap.size, 0, none⟩ 1 1 [.int .i64 x1, .int .i64 x2, .bool x3] rfl rfl (cell_three_new _ _ _ _ _) (pc_one (x1, x2, x3)) (by unfold maxLen; omega) (by omega) (by simp; omega) ?_; intro v' w1 hown' hgrow _; obtain ⟨g', cap', rfl⟩ := ownsRow_succ hown'; obtain ⟨hv1, hv2, hr2, hk2, hb2⟩ := hv.appended (by decide) hrow hsW (Nat.le_refl _) hown' hgrow; have hc1 := hv1.cell; have hf1 := hv1.frozen)
    exact ⟨hk2.from _, hb2, ⟨_, hv2, by rw [flat_take]; simpa [pc] using hr2, by simp⟩, hB.trans hb2⟩
  case done =>
    rintro D ys W hD rfl ⟨⟨v, hv, hrow, hnil⟩, hB⟩ hK
    have hc := hv.cell
    gi_wp2
    refine ⟨by simp, .inl ⟨_, _, rfl, run_takeDeferred hK, ?_⟩⟩
    exact ⟨_, results_tmp rfl _ _ _, v, rfl, ownsRow_putObj hrow _ hK rfl, hnil, hB.trans (belowK_b (w := w) (Nat.le_refl _) W D _ _ (by omega) hK rfl rfl)⟩
  case stop =>
    rintro D c pre W _ _ h _
    exact h.elim
set_option maxHeartbeats 1000000 in
theorem collect_any (s e m : Int) (ok : Sc.okB s e m = true) (Be Bs Bm : Nat) (w : World) (hBe : Be < w.heap.size) (hBs : Bs < w.heap.size) (hBm : Bm < w.heap.size) (hT : Tab w)
    (ce : w.cell? ⟨Be, 0, none⟩ = some (.int .i64 e)) (cs : w.cell? ⟨Bs, 0, none⟩ = some (.int .i64 s)) (cm : w.cell? ⟨Bm, 0, none⟩ = some (.int .i64 m)) :
    Calls Tryd.prog 87 #[.func (.func 99) #[] #[.pointer (some ⟨Be, 0, none⟩), .pointer (some ⟨Bs, 0, none⟩), .pointer (some ⟨Bm, 0, none⟩)]] w
      (Coll (Sc.back s e m (Sc.N s e m)) w) := by
  have h := (callsIn_wide (n := 6)).1 (appendSeq_any 6 (by omega) s e m ok Be Bs Bm w hBe hBs hBm hT ce cs cm)
  have H := Lib.hid h
  clear h ce cs cm
  go_enter Tryd.func87, Tryd.ntmps87
  go_wp2_with fail
  refine H.out.mono ?_
  rintro x w1 ⟨v, rfl, hrow, hnil, hb⟩
  have HR := Lib.hid hrow; clear hrow
  have HN := Lib.hid hnil; clear hnil
  go_wp2_with fail
  go_ret
  exact ⟨v, rfl, HR.out, HN.out, hb⟩
end Go.Proofs.YtkdooncfchmkfaaDoor

/- Reversing a row of periods. -/
namespace Go.Proofs.YtkdooncfchmkfaaDoor
open Go.RowKit
/-- The elements in reverse but for those between i and the place opposite. -/
def RevTo (ps qs : List Per) (i : Nat) : Prop := qs.length = ps.length ∧ ∀ t, t < ps.length → qs.getD t p0 = if t < i ∨ ps.length ≤ t + i then ps.getD (ps.length - 1 - t) p0 else ps.getD t p0
theorem revTo_start (ps : List Per) : RevTo ps ps 0 := ⟨rfl, fun t ht => by rw [if_neg (by omega)]⟩
theorem revTo_end {ps qs : List Per} {i : Nat} (h : RevTo ps qs i) (hi : ps.length ≤ 2 * i + 1) : qs = ps.reverse := by
  apply List.ext_getElem
  · rw [h.1, List.length_reverse]
  · intro t h1 h2
    have ht : t < ps.length := by rw [← h.1]; exact h1
    have e := h.2 t ht
    rw [List.getD_eq_getElem?_getD, List.getElem?_eq_getElem h1] at e
    rw [List.getElem_reverse]
    have e2 : ps.getD (ps.length - 1 - t) p0 = ps[ps.length - 1 - t]'(by omega) := by rw [List.getD_eq_getElem?_getD, List.getElem?_eq_getElem (by omega)]; rfl
    rw [← e2]
    by_cases c : t < i ∨ ps.length ≤ t + i
    · rw [if_pos c] at e; exact e
    · rw [if_neg c] at e
      rw [show ps.length - 1 - t = t by omega]
      exact e
def swapL (qs : List Per) (i j : Nat) : List Per := (qs.set i (qs.getD j p0)).set j (qs.getD i p0)
theorem revTo_step {ps qs : List Per} {i : Nat} (h : RevTo ps qs i) (hi : 2 * i + 1 < ps.length) : RevTo ps (swapL qs i (ps.length - 1 - i)) (i + 1) := by
  obtain ⟨h1, h2⟩ := h
  refine ⟨by simp [swapL, h1], fun t ht => ?_⟩
  unfold swapL
  have ei := h2 i (by omega)
  have ej := h2 (ps.length - 1 - i) (by omega)
  rw [if_neg (by omega)] at ei ej
  have g : ∀ (l : List Per) (a b : Nat) (x : Per), (l.set a x).getD b p0 = if a = b then (if b < l.length then x else p0) else l.getD b p0 := fun l a b x => by
    rw [List.getD_eq_getElem?_getD, List.getElem?_set]
    by_cases c : a = b
    · subst c
      rw [if_pos rfl, if_pos rfl]
      by_cases c' : a < l.length
      · rw [if_pos c', if_pos c']; rfl
      · rw [if_neg c', if_neg c']; rfl
    · rw [if_neg c, if_neg c, List.getD_eq_getElem?_getD]
  rw [g, g]
  by_cases c1 : ps.length - 1 - i = t
  · rw [if_pos c1, if_pos (by rw [List.length_set]; omega), ei, if_pos (by omega)]
    congr 1; omega
  · rw [if_neg c1]
    by_cases c2 : i = t
    · rw [if_pos c2, if_pos (by omega), ej, if_pos (by omega), ← c2]
    · rw [if_neg c2, h2 t ht]
      by_cases c3 : t < i ∨ ps.length ≤ t + i
      · rw [if_pos c3, if_pos (by omega)]
      · rw [if_neg c3, if_neg (by omega)]
theorem grown_dr (w : World) (r : Option Nat) : w.grownBy w.drew r := ⟨rfl, rfl, rfl, Nat.le_refl _, fun _ _ _ => rfl⟩
set_option maxHeartbeats 2000000 in
theorem rev_any (w : World) (B : Nat) (b cap : Nat) (ps : List Per) (h : PRow w B (.slice (some ⟨b, 0, none⟩) ps.length cap) ps) (hl : 0 < ps.length) (hm : ps.length ≤ 1000) :
    Calls Tryd.prog 89 #[.slice (some ⟨b, 0, none⟩) ps.length cap] w fun e w' => e = .returned (.tuple #[]) ∧ PRow w' B (.slice (some ⟨b, 0, none⟩) ps.length cap) ps.reverse ∧ w.grownBy w' (some b) := by
  have H := Lib.hid h; clear h
  obtain ⟨n, hn⟩ : ∃ n, n = ps.length := ⟨_, rfl⟩
  rw [← hn] at hl hm ⊢
  have HN := Lib.hid hn; clear hn
  go_enter Tryd.func89, Tryd.ntmps89
  go_wp2_with fail
  go_loopw [2, 3] (fun x y wr => ∃ (i : Nat) (qs : List Per), 2 * i ≤ n ∧ x = .int .i64 i ∧ y = .int .i64 ((n : Int) - 1 - i) ∧ Hid (RevTo ps qs i) ∧ Hid (qs.length = n ∧ PRow wr B (.slice (some ⟨b, 0, none⟩) qs.length cap) qs) ∧ w.grownBy wr (some b)) (fun x _ _ => n - (intOf x).toNat)
  case atStart => exact ⟨0, ps, by omega, rfl, by simp, Lib.hid (revTo_start ps), Lib.hid ⟨HN.out.symm, H.out⟩, ⟨rfl, rfl, rfl, Nat.le_refl _, fun _ _ _ => rfl⟩⟩
  case round =>
    obtain ⟨i, qs, hi, rfl, rfl, HR, HQ, hg⟩ := hrel
    by_cases hlt : 2 * i + 1 < n
    · obtain ⟨b', cap', e', hb', hblt, hcap, hc, hf⟩ := HQ.out.2.form (by have := HQ.out.1; omega)
      simp only [Value.slice.injEq, Option.some.injEq, Addr.mk.injEq, and_true, true_and] at e'
      obtain ⟨rfl, rfl⟩ := e'
      have hq : qs.length = n := HQ.out.1
      obtain ⟨a0, a1, a2⟩ := hc i (by omega)
      obtain ⟨c0, c1, c2⟩ := hc (n - 1 - i) (by omega)
      clear hc hq
      obtain ⟨j, hj⟩ : ∃ j : Nat, j = n - 1 - i := ⟨_, rfl⟩
      rw [← hj] at c0 c1 c2
      have ej : (n : Int) - 1 - i = j := by omega
      have hij : i < j := by omega
      have hjn : j < n := by omega
      rw [ej]
      have HJ := Lib.hid hj
      clear hj ej
      obtain ⟨x, hx⟩ : ∃ x, x = qs.getD i p0 := ⟨_, rfl⟩
      obtain ⟨y, hy⟩ : ∃ y, y = qs.getD j p0 := ⟨_, rfl⟩
      rw [← hx] at a0 a1 a2
      rw [← hy] at c0 c1 c2
      have HX := Lib.hid hx; clear hx
      have HY := Lib.hid hy; clear hy
      obtain ⟨x1, x2, x3⟩ := x
      obtain ⟨y1, y2, y3⟩ := y
      dsimp only at a0 a1 a2 c0 c1 c2
      have f0 := hf (i * 3)
      have f1 := hf (i * 3 + 1)
      have f2 := hf (i * 3 + 2)
      have g0 := hf (j * 3)
      have g1 := hf (j * 3 + 1)
      have g2 := hf (j * 3 + 2)
      clear hf hcap
      go_wp2_with fail
      go_region
      have hq := HQ.out
      have hi' : i < qs.length := by rw [hq.1]; omega
      have S1 := PRow.store hq.2 i hi' y1 y2 y3
      have S2 := PRow.store S1.1 j (by rw [List.length_set, hq.1]; omega) x1 x2 x3
      have es : (qs.set i (y1, y2, y3)).set j (x1, x2, x3) = swapL qs i j := by unfold swapL; rw [← HX.out, ← HY.out]
      rw [es] at S2
      have hs := revTo_step HR.out (by rw [← HN.out]; omega)
      rw [← HN.out, ← HJ.out] at hs
      have HS2 := Lib.hid S2
      have HS1 := Lib.hid S1.2
      have HR2 := Lib.hid hs
      clear S1 S2 hs es hq hi'
      go_wp2_with fail
      go_roundw
      case rel =>
        refine ⟨i + 1, swapL qs i j, by omega, by go_num, by congr 1; have := HJ.out; omega, HR2, Lib.hid ⟨by have := HQ.out.1; simp [swapL]; omega, World.ownsRow.drew HS2.out.1⟩, ?_⟩
        exact hg.trans (HS1.out.trans (HS2.out.2.trans (grown_dr _ _)))
      case measure => simp [intOf]; omega
    · have c : ¬ (i : Int) < (n : Int) - 1 - i := by omega
      have HF := Lib.hid (revTo_end HR.out (by rw [← HN.out]; omega))
      go_wp2_with fail
      go_end0
      exact ⟨rfl, by have := HQ.out; rw [HF.out] at this; rw [← this.1]; exact this.2, hg⟩
end Go.Proofs.YtkdooncfchmkfaaDoor

/- The program's schedules. -/
namespace Go.Proofs.YtkdooncfchmkfaaDoor
open Go.RowKit
set_option maxHeartbeats 400000 in
theorem validMonths_any (m : Int) (w : World) :
    Calls Tryd.prog 86 #[.int .i64 m] w fun e w' => e = .returned (.bool (Sc.monB m)) ∧ w = w' := by
  by_cases h1 : m = 1
  · subst h1
    go_enter Tryd.func86, Tryd.ntmps86
    go_wp2_with fail
    go_ret
    exact ⟨rfl, rfl⟩
  · by_cases h2 : m = 3
    · subst h2
      go_enter Tryd.func86, Tryd.ntmps86
      go_wp2_with fail
      go_ret
      exact ⟨rfl, rfl⟩
    · by_cases h3 : m = 6
      · subst h3
        go_enter Tryd.func86, Tryd.ntmps86
        go_wp2_with fail
        go_ret
        exact ⟨rfl, rfl⟩
      · by_cases h4 : m = 12
        · subst h4
          go_enter Tryd.func86, Tryd.ntmps86
          go_wp2_with fail
          go_ret
          exact ⟨rfl, rfl⟩
        · have E := Lib.hid (show Sc.monB m = false by unfold Sc.monB; rw [decide_eq_false_iff_not]; omega)
          have e1 : (m == 1) = false := by simp [h1]
          have e2 : (m == 3) = false := by simp [h2]
          have e3 : (m == 6) = false := by simp [h3]
          have e4 : (m == 12) = false := by simp [h4]
          clear h1 h2 h3 h4
          go_enter Tryd.func86, Tryd.ntmps86
          go_wp2_with fail
          go_ret
          exact ⟨ret_bool E.out.symm, rfl⟩
set_option maxHeartbeats 400000 in
theorem periodsBack_any (s e m : Int) (w : World) :
    Calls Tryd.prog 88 #[.int .i64 s, .int .i64 e, .int .i64 m] w fun x w' => x = .returned (.func (.func 99) #[] #[.pointer (some ⟨w.heap.size + 1, 0, none⟩), .pointer (some ⟨w.heap.size, 0, none⟩), .pointer (some ⟨w.heap.size + 1 + 1, 0, none⟩)]) ∧ w' = ((w.alloc (.cells #[.int .i64 s] 3)).alloc (.cells #[.int .i64 e] 3)).alloc (.cells #[.int .i64 m] 3) := by
  go_enter Tryd.func88, Tryd.ntmps88
  go_wp2_with fail
  go_ret
  exact ⟨rfl, rfl⟩
theorem dayC {n : Int} {b : Bool} (h : dayB n = b) : ∀ W : World, Calls Tryd.prog 85 #[.int .i64 n] W fun e w' => e = .returned (.bool b) ∧ W = w' := fun W => by
  have := validDay_any n W; rw [h] at this; exact this
theorem monC {n : Int} {b : Bool} (h : Sc.monB n = b) : ∀ W : World, Calls Tryd.prog 86 #[.int .i64 n] W fun e w' => e = .returned (.bool b) ∧ W = w' := fun W => by
  have := validMonths_any n W; rw [h] at this; exact this
theorem coll_nil {s e m : Int} (w : World) (h : Sc.sch s e m = []) : Coll (Sc.sch s e m) w (.returned (.slice none 0 0)) w :=
  ⟨_, rfl, by rw [h]; exact PRow.nil w _, by rw [h]; simp, Below.refl _ _⟩
set_option maxHeartbeats 1000000 in
theorem sched_any (s e m : Int) (w : World) (hT : Tab w) :
    Calls Tryd.prog 75 #[.int .i64 s, .int .i64 e, .int .i64 m] w (Coll (Sc.sch s e m) w) := by
  have HT := Lib.hid hT; clear hT
  cases h1 : dayB s with
  | false =>
    have C1 := Lib.hid (dayC h1)
    have E := Lib.hid (Sc.sch_no1 (s := s) (e := e) (m := m) (by have := btw_iff_f.1 h1; unfold Sc.okB; rw [decide_eq_false (by omega)]; rfl))
    clear h1
    go_enter Tryd.func75, Tryd.ntmps75
    go_wp2_with fail
    refine (C1.out _).mono ?_
    rintro x w1 ⟨rfl, rfl⟩
    go_wp2_with fail
    go_ret
    exact coll_nil _ E.out
  | true =>
    have C1 := Lib.hid (dayC h1)
    cases h2 : dayB e with
    | false =>
      have C2 := Lib.hid (dayC h2)
      have E := Lib.hid (Sc.sch_no1 (s := s) (e := e) (m := m) (by have := btw_iff_f.1 h2; have := btw_iff.1 h1; unfold Sc.okB; rw [decide_eq_false (by omega)]; rfl))
      clear h1 h2
      go_enter Tryd.func75, Tryd.ntmps75
      go_wp2_with fail
      refine (C1.out _).mono ?_
      rintro x w1 ⟨rfl, rfl⟩
      go_wp2_with fail
      refine (C2.out _).mono ?_
      rintro x w1 ⟨rfl, rfl⟩
      go_wp2_with fail
      go_ret
      exact coll_nil _ E.out
    | true =>
      have C2 := Lib.hid (dayC h2)
      obtain ⟨s0, s1⟩ := btw_iff.1 h1
      obtain ⟨e0, e1⟩ := btw_iff.1 h2
      clear h1 h2
      by_cases h3 : e ≤ s
      · have E := Lib.hid (Sc.sch_no1 (s := s) (e := e) (m := m) (by unfold Sc.okB; rw [decide_eq_false (by omega)]; rfl))
        have h3' := decide_eq_true h3
        go_enter Tryd.func75, Tryd.ntmps75
        go_wp2_with fail
        refine (C1.out _).mono ?_
        rintro x w1 ⟨rfl, rfl⟩
        go_wp2_with fail
        refine (C2.out _).mono ?_
        rintro x w1 ⟨rfl, rfl⟩
        go_wp2_with fail
        go_ret
        exact coll_nil _ E.out
      · have h3' := decide_eq_false h3
        cases h4 : Sc.monB m with
        | false =>
          have C4 := Lib.hid (monC h4)
          have E := Lib.hid (Sc.sch_no1 (s := s) (e := e) (m := m) (by unfold Sc.okB; rw [h4]; simp))
          clear h4
          go_enter Tryd.func75, Tryd.ntmps75
          go_wp2_with fail
          refine (C1.out _).mono ?_
          rintro x w1 ⟨rfl, rfl⟩
          go_wp2_with fail
          refine (C2.out _).mono ?_
          rintro x w1 ⟨rfl, rfl⟩
          go_wp2_with fail
          refine (C4.out _).mono ?_
          rintro x w1 ⟨rfl, rfl⟩
          go_wp2_with fail
          go_ret
          exact coll_nil _ E.out
        | true =>
          have C4 := Lib.hid (monC h4)
          have ok : Sc.okB s e m = true := Sc.okB_iff.2 ⟨by omega, h4⟩
          have hN := Sc.isN ok
          obtain ⟨n1, n2, _, _⟩ := hN
          have OK := Lib.hid ok; clear ok h4
          have b0 := ((Blk.new w #[.int .i64 s] 3).alloc (.cells #[.int .i64 e] 3)).alloc (.cells #[.int .i64 m] 3)
          have b1 := (Blk.new (w.alloc (.cells #[.int .i64 s] 3)) #[.int .i64 e] 3).alloc (.cells #[.int .i64 m] 3)
          have b2 := Blk.new ((w.alloc (.cells #[.int .i64 s] 3)).alloc (.cells #[.int .i64 e] 3)) #[.int .i64 m] 3
          simp only [World.size_alloc] at b1 b2
          have hB : Below w.heap.size w (((w.alloc (.cells #[.int .i64 s] 3)).alloc (.cells #[.int .i64 e] 3)).alloc (.cells #[.int .i64 m] 3)) := (((Below.refl _ w).alloc (Nat.le_refl _) _).alloc (by simp) _).alloc (by simp; omega) _
          have hsz : (((w.alloc (.cells #[.int .i64 s] 3)).alloc (.cells #[.int .i64 e] 3)).alloc (.cells #[.int .i64 m] 3)).heap.size = w.heap.size + 3 := by simp
          have HB0 := Lib.hid b0; have HB1 := Lib.hid b1; have HB2 := Lib.hid b2; have HB := Lib.hid hB; have HS := Lib.hid hsz
          clear b0 b1 b2 hB hsz
          have HL := Lib.hid (Sc.back_len s e m (Sc.N s e m))
          go_enter Tryd.func75, Tryd.ntmps75
          go_wp2_with fail
          refine (C1.out _).mono ?_
          rintro x w1 ⟨rfl, rfl⟩
          go_wp2_with fail
          refine (C2.out _).mono ?_
          rintro x w1 ⟨rfl, rfl⟩
          go_wp2_with fail
          refine (C4.out _).mono ?_
          rintro x w1 ⟨rfl, rfl⟩
          go_wp2_with fail
          refine (periodsBack_any _ _ _ _).mono ?_
          rintro x w1 ⟨rfl, hw1⟩
          have HW := Lib.hid hw1; clear hw1
          have lt1 : w1.heap.size = w.heap.size + 3 := by rw [HW.out]; exact HS.out
          have HBw : Below w.heap.size w w1 := by rw [HW.out]; exact HB.out
          have K0 : Blk w1 w.heap.size 3 #[.int .i64 s] := by rw [HW.out]; exact HB0.out
          have K1 : Blk w1 (w.heap.size + 1) 3 #[.int .i64 e] := by rw [HW.out]; exact HB1.out
          have K2 : Blk w1 (w.heap.size + 1 + 1) 3 #[.int .i64 m] := by rw [HW.out]; exact HB2.out
          have q0 : w1.cell? ⟨w.heap.size, 0, none⟩ = some (.int .i64 s) := by unfold Blk at K0; simp [World.cell?, K0]
          have q1 : w1.cell? ⟨w.heap.size + 1, 0, none⟩ = some (.int .i64 e) := by unfold Blk at K1; simp [World.cell?, K1]
          have q2 : w1.cell? ⟨w.heap.size + 1 + 1, 0, none⟩ = some (.int .i64 m) := by unfold Blk at K2; simp [World.cell?, K2]
          have HC := Lib.hid (collect_any s e m OK.out (w.heap.size + 1) w.heap.size (w.heap.size + 1 + 1) w1 (by omega) (by omega) (by omega) (HT.out.below HBw HT.out.pos) q1 q0 q2)
          have LT1 := Lib.hid lt1
          clear q0 q1 q2 K0 K1 K2 lt1 HB HB0 HB1 HB2 HS
          go_wp2_with fail
          refine HC.out.mono ?_
          rintro x w2 ⟨v, rfl, hrow, hnil, hb2⟩
          obtain ⟨b, cap, rfl, hb, hblt, hcap, _, _⟩ := hrow.form (by rw [HL.out]; omega)
          have HR := Lib.hid hrow; clear hrow hnil hcap
          have hb2' := HBw.trans (hb2.mono HBw.size)
          have hbw : w.heap.size ≤ b := by have := LT1.out; omega
          rw [HL.out]
          by_cases h41 : 40 < Sc.N s e m
          · have E := Lib.hid (Sc.sch_no2 h41)
            have c : (40 : Int) < (Sc.N s e m : Int) := by omega
            go_wp2_with fail
            go_ret
            exact ⟨_, rfl, by rw [E.out]; exact PRow.nil _ _, by rw [E.out]; simp, hb2'⟩
          · have c : ¬ (40 : Int) < (Sc.N s e m : Int) := by omega
            have E := Lib.hid (Sc.sch_yes OK.out (show Sc.N s e m ≤ 40 by omega))
            have hrv := rev_any w2 w1.heap.size b cap (Sc.back s e m (Sc.N s e m)) HR.out (by rw [HL.out]; omega) (by rw [HL.out]; omega)
            rw [HL.out, Sc.back_rev] at hrv
            have HV := Lib.hid hrv; clear hrv
            go_wp2_with fail
            refine HV.out.mono ?_
            rintro x w3 ⟨rfl, hr3, hg3⟩
            have HR3 := Lib.hid hr3; clear hr3
            go_wp2_with fail
            go_ret
            refine ⟨_, rfl, ?_, ?_, hb2'.grown hg3 hb2'.size (fun k hk => by cases hk; exact hbw)⟩
            · rw [E.out]
              have := HR3.out
              exact this.lower HBw.size
            · rw [E.out]
              refine ⟨fun h => (by simp at h), fun h => ?_⟩
              have := Sc.all_len s e m
              rw [h] at this
              simp at this
              omega
end Go.Proofs.YtkdooncfchmkfaaDoor
