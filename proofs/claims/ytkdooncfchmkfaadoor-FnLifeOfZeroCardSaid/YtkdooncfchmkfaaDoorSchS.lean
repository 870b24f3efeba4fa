/- The model's schedules. -/
import Derived.Test.YtkdooncfchmkfaaDoorSch
import Derived.Test.YtkdooncfchmkfaaDoorZC
import Derived.Test.YtkdooncfchmkfaaDoorOwn
import Derived.Test.YtkdooncfchmkfaaDoorSpec2
import Derived.Test.YtkdooncfchmkfaaDoorDrawB
import Derived.Outline
namespace Go.Proofs.YtkdooncfchmkfaaDoor
open Go.RowKit
namespace Sc
/-- Where the t-th period begins. -/
noncomputable def fr (s e m : Int) (t : Nat) : Int := if t = 0 then s else S e m (N s e m - t)
noncomputable def Q (s e m : Int) (t : Nat) : Per := (fr s e m t, S e m (N s e m - 1 - t), S e m (N s e m - t) == fr s e m t)
noncomputable def specL (s e m : Int) (n : Nat) : List Per := (List.range n).map (Q s e m)
theorem specL_len (s e m : Int) (n : Nat) : (specL s e m n).length = n := by simp [specL]
theorem specL_succ (s e m : Int) (n : Nat) : specL s e m (n + 1) = specL s e m n ++ [Q s e m n] := by simp [specL, List.range_succ]
theorem fr_succ {s e m : Int} {t : Nat} : fr s e m (t + 1) = S e m (N s e m - (t + 1)) := by unfold fr; rw [if_neg (by omega)]
theorem Q_eq {s e m : Int} (h : okB s e m = true) (hn : N s e m ≤ 40) {t : Nat} (ht : t < N s e m) : Q s e m t = P s e m (N s e m - t) := by
  have k := isN h
  unfold Q P
  rw [show N s e m - 1 - t = N s e m - t - 1 by omega]
  by_cases t0 : t = 0
  · subst t0
    have hle := k.le (by omega)
    unfold fr
    rw [if_pos rfl, show N s e m - 0 = N s e m from rfl, Int.max_eq_right hle]
    refine Prod.ext rfl (Prod.ext rfl ?_)
    show (S e m (N s e m) == s) = decide (s ≤ S e m (N s e m))
    by_cases c : S e m (N s e m) = s
    · rw [c]; simp
    · rw [decide_eq_false (by omega)]; simpa using c
  · have hgt := k.gt (N s e m - t) (by omega)
    unfold fr
    rw [if_neg t0, Int.max_eq_left (by omega)]
    refine Prod.ext rfl (Prod.ext rfl ?_)
    show (S e m (N s e m - t) == S e m (N s e m - t)) = decide (s ≤ S e m (N s e m - t))
    rw [decide_eq_true (by omega)]; simp
theorem specL_all {s e m : Int} (h : okB s e m = true) (hn : N s e m ≤ 40) : specL s e m (N s e m) = all s e m := by
  unfold specL all
  apply List.map_congr_left
  intro t ht
  exact Q_eq h hn (by simpa using ht)
/-- The ends of the periods, the last one first. -/
noncomputable def days (e m : Int) (n : Nat) : List Int := (List.range n).map (S e m)
theorem days_len (e m : Int) (n : Nat) : (days e m n).length = n := by simp [days]
theorem days_succ (e m : Int) (n : Nat) : days e m (n + 1) = days e m n ++ [S e m n] := by simp [days, List.range_succ]
theorem days_at (e m : Int) {n i : Nat} (h : i < n) : (days e m n).getD i 0 = S e m i := by
  unfold days
  rw [List.getD_eq_getElem?_getD, List.getElem?_map, List.getElem?_range h]
  rfl
end Sc
theorem infoPS : (Tryd.prog.info? 58).map (fun i => (i.zero, i.size, i.bytes)) = some (some (.agg #[.int .i64 0, .int .i64 0, .bool false]), 3, 24) := by kernel_rfl
/-- A row of periods that is not nil. -/
def PR (w : World) (B : Nat) (v : Value) (ps : List Per) : Prop := PRow w B v ps ∧ v ≠ .slice none 0 0
theorem pr_new (w : World) : PR (w.alloc (.cells #[] 58)) w.heap.size (.slice (some ⟨w.heap.size, 0, none⟩) 0 0) [] :=
  ⟨World.ownsRow_lit w #[] 0 (Nat.le_refl _) (Nat.zero_le _) (by simp), by simp⟩
theorem PR.form {w : World} {B : Nat} {v : Value} {ps : List Per} (h : PR w B v ps) : ∃ b cap, v = .slice (some ⟨b, 0, none⟩) ps.length cap ∧ B ≤ b ∧ b < w.heap.size := by
  rcases h.1.2 with ⟨h3, _⟩ | ⟨b, cap, cur, rfl, hb, hblk, _⟩
  · exact absurd h3 h.2
  · exact ⟨b, cap, rfl, hb, (World.ownsRow.lt h.1 b rfl).2⟩
theorem PR.far {w : World} {B : Nat} {v : Value} {ps : List Per} (h : PR w B v ps) : ∀ j, v.ownBlock = some j → B ≤ j := fun j e => (World.ownsRow.lt h.1 j e).1
/-- One period appended. -/
theorem wpList_pushP (w : World) {ops : Array Oper} {rest : List Oper} {o : Oper} {a : Act} {Q : Exit → Act → World → Prop} (hgd : o.guard = none) (s x : Operand)
    (ho : o.op = .call { callee := .builtin .append, args := #[s, x], argTypes := #[65, 65] })
    (B : Nat) (v : Value) (xs : List Per) (hs : a.eval s = v) (hown : PR w B v xs) (b c : Nat) (y : Per) (hx : a.eval x = .slice (some ⟨b, 0, none⟩) 1 c) (hcell : ∀ j u, (pc y)[j]? = some u → w.cell? ((⟨b, 0, none⟩ : Addr).add j) = some u)
    (hl : xs.length + 1 ≤ 1000000) (hB : B ≤ w.heap.size)
    (h : ∀ v' w', PR w' B v' (xs ++ [y]) → w.grownBy w' v.ownBlock → wpList Tryd.prog ops Q rest (a.put o.dst v') w') : wpList Tryd.prog ops Q (o :: rest) a w := by
  obtain ⟨i0, hi, hz0, hz1, hz2⟩ := info_parts infoPS
  refine wpList_append_own w hgd s x 65 ho B 58 i0 (.agg #[.int .i64 0, .int .i64 0, .bool false]) 3 24 Tryd.underlying65 hi hz0 hz1 hz2 rfl (by decide) v xs.length _ hs hown.1 ⟨b, 0, none⟩ 1 c (pc y) hx rfl hcell (pc_one y) (by unfold maxLen; omega) (by omega) hB ?_
  intro v' w' h1 h2 h3
  refine h v' w' ⟨?_, fun e => ?_⟩ h2
  · unfold PRow
    rw [flat_take, List.length_append]
    exact h1
  · exact hown.2 (h3.1 e).1
theorem cell_three (w : World) (p : Per) (t : TypeId) : ∀ j u, (pc p)[j]? = some u → (w.alloc (.cells #[.int .i64 p.1, .int .i64 p.2.1, .bool p.2.2] t)).cell? ((⟨w.heap.size, 0, none⟩ : Addr).add j) = some u := by
  intro j u hj
  match j, hj with
  | 0, hj => simp [pc] at hj; subst hj; simp [Addr.add]
  | 1, hj => simp [pc] at hj; subst hj; simp [Addr.add]
  | 2, hj => simp [pc] at hj; subst hj; simp [Addr.add]
theorem Own.len {w : World} {B b cap n : Nat} {xs : List Int} (h : Own w B (.slice (some ⟨b, 0, none⟩) xs.length cap) xs) (hl : xs.length = n) : Own w B (.slice (some ⟨b, 0, none⟩) n cap) xs := by subst hl; exact h
theorem Own.below {w w' : World} {B : Nat} {v : Value} {xs : List Int} (h : Own w B v xs) (hb : Below w.heap.size w w') : Own w' B v xs :=
  ⟨World.ownsRow.kept h.1 (row := none) ⟨hb.os, hb.tape, hb.output, hb.size, fun k hk _ => hb.block k hk⟩ (by cases v.ownBlock <;> simp), h.2⟩
theorem Own.at_ {w : World} {B b cap n : Nat} {xs : List Int} (h : Own w B (.slice (some ⟨b, 0, none⟩) n cap) xs) (i : Nat) (hi : i < xs.length) : w.cell? ⟨b, i, none⟩ = some (.int .i64 (xs.getD i 0)) := by
  obtain ⟨b', cap', e, _, _, hc, _⟩ := h.form
  simp only [Value.slice.injEq, Option.some.injEq, Addr.mk.injEq, and_true] at e
  rw [e.1]
  exact hc i hi
theorem PR.kept {w w' : World} {B : Nat} {v : Value} {ps : List Per} {row : Option Nat} (h : PR w B v ps) (hg : w.grownBy w' row) (hr : ∀ j, row = some j → j < B) : PR w' B v ps := ⟨h.1.kept hg hr, h.2⟩
theorem PR.below {w w' : World} {B : Nat} {v : Value} {ps : List Per} (h : PR w B v ps) (hb : Below w.heap.size w w') : PR w' B v ps := ⟨h.1.below hb (Nat.le_refl _), h.2⟩
theorem PR.alloc {w : World} {B : Nat} {v : Value} {ps : List Per} (h : PR w B v ps) (o : Obj) : PR (w.alloc o) B v ps := ⟨h.1.alloc o, h.2⟩
theorem Sc.fr_bd (s e m : Int) (t : Nat) (h0 : 0 ≤ s) (h1 : s ≤ 36524) : -1 ≤ Sc.fr s e m t ∧ Sc.fr s e m t ≤ 36524 := by
  unfold Sc.fr
  split
  · omega
  · exact Sc.S_bd _ _ _
theorem sAddM_S (e m : Int) (k : Nat) (w : World) (e0 : 0 ≤ e) (e1 : e ≤ 36524) (h0 : 0 ≤ (k : Int) * m) (h1 : (k : Int) * m ≤ 600) :
    Calls Tryd.prog 62 #[.int .i64 e, .int .i64 (-(k : Int) * m)] w fun x w' => x = .returned (.int .i64 (Sc.S e m k)) ∧ Below w.heap.size w w' := by
  have h := sAddMonths_yes e (-(k : Int) * m) w e0 e1 (by rw [Int.neg_mul]; omega) (by rw [Int.neg_mul]; omega)
  have e1 : addV e (-(k : Int) * m) = Sc.S e m k := by unfold Sc.S; rw [Int.neg_mul]
  rw [e1] at h
  exact h
/-- What schedule leaves. -/
def SchedL (s e m : Int) (w : World) (x : Ending) (w' : World) : Prop := ∃ v, x = .returned v ∧ PR w' w.heap.size v (Sc.specL s e m (Sc.N s e m)) ∧ Below w.heap.size w w'
set_option maxHeartbeats 4000000 in
theorem sSched_any (s e m : Int) (w : World) (ok : Sc.okB s e m = true) :
    Calls Tryd.prog 42 #[.int .i64 s, .int .i64 e, .int .i64 m] w (SchedL s e m w) := by
  obtain ⟨⟨s0, se, e1⟩, hm⟩ := Sc.okB_iff.1 ok
  obtain ⟨m0, m1⟩ := Sc.mon_bd hm
  have HN := Lib.hid (Sc.isN ok)
  have OK := Lib.hid ok; clear ok
  have HM := Lib.hid hm; clear hm
  have HO := Lib.hid (own_new w)
  go_enter Tryd.func42, Tryd.ntmps42
  go_wp2_with fail
  go_loopw [7, 8] (fun d k wr => ∃ j : Nat, j ≤ 41 ∧ k = .int .i64 j ∧ Hid (Own wr w.heap.size d (Sc.days e m j)) ∧ Below w.heap.size w wr ∧ Hid (∀ i, i < j → s < Sc.S e m i)) (fun _ k _ => 42 - (intOf k).toNat)
  case atStart => exact ⟨0, by omega, rfl, Lib.hid HO.out, (Below.refl _ _).alloc (Nat.le_refl _) _, Lib.hid fun i hi => by omega⟩
  case round =>
    obtain ⟨j, j1, rfl, HD, hb, HS⟩ := hrel
    have hsz := hb.size
    obtain ⟨bd, cd, rfl, hbd, hbdl, _, _⟩ := HD.out.form
    have HDL := Lib.hid (Sc.days_len e m j)
    rw [HDL.out]
    obtain ⟨d0, d1⟩ := Sc.S_bd e m j
    by_cases hc : j ≤ 40 ∧ s < Sc.S e m j
    · obtain ⟨hc1, hc2⟩ := hc
      obtain ⟨km0, km1⟩ := Sc.km_bd HM.out (k := j) (by omega)
      have n0 : -504 ≤ -(j : Int) * m := by rw [Int.neg_mul]; omega
      have n1 : -(j : Int) * m ≤ 0 := by rw [Int.neg_mul]; omega
      have c1 : (j : Int) ≤ 40 := by omega
      have HC := Lib.hid (fun W => sAddM_S e m j W (by omega) e1 km0 (by omega))
      go_wp2_with fail
      refine (HC.out _).mono ?_
      rintro x w2 ⟨rfl, hb2⟩
      have HD2 := Lib.hid (((HD.out.len HDL.out).below hb2).alloc (.cells #[.int .i64 (Sc.S e m j)] 3))
      have hB2 := hb.trans (hb2.mono hsz)
      have hsz2 := hB2.size
      clear hb2
      go_wp2_with (at_builtin; refine wpList_push _ rfl _ _ rfl w.heap.size _ (Sc.days e m j) rfl HD2.out w2.heap.size _ (Sc.S e m j) rfl (by simp) (by rw [HDL.out]; omega) (by simp; omega) ?_; intro v3 w3 hown3 hg4)
      go_roundw
      case rel =>
        refine ⟨j + 1, by omega, by go_num, Lib.hid ?_, ?_, Lib.hid fun i hi => ?_⟩
        · rw [Sc.days_succ]; exact hown3
        · exact (hB2.alloc hB2.size _).grown hg4 (by simp; omega) (fun k hk => HD2.out.far k hk)
        · rcases Nat.lt_or_ge i j with a | a
          · exact HS.out i a
          · obtain rfl : i = j := by omega
            exact hc2
      case measure => simp [intOf]; omega
    · have hNj : Sc.N s e m = j := by
        refine Sc.N_eq OK.out ⟨?_, j1, HS.out, fun hlt => ?_⟩
        · rcases Nat.lt_or_ge 0 j with a | a
          · omega
          · exfalso
            obtain rfl : j = 0 := by omega
            apply hc
            rw [Sc.S_zero (by omega) e1]
            omega
        · rcases Int.lt_or_le s (Sc.S e m j) with a | a
          · exact absurd ⟨by omega, a⟩ hc
          · exact a
      have HNJ := Lib.hid hNj; clear hNj
      have hj0 : 1 ≤ j := by have := HN.out.n1; rw [HNJ.out] at this; exact this
      obtain ⟨km0, km1⟩ := Sc.km_bd HM.out (k := j) (by omega)
      have n0 : -504 ≤ -(j : Int) * m := by rw [Int.neg_mul]; omega
      have n1 : -(j : Int) * m ≤ 0 := by rw [Int.neg_mul]; omega
      have HC := Lib.hid (fun W => sAddM_S e m j W (by omega) e1 km0 (by omega))
      have HOP := Lib.hid (@pr_new)
      have hcc : ((j : Int) ≤ 40 ∧ Sc.S e m j ≤ s) ∨ ¬ (j : Int) ≤ 40 := by
        rcases Nat.lt_or_ge 40 j with a | a
        · exact .inr (by omega)
        · exact .inl ⟨by omega, by rcases Int.lt_or_le s (Sc.S e m j) with b | b; exact absurd ⟨a, b⟩ hc; exact b⟩
      clear hc
      have hmid : ∃ W : World, Below w.heap.size w W := ⟨w, Below.refl _ _⟩
      clear hmid
      rcases hcc with ⟨c1, c2⟩ | c1
      · go_wp2_with fail
        refine (HC.out _).mono ?_
        rintro x w2 ⟨rfl, hb2⟩
        have HD2 := Lib.hid ((HD.out.len HDL.out).below hb2)
        have hB2 := hb.trans (hb2.mono hsz)
        have hsz2 := hB2.size
        have hbd2 : bd < w2.heap.size := Nat.lt_of_lt_of_le hbdl hb2.size
        clear hb2 HD
        have HO2 := Lib.hid (HOP.out w2)
        have HS2 := Lib.hid (Nat.le_refl w2.heap.size)
        go_wp2_with fail
        go_loopw [10, 11, 12] (fun o f i wr2 => ∃ t : Nat, t ≤ j ∧ i = .int .i64 ((j : Int) - 1 - t) ∧ f = .int .i64 (Sc.fr s e m t) ∧ Hid (PR wr2 w2.heap.size o (Sc.specL s e m t)) ∧ Hid (Own wr2 w.heap.size (.slice (some ⟨bd, 0, none⟩) j cd) (Sc.days e m j)) ∧ Below w.heap.size w wr2 ∧ w2.heap.size ≤ wr2.heap.size) (fun _ _ i _ => (intOf i + 1).toNat)
        case atStart => exact ⟨0, by omega, by simp, rfl, Lib.hid HO2.out, Lib.hid (HD2.out.alloc _), hB2.alloc hB2.size _, by simp⟩
        case round =>
          obtain ⟨t, ht, rfl, rfl, HP, HDr, hbr, hszr⟩ := hrel
          obtain ⟨f0, f1⟩ := Sc.fr_bd s e m t s0 (by omega)
          obtain ⟨bo, co, rfl, _, _⟩ := HP.out.form
          have hszw := hbr.size
          by_cases hlt : t < j
          · obtain ⟨k, hk⟩ : ∃ k : Nat, k = j - 1 - t := ⟨_, rfl⟩
            have ej : (j : Int) - 1 - t = k := by omega
            rw [ej]
            have hkj : k < j := by omega
            obtain ⟨a0, a1⟩ := Sc.km_bd HM.out (k := k + 1) (by omega)
            have HC2 := Lib.hid (fun W => sAddM_S e m (k + 1) W (by omega) e1 a0 (by omega))
            rw [show ((k + 1 : Nat) : Int) = (k : Int) + 1 by omega] at HC2 a0 a1
            have n2 : -504 ≤ -((k : Int) + 1) * m := by rw [Int.neg_mul]; omega
            have n3 : -((k : Int) + 1) * m ≤ 0 := by rw [Int.neg_mul]; omega
            obtain ⟨p0, p1⟩ := Sc.S_bd e m k
            obtain ⟨q0, q1⟩ := Sc.S_bd e m (k + 1)
            have HQ := Lib.hid (show Sc.Q s e m t = (Sc.fr s e m t, Sc.S e m k, Sc.S e m (k + 1) == Sc.fr s e m t) by
              unfold Sc.Q
              rw [HNJ.out, show j - 1 - t = k by omega, show j - t = k + 1 by omega])
            have HF := Lib.hid (show Sc.fr s e m (t + 1) = Sc.S e m k by rw [Sc.fr_succ, HNJ.out, show j - (t + 1) = k by omega])
            have HL2 := Lib.hid (Sc.specL_len s e m t)
            have HK := Lib.hid hk; clear hk
            go_wp2_with fail
            refine (HC2.out _).mono ?_
            rintro x w3 ⟨rfl, hb3⟩
            have HP3 := Lib.hid ((HP.out.below hb3).alloc (.cells #[.int .i64 (Sc.fr s e m t), .int .i64 (Sc.S e m k), .bool (Sc.S e m (k + 1) == Sc.fr s e m t)] 58))
            have HD3 := Lib.hid (HDr.out.below hb3)
            have c3 := HD3.out.at_ k (by rw [HDL.out]; exact hkj)
            rw [Sc.days_at e m hkj] at c3
            have hB3 := hbr.trans (hb3.mono hszw)
            have hsz3 : w2.heap.size ≤ w3.heap.size := Nat.le_trans hszr hb3.size
            clear hb3
            have hlt2 : bd < w3.heap.size := by omega
            go_wp2_with (at_builtin; refine wpList_pushP _ rfl _ _ rfl w2.heap.size _ (Sc.specL s e m t) rfl HP3.out w3.heap.size _ (Sc.fr s e m t, Sc.S e m k, Sc.S e m (k + 1) == Sc.fr s e m t) rfl (cell_three w3 (Sc.fr s e m t, Sc.S e m k, Sc.S e m (k + 1) == Sc.fr s e m t) _) (by rw [HL2.out]; omega) (by simp; omega) ?_; (intro v4 w4 hown4 hg4; have HP4 := Lib.hid hown4; clear hown4; have HD4 := Lib.hid (show Own w4 w.heap.size (.slice (some ⟨bd, 0, none⟩) j cd) (Sc.days e m j) from ⟨World.ownsRow.kept (HD3.out.alloc _).1 hg4 (.inr fun q => by have h9 : w2.heap.size ≤ bd := HP3.out.far bd q.symm; omega), HD3.out.2⟩); have hB4 : Below w.heap.size w w4 := (hB3.alloc hB3.size _).grown hg4 (by have := hB3.size; rw [World.size_alloc]; omega) (fun i hi => by have := HP3.out.far i hi; omega); have hsz4 : w2.heap.size ≤ w4.heap.size := Nat.le_trans hsz3 (Nat.le_trans (by rw [World.size_alloc]; exact Nat.le_succ _) hg4.size); have c4 := HD4.out.at_ k (by rw [HDL.out]; exact hkj); rw [Sc.days_at e m hkj] at c4; clear hg4))
            go_roundw
            case rel => exact ⟨t + 1, by omega, by congr 1; have := HK.out; omega, by rw [HF.out], Lib.hid (by rw [Sc.specL_succ, HQ.out]; exact HP4.out), HD4, hB4, hsz4⟩
            case measure => simp [intOf] <;> omega
          · obtain rfl : t = j := by omega
            have ej : (t : Int) - 1 - t = -1 := by omega
            rw [ej]
            go_wp2_with fail
            go_ret
            refine ⟨_, rfl, ?_, hbr⟩
            rw [HNJ.out]
            exact ⟨HP.out.1.lower hB2.size, HP.out.2⟩
      · rename World => w2
        have HD2 := Lib.hid (HD.out.len HDL.out)
        have hB2 := hb
        clear HD
        have HO2 := Lib.hid (HOP.out w2)
        have HS2 := Lib.hid (Nat.le_refl w2.heap.size)
        go_wp2_with fail
        go_loopw [10, 11, 12] (fun o f i wr2 => ∃ t : Nat, t ≤ j ∧ i = .int .i64 ((j : Int) - 1 - t) ∧ f = .int .i64 (Sc.fr s e m t) ∧ Hid (PR wr2 w2.heap.size o (Sc.specL s e m t)) ∧ Hid (Own wr2 w.heap.size (.slice (some ⟨bd, 0, none⟩) j cd) (Sc.days e m j)) ∧ Below w.heap.size w wr2 ∧ w2.heap.size ≤ wr2.heap.size) (fun _ _ i _ => (intOf i + 1).toNat)
        case atStart => exact ⟨0, by omega, by simp, rfl, Lib.hid HO2.out, Lib.hid (HD2.out.alloc _), hB2.alloc hB2.size _, by simp⟩
        case round =>
          obtain ⟨t, ht, rfl, rfl, HP, HDr, hbr, hszr⟩ := hrel
          obtain ⟨f0, f1⟩ := Sc.fr_bd s e m t s0 (by omega)
          obtain ⟨bo, co, rfl, _, _⟩ := HP.out.form
          have hszw := hbr.size
          by_cases hlt : t < j
          · obtain ⟨k, hk⟩ : ∃ k : Nat, k = j - 1 - t := ⟨_, rfl⟩
            have ej : (j : Int) - 1 - t = k := by omega
            rw [ej]
            have hkj : k < j := by omega
            obtain ⟨a0, a1⟩ := Sc.km_bd HM.out (k := k + 1) (by omega)
            have HC2 := Lib.hid (fun W => sAddM_S e m (k + 1) W (by omega) e1 a0 (by omega))
            rw [show ((k + 1 : Nat) : Int) = (k : Int) + 1 by omega] at HC2 a0 a1
            have n2 : -504 ≤ -((k : Int) + 1) * m := by rw [Int.neg_mul]; omega
            have n3 : -((k : Int) + 1) * m ≤ 0 := by rw [Int.neg_mul]; omega
            obtain ⟨p0, p1⟩ := Sc.S_bd e m k
            obtain ⟨q0, q1⟩ := Sc.S_bd e m (k + 1)
            have HQ := Lib.hid (show Sc.Q s e m t = (Sc.fr s e m t, Sc.S e m k, Sc.S e m (k + 1) == Sc.fr s e m t) by
              unfold Sc.Q
              rw [HNJ.out, show j - 1 - t = k by omega, show j - t = k + 1 by omega])
            have HF := Lib.hid (show Sc.fr s e m (t + 1) = Sc.S e m k by rw [Sc.fr_succ, HNJ.out, show j - (t + 1) = k by omega])
            have HL2 := Lib.hid (Sc.specL_len s e m t)
            have HK := Lib.hid hk; clear hk
            go_wp2_with fail
            refine (HC2.out _).mono ?_
            rintro x w3 ⟨rfl, hb3⟩
            have HP3 := Lib.hid ((HP.out.below hb3).alloc (.cells #[.int .i64 (Sc.fr s e m t), .int .i64 (Sc.S e m k), .bool (Sc.S e m (k + 1) == Sc.fr s e m t)] 58))
            have HD3 := Lib.hid (HDr.out.below hb3)
            have c3 := HD3.out.at_ k (by rw [HDL.out]; exact hkj)
            rw [Sc.days_at e m hkj] at c3
            have hB3 := hbr.trans (hb3.mono hszw)
            have hsz3 : w2.heap.size ≤ w3.heap.size := Nat.le_trans hszr hb3.size
            clear hb3
            have hlt2 : bd < w3.heap.size := by omega
            go_wp2_with (at_builtin; refine wpList_pushP _ rfl _ _ rfl w2.heap.size _ (Sc.specL s e m t) rfl HP3.out w3.heap.size _ (Sc.fr s e m t, Sc.S e m k, Sc.S e m (k + 1) == Sc.fr s e m t) rfl (cell_three w3 (Sc.fr s e m t, Sc.S e m k, Sc.S e m (k + 1) == Sc.fr s e m t) _) (by rw [HL2.out]; omega) (by simp; omega) ?_; (intro v4 w4 hown4 hg4; have HP4 := Lib.hid hown4; clear hown4; have HD4 := Lib.hid (show Own w4 w.heap.size (.slice (some ⟨bd, 0, none⟩) j cd) (Sc.days e m j) from ⟨World.ownsRow.kept (HD3.out.alloc _).1 hg4 (.inr fun q => by have h9 : w2.heap.size ≤ bd := HP3.out.far bd q.symm; omega), HD3.out.2⟩); have hB4 : Below w.heap.size w w4 := (hB3.alloc hB3.size _).grown hg4 (by have := hB3.size; rw [World.size_alloc]; omega) (fun i hi => by have := HP3.out.far i hi; omega); have hsz4 : w2.heap.size ≤ w4.heap.size := Nat.le_trans hsz3 (Nat.le_trans (by rw [World.size_alloc]; exact Nat.le_succ _) hg4.size); have c4 := HD4.out.at_ k (by rw [HDL.out]; exact hkj); rw [Sc.days_at e m hkj] at c4; clear hg4))
            go_roundw
            case rel => exact ⟨t + 1, by omega, by congr 1; have := HK.out; omega, by rw [HF.out], Lib.hid (by rw [Sc.specL_succ, HQ.out]; exact HP4.out), HD4, hB4, hsz4⟩
            case measure => simp [intOf] <;> omega
          · obtain rfl : t = j := by omega
            have ej : (t : Int) - 1 - t = -1 := by omega
            rw [ej]
            go_wp2_with fail
            go_ret
            refine ⟨_, rfl, ?_, hbr⟩
            rw [HNJ.out]
            exact ⟨HP.out.1.lower hB2.size, HP.out.2⟩
end Go.Proofs.YtkdooncfchmkfaaDoor
