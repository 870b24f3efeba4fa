/- The period that has a day, on both sides. -/
import Derived.Test.YtbihadelhknlnaaRow
import Derived.Test.YtbihadelhknlnaaRd
import Derived.Test.YtbihadelhknlnaaDate
import Derived.OwnWalk
import Derived.WalkKit
import Derived.WalkSpells
import Derived.WalkLawsBesides
import Derived.Lib.Hide
import Derived.IntWalk
import Derived.Outline
namespace Go.Proofs.Ytbihadelhknlnaa
open Go.RowKit
/-- Period i has day d. -/
def hit (ps : List Per) (d : Int) (i : Nat) : Prop := (ps.getD i p0).1 ≤ d ∧ d < (ps.getD i p0).2.1
/-- The index of the first one that has it. -/
def IsAt (ps : List Per) (d x : Int) : Prop := (x = -1 ∧ ∀ i, i < ps.length → ¬ hit ps d i) ∨ ∃ i : Nat, x = i ∧ i < ps.length ∧ hit ps d i ∧ ∀ j, j < i → ¬ hit ps d j
theorem isAt_uniq {ps : List Per} {d x y : Int} (h : IsAt ps d x) (k : IsAt ps d y) : x = y := by
  rcases h with ⟨rfl, h⟩ | ⟨i, rfl, hi, hh, hb⟩
  · rcases k with ⟨rfl, _⟩ | ⟨j, rfl, hj, hh', _⟩
    · rfl
    · exact absurd hh' (h j hj)
  · rcases k with ⟨rfl, k⟩ | ⟨j, rfl, hj, hh', hb'⟩
    · exact absurd hh (k i hi)
    · rcases Nat.lt_trichotomy i j with c | c | c
      · exact absurd hh (hb' i c)
      · rw [c]
      · exact absurd hh' (hb j c)
theorem isAt_ex (ps : List Per) (d : Int) : ∃ x, IsAt ps d x := by
  have key : ∀ n : Nat, n ≤ ps.length → (∀ i, i < n → ¬ hit ps d i) ∨ ∃ x, IsAt ps d x := by
    intro n
    induction n with
    | zero => intro _; exact .inl fun i hi => by omega
    | succ n ih =>
      intro hn
      rcases ih (by omega) with c | c
      · by_cases hh : hit ps d n
        · exact .inr ⟨n, .inr ⟨n, rfl, by omega, hh, c⟩⟩
        · exact .inl fun i hi => by
            rcases Nat.lt_or_ge i n with a | a
            · exact c i a
            · obtain rfl : i = n := by omega
              exact hh
      · exact .inr c
  rcases key ps.length (Nat.le_refl _) with c | c
  · exact ⟨-1, .inl ⟨rfl, c⟩⟩
  · exact c
noncomputable def idx (ps : List Per) (d : Int) : Int := Classical.choose (isAt_ex ps d)
theorem isAt_idx (ps : List Per) (d : Int) : IsAt ps d (idx ps d) := Classical.choose_spec (isAt_ex ps d)
noncomputable def patV (ps : List Per) (d : Int) : Int := if 40 < ps.length then -1 else idx ps d
set_option maxHeartbeats 400000 in
theorem clo_any (w : World) (p : Per) (d : Int) (B : Nat) (hB : w.cell? ⟨B, 0, none⟩ = some (.int .i64 d)) :
    Calls Try.prog 13 #[.agg #[.int .i64 p.1, .int .i64 p.2.1, .bool p.2.2], .pointer (some ⟨B, 0, none⟩)] w fun x w' => x = .returned (.bool (decide (p.1 ≤ d ∧ d < p.2.1))) ∧ Below w.heap.size w w' := by
  obtain ⟨f, t, z⟩ := p
  have hlt : B < w.heap.size := World.block_lt_of_cell? w _ hB
  have hc : (w.alloc (.cells #[.int .i64 f, .int .i64 t, .bool z] 33)).cell? ⟨B, 0, none⟩ = some (.int .i64 d) := by
    rw [World.cell?_alloc_lt _ _ ⟨B, 0, none⟩ hlt]; exact hB
  clear hB
  by_cases c1 : f ≤ d
  · by_cases c2 : d < t
    · have E := Lib.hid (show decide (f ≤ d ∧ d < t) = true from decide_eq_true ⟨c1, c2⟩)
      have d1 := decide_eq_true c1
      have d2 := decide_eq_true c2
      clear c1 c2
      go_enter Try.func13, Try.ntmps13
      go_wp2_with fail
      go_ret
      exact ⟨ret_bool E.out.symm, (Below.refl _ _).alloc (Nat.le_refl _) _⟩
    · have E := Lib.hid (show decide (f ≤ d ∧ d < t) = false from decide_eq_false (fun h => c2 h.2))
      have d1 := decide_eq_true c1
      have d2 := decide_eq_false c2
      clear c1 c2
      go_enter Try.func13, Try.ntmps13
      go_wp2_with fail
      go_ret
      exact ⟨ret_bool E.out.symm, (Below.refl _ _).alloc (Nat.le_refl _) _⟩
  · have E := Lib.hid (show decide (f ≤ d ∧ d < t) = false from decide_eq_false (fun h => c1 h.1))
    have d1 := decide_eq_false c1
    clear c1
    go_enter Try.func13, Try.ntmps13
    go_wp2_with fail
    go_ret
    exact ⟨ret_bool E.out.symm, (Below.refl _ _).alloc (Nat.le_refl _) _⟩
set_option maxHeartbeats 1000000 in
theorem indexFunc_any (w : World) (v : Value) (ps : List Per) (d : Int) (B : Nat) (hv : Rd w v ps) (hm : ps.length ≤ 40) (hB : w.cell? ⟨B, 0, none⟩ = some (.int .i64 d)) :
    Calls Try.prog 12 #[v, .func (.func 13) #[] #[.pointer (some ⟨B, 0, none⟩)]] w fun x w' => x = .returned (.int .i64 (idx ps d)) ∧ Below w.heap.size w w' := by
  have hBl : B < w.heap.size := World.block_lt_of_cell? w _ hB
  have HB := Lib.hid hB; clear hB
  obtain ⟨⟨a, c, rfl⟩, h1⟩ := hv
  have H1 := Lib.hid h1; clear h1
  have HI := Lib.hid (isAt_idx ps d)
  obtain ⟨n, hn⟩ : ∃ n, n = ps.length := ⟨_, rfl⟩
  rw [← hn] at hm ⊢
  have HN := Lib.hid hn; clear hn
  go_enter Try.func12, Try.ntmps12
  go_wp2_with fail
  go_loopw [8] (fun x wr => ∃ i : Nat, i ≤ n ∧ x = .int .i64 i ∧ Below w.heap.size w wr ∧ Hid (∀ j, j < i → ¬ hit ps d j)) (fun x _ => n - (intOf x).toNat)
  case atStart => exact ⟨0, Nat.zero_le _, rfl, Below.refl _ _, Lib.hid (fun j hj => by omega)⟩
  case round =>
    obtain ⟨i, hi, rfl, hb, HH⟩ := hrel
    by_cases hlt : i < n
    · obtain ⟨b, d', e, hbl, hc⟩ := H1.out (by rw [← HN.out]; omega)
      rw [← HN.out] at e
      simp only [Value.slice.injEq, true_and] at e
      obtain ⟨rfl, rfl⟩ := e
      obtain ⟨c0, c1, c2⟩ := hc i (by rw [← HN.out]; exact hlt)
      replace c0 := (hb.cell (p := ⟨b, i * 3, none⟩) hbl).trans c0
      replace c1 := (hb.cell (p := ⟨b, i * 3 + 1, none⟩) hbl).trans c1
      replace c2 := (hb.cell (p := ⟨b, i * 3 + 2, none⟩) hbl).trans c2
      clear hc
      have hcl := Lib.hid (clo_any wr (ps.getD i p0) d B ((hb.cell (p := ⟨B, 0, none⟩) hBl).trans HB.out))
      have hsz := hb.size
      cases hh : decide ((ps.getD i p0).1 ≤ d ∧ d < (ps.getD i p0).2.1) with
      | true =>
        have hcl2 := hcl.out
        rw [hh] at hcl2
        have HC := Lib.hid hcl2
        have HF := Lib.hid (isAt_uniq HI.out (.inr ⟨i, rfl, by rw [← HN.out]; exact hlt, (show (ps.getD i p0).1 ≤ d ∧ d < (ps.getD i p0).2.1 from of_decide_eq_true hh), HH.out⟩))
        clear hcl hcl2 hh
        generalize ps.getD i p0 = p at c0 c1 c2 HC
        go_wp2_with fail
        refine HC.out.mono ?_
        rintro x w2 ⟨rfl, hb2⟩
        go_wp2_with fail
        go_ret
        exact ⟨ret_int HF.out.symm, hb.trans (hb2.mono hsz)⟩
      | false =>
        have hcl2 := hcl.out
        rw [hh] at hcl2
        have HC := Lib.hid hcl2
        have HF : Hid (¬ hit ps d i) := Lib.hid (show ¬ ((ps.getD i p0).1 ≤ d ∧ d < (ps.getD i p0).2.1) from of_decide_eq_false hh)
        clear hcl hcl2 hh
        generalize hp : ps.getD i p0 = p at c0 c1 c2 HC
        clear hp
        go_wp2_with fail
        refine HC.out.mono ?_
        rintro x w2 ⟨rfl, hb2⟩
        go_wp2_with fail
        go_roundw
        case rel =>
          refine ⟨i + 1, by omega, by go_num, hb.trans (hb2.mono hsz), Lib.hid (fun j hj => ?_)⟩
          rcases Nat.lt_or_ge j i with q | q
          · exact HH.out j q
          · obtain rfl : j = i := by omega
            exact HF.out
        case measure => simp [intOf] <;> omega
    · obtain rfl : i = n := by omega
      have HF := Lib.hid (isAt_uniq HI.out (.inl ⟨rfl, fun j hj => HH.out j (by rw [HN.out]; exact hj)⟩))
      go_wp2_with fail
      go_ret
      exact ⟨ret_int HF.out.symm, hb⟩
set_option maxHeartbeats 1000000 in
theorem periodAt_any (w : World) (v : Value) (ps : List Per) (d : Int) (hv : Rd w v ps) (hm : ps.length ≤ 100000000) :
    Calls Try.prog 8 #[v, .int .i64 d] w fun x w' => x = .returned (.int .i64 (patV ps d)) ∧ Below w.heap.size w w' := by
  have hb := (Below.refl w.heap.size w).alloc (Nat.le_refl _) (.cells #[.int .i64 d] 3)
  have HV := Lib.hid (hv.below hb (Nat.le_refl _))
  have hc : (w.alloc (.cells #[.int .i64 d] 3)).cell? ⟨w.heap.size, 0, none⟩ = some (.int .i64 d) := by simp
  have HB := Lib.hid hb
  have HC := Lib.hid hc
  obtain ⟨⟨a, c, rfl⟩, _⟩ := hv
  clear hb hc
  by_cases h40 : 40 < ps.length
  · have q : (40 : Int) < (ps.length : Int) := by omega
    have E := Lib.hid (show patV ps d = -1 from if_pos h40)
    go_enter Try.func8, Try.ntmps8
    go_wp2_with fail
    go_ret
    exact ⟨ret_int E.out.symm, HB.out⟩
  · have q : ¬ (40 : Int) < (ps.length : Int) := by omega
    have E := Lib.hid (show patV ps d = idx ps d from if_neg h40)
    go_enter Try.func8, Try.ntmps8
    go_wp2_with fail
    refine (indexFunc_any _ _ ps d w.heap.size HV.out (by omega) HC.out).mono ?_
    rintro x w2 ⟨rfl, hb2⟩
    go_wp2_with fail
    go_ret
    exact ⟨ret_int E.out.symm, HB.out.trans (hb2.mono (by simp))⟩
set_option maxHeartbeats 1000000 in
theorem sPeriodAt_any (w : World) (v : Value) (ps : List Per) (d : Int) (hv : Rd w v ps) (hm : ps.length ≤ 100000000) :
    Calls Try.prog 6 #[v, .int .i64 d] w fun x w' => x = .returned (.int .i64 (patV ps d)) ∧ w = w' := by
  obtain ⟨⟨a, c, rfl⟩, h1⟩ := hv
  by_cases h40 : 40 < ps.length
  · have q : (40 : Int) < (ps.length : Int) := by omega
    have E := Lib.hid (show patV ps d = -1 from if_pos h40)
    go_enter Try.func6, Try.ntmps6
    go_wp2_with fail
    go_ret
    exact ⟨ret_int E.out.symm, rfl⟩
  · have E := Lib.hid (show patV ps d = idx ps d from if_neg h40)
    have HI := Lib.hid (isAt_idx ps d)
    have H1 := Lib.hid h1; clear h1
    obtain ⟨n, hn⟩ : ∃ n, n = ps.length := ⟨_, rfl⟩
    rw [← hn] at hm h40 ⊢
    have q : ¬ (40 : Int) < (n : Int) := by omega
    have HN := Lib.hid hn; clear hn
    go_enter Try.func6, Try.ntmps6
    go_wp2_with fail
    go_loop [5, 6] (fun y x => ∃ (i : Nat) (z : Int), i ≤ n ∧ x = .int .i64 i ∧ y = .int .i64 z ∧ (-1 ≤ z ∧ z ≤ 40) ∧ Hid ((z = -1 ∧ ∀ j, j < i → ¬ hit ps d j) ∨ (0 ≤ z ∧ idx ps d = z))) (fun _ x => n - (intOf x).toNat)
    case atStart => exact ⟨0, -1, Nat.zero_le _, rfl, rfl, by omega, Lib.hid (.inl ⟨rfl, fun j hj => by omega⟩)⟩
    case round =>
      obtain ⟨i, z, hi, rfl, rfl, ⟨z0, z1⟩, HH⟩ := hrel
      by_cases hlt : i < n
      · obtain ⟨b, d', e, hbl, hc⟩ := H1.out (by rw [← HN.out]; omega)
        rw [← HN.out] at e
        simp only [Value.slice.injEq, true_and] at e
        obtain ⟨rfl, rfl⟩ := e
        obtain ⟨c0, c1, -⟩ := hc i (by rw [← HN.out]; exact hlt)
        clear hc
        by_cases hz : z < 0
        · have hzz : z = -1 := by omega
          have HP := Lib.hid (show ∀ j, j < i → ¬ hit ps d j by rcases HH.out with h | h; exact h.2; omega)
          subst hzz
          obtain ⟨p, hp⟩ : ∃ p, p = ps.getD i p0 := ⟨_, rfl⟩
          rw [← hp] at c0 c1
          have HPP := Lib.hid hp; clear hp
          obtain ⟨f, t, bb⟩ := p
          dsimp only at c0 c1
          by_cases e1 : f ≤ d
          · by_cases e2 : d < t
            · have d1 := decide_eq_true e1
              have d2 := decide_eq_true e2
              have HF := Lib.hid (isAt_uniq HI.out (.inr ⟨i, rfl, by rw [← HN.out]; exact hlt, by unfold hit; rw [← HPP.out]; exact ⟨e1, e2⟩, HP.out⟩))
              clear e1 e2
              go_wp2_with fail
              go_round
              case rel => exact ⟨i + 1, i, by omega, by go_num, rfl, by omega, Lib.hid (.inr ⟨by omega, HF.out⟩)⟩
              case measure => simp [intOf] <;> omega
            · have d1 := decide_eq_true e1
              have d2 := decide_eq_false e2
              have HF := Lib.hid (show ¬ hit ps d i by unfold hit; rw [← HPP.out]; exact fun h => e2 h.2)
              clear e1 e2
              go_wp2_with fail
              go_round
              case rel =>
                refine ⟨i + 1, -1, by omega, by go_num, rfl, by omega, Lib.hid (.inl ⟨rfl, fun j hj => ?_⟩)⟩
                rcases Nat.lt_or_ge j i with q | q
                · exact HP.out j q
                · obtain rfl : j = i := by omega
                  exact HF.out
              case measure => simp [intOf] <;> omega
          · have d1 := decide_eq_false e1
            have HF := Lib.hid (show ¬ hit ps d i by unfold hit; rw [← HPP.out]; exact fun h => e1 h.1)
            clear e1
            go_wp2_with fail
            go_round
            case rel =>
              refine ⟨i + 1, -1, by omega, by go_num, rfl, by omega, Lib.hid (.inl ⟨rfl, fun j hj => ?_⟩)⟩
              rcases Nat.lt_or_ge j i with q | q
              · exact HP.out j q
              · obtain rfl : j = i := by omega
                exact HF.out
            case measure => simp [intOf] <;> omega
        · have HP := Lib.hid (show idx ps d = z by rcases HH.out with h | h; omega; exact h.2)
          go_wp2_with fail
          go_round
          case rel => exact ⟨i + 1, z, by omega, by go_num, rfl, by omega, Lib.hid (.inr ⟨by omega, HP.out⟩)⟩
          case measure => simp [intOf] <;> omega
      · obtain rfl : i = n := by omega
        have HF := Lib.hid (show idx ps d = z by
          rcases HH.out with h | h
          · rw [h.1]; exact isAt_uniq HI.out (.inl ⟨rfl, fun j hj => h.2 j (by rw [HN.out]; exact hj)⟩)
          · exact h.2)
        go_wp2_with fail
        go_ret
        exact ⟨ret_int (by rw [E.out, HF.out]), rfl⟩
end Go.Proofs.Ytbihadelhknlnaa
