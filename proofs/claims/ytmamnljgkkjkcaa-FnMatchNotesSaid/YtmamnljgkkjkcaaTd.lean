/- Which trades are valid, on both sides. -/
import Derived.Test.YtmamnljgkkjkcaaAvTrade
import Derived.Deep.QuietTactic
import Derived.StillTailTactics
namespace Go.Proofs.Ytmamnljgkkjkcaa
open Go.RowKit
theorem stillT0 {P : Program} {id : Nat} {Q : Exit → Act → World → Prop} {a : Act} {w : World} {l : List Oper} (n : Nat) (hm : P.follows .mixedOrders = true) (hB : Region.lexTailB .any l.toArray n = true)
    (h : wpStill P l.toArray w.drew (fun a' => wpList P l.toArray Q (l.drop n) a' w.drew) (l.take n) a) : (Code.region id l.toArray true).wp P Q a w := wp_region_still_tail n hm hB h
set_option maxHeartbeats 400000 in
theorem cmpT_any (p q : Tri) (w : World) (h0 : 0 ≤ p.1) (h1 : p.1 ≤ 36524) (g0 : 0 ≤ q.1) (g1 : q.1 ≤ 36524) :
    Calls Try.prog 82 #[triV p, triV q] w fun e w' => e = .returned (.int .i64 (p.1 - q.1)) ∧ Below w.heap.size w w' := by
  obtain ⟨d, m, u⟩ := p
  obtain ⟨d2, m2, u2⟩ := q
  simp only at h0 h1 g0 g1
  go_enter Try.func82, Try.ntmps82
  go_wp2_with fail
  go_ret
  exact ⟨rfl, ((Below.refl _ _).alloc (Nat.le_refl _) _).alloc (by simp) _⟩
set_option maxRecDepth 8000 in
set_option maxHeartbeats 1000000 in
theorem sortT_any (w : World) (v : Value) (ps : List Tri) (hv : R3o w v ps) (hm : ps.length ≤ 40) (hall : ps.all Td.one = true) :
    Calls Try.prog 85 #[v, .func (.func 82) #[] #[]] w fun x w' => x = .returned (.bool (Td.asc ps)) ∧ Below w.heap.size w w' := by
  have HD := Lib.hid (fun i (hi : i < ps.length) => (show 0 ≤ (ps.getD i t0).1 ∧ (ps.getD i t0).1 ≤ 36524 by
    have h := all_atF hall hi
    unfold Td.one at h
    rw [Bool.and_eq_true, btw_iff] at h
    exact h.1))
  clear hall
  obtain ⟨⟨a, c, rfl⟩, h1⟩ := hv
  have H1 := Lib.hid h1; clear h1
  go_enter Try.func85, Try.ntmps85
  go_wp2_with fail
  go_loopw [5] (fun x wr => ∃ j : Int, x = .int .i64 j ∧ -1 ≤ j ∧ j ≤ (ps.length : Int) - 1 ∧ Below w.heap.size w wr ∧ Hid (∀ k : Nat, j ≤ (k : Int) → k + 1 < ps.length → (ps.getD k t0).1 ≤ (ps.getD (k + 1) t0).1)) (fun x _ => (intOf x + 1).toNat)
  case atStart => exact ⟨_, rfl, by omega, by omega, Below.refl _ _, Lib.hid (fun k h1 h2 => by omega)⟩
  case round =>
    obtain ⟨j, rfl, hj0, hj1, hb, HH⟩ := hrel
    by_cases hlt : 0 < j
    · obtain ⟨m, rfl⟩ : ∃ m : Nat, j = (m : Int) := ⟨j.toNat, by omega⟩
      obtain ⟨k, hkm⟩ : ∃ k : Nat, m = k + 1 := ⟨m - 1, by omega⟩
      have hk : k + 1 < ps.length := by omega
      have hml : m < ps.length := by omega
      have hkl : k < ps.length := by omega
      have HM := Lib.hid hkm
      have hmk : (m : Int) - 1 = (k : Int) := by omega
      have W1 : IntKind.i64.wrap (k : Int) = (k : Int) := IntWalk.i64_in _ (by omega)
      obtain ⟨b, off, c', e, hbl, hc⟩ := H1.out (by omega)
      simp only [Value.slice.injEq, true_and] at e
      obtain ⟨rfl, rfl⟩ := e
      obtain ⟨c0, c1, c2⟩ := hc m hml
      replace c0 := (hb.cell (p := ⟨b, off + m * 3, none⟩) hbl).trans c0
      replace c1 := (hb.cell (p := ⟨b, off + m * 3 + 1, none⟩) hbl).trans c1
      replace c2 := (hb.cell (p := ⟨b, off + m * 3 + 2, none⟩) hbl).trans c2
      obtain ⟨d0, d1, d2⟩ := hc k (by omega)
      replace d0 := (hb.cell (p := ⟨b, off + k * 3, none⟩) hbl).trans d0
      replace d1 := (hb.cell (p := ⟨b, off + k * 3 + 1, none⟩) hbl).trans d1
      replace d2 := (hb.cell (p := ⟨b, off + k * 3 + 2, none⟩) hbl).trans d2
      clear hc
      obtain ⟨p0, p1⟩ := HD.out m hml
      obtain ⟨q0, q1⟩ := HD.out k (by omega)
      have HN : Hid ((ps.getD k t0).1 ≤ (ps.getD m t0).1 → ∀ i : Nat, (k : Int) ≤ (i : Int) → i + 1 < ps.length → (ps.getD i t0).1 ≤ (ps.getD (i + 1) t0).1) := Lib.hid (fun h i h1 h2 => by
        rcases Nat.lt_or_ge k i with q | q
        · exact HH.out i (by omega) h2
        · obtain rfl : i = k := by omega
          rw [← HM.out]; exact h)
      have HF : Hid (¬ (ps.getD k t0).1 ≤ (ps.getD m t0).1 → Td.asc ps = false) := Lib.hid (fun h => by
        rw [HM.out] at h
        cases e : Td.asc ps with
        | false => rfl
        | true => exact absurd (Td.asc_iff.1 e k hk) h)
      have HC := Lib.hid (fun W => cmpT_any (ps.getD m t0) (ps.getD k t0) W p0 p1 q0 q1)
      clear hkm hk
      generalize ps.getD m t0 = p at *
      generalize ps.getD k t0 = q at *
      obtain ⟨x0, x1, x2⟩ := p
      obtain ⟨y0, y1, y2⟩ := q
      simp only at c0 c1 c2 d0 d1 d2 p0 p1 q0 q1 HN HF HC
      go_wp2_with fail
      refine stillT0 10 (by kernel_rfl) (by kernel_rfl) ?_
      simp only [List.take_succ_cons, List.take_zero, List.drop_succ_cons, List.drop_zero]
      repeat still_step
      refine wpStill_nil ?_
      go_wp2_with fail
      refine (HC.out _).mono ?_
      rintro x w2 ⟨rfl, hb2⟩
      by_cases hs : y0 ≤ x0
      · have hs' : ¬ x0 - y0 < 0 := by omega
        have HG := Lib.hid (HN.out hs)
        clear hs
        go_wp2_with fail
        go_roundw
        case rel => exact ⟨(k : Int), by first | rfl | simp [hmk], by omega, by omega, hb.drew.trans (hb2.mono hb.size), HG⟩
        case measure => simp [intOf] <;> omega
      · have hs' : x0 - y0 < 0 := by omega
        have HG := Lib.hid (HF.out (by omega))
        clear hs
        go_wp2_with fail
        go_ret
        exact ⟨ret_bool HG.out.symm, hb.drew.trans (hb2.mono hb.size)⟩
    · have E := Lib.hid (Td.asc_iff.2 fun i hi => HH.out i (by omega) hi)
      go_wp2_with fail
      go_ret
      exact ⟨ret_bool E.out.symm, hb⟩
theorem quietT {P : Program} {f : FuncId} {args : Array Value} {w : World} {n : Nat} {v : Value}
    (h : Calls P f args (w.drewN n) fun e w' => e = .returned v ∧ w.drewN n = w') : Calls P f args (w.drewN n) fun e w'' => e = .returned v ∧ ∃ m, w'' = w.drewN m :=
  h.mono fun _ _ ⟨he, hm⟩ => ⟨he, n, hm.symm⟩
theorem belowT {B : Nat} {a w : World} (h : Below B a w) (n : Nat) : Below B a (w.drewN n) := ⟨h.os, h.tape, h.output, h.size, h.block⟩
theorem inRT {n l h : Int} {b : Bool} (e : btw n l h = b) : ∀ W : World, Calls Try.prog 71 #[.int .i64 n, .int .i64 l, .int .i64 h] W fun e w' => e = .returned (.bool b) ∧ W = w' := fun W => by
  have := inRange_any n l h W; rw [e] at this; exact this
set_option maxHeartbeats 400000 in
theorem vtrades_any (w : World) (v : Value) (ps : List Tri) (hv : R3o w v ps) (hm : ps.length ≤ 9223372036854775807) :
    Calls Try.prog 53 #[v] w fun x w' => x = .returned (.bool (Td.ok ps)) ∧ Below w.heap.size w w' := by
  have HX := Lib.hid (av_Trade w v ps 0 16 hv hm)
  have HV := Lib.hid hv
  have E0 : Td.ok ps = ((btw ps.length 0 16 && ps.all Td.one) && Td.asc ps) := by
    unfold Td.ok
    rw [Bool.and_assoc]
    congr 1
    by_cases h : ps.length ≤ 16
    · rw [decide_eq_true h, btw_t (by omega) (by omega)]
    · rw [decide_eq_false h, btw_f (.inr (by omega))]
  obtain ⟨⟨a, c, rfl⟩, h1⟩ := hv
  clear h1
  cases h0 : (btw ps.length 0 16 && ps.all Td.one) with
  | false =>
    have E := Lib.hid (E0.trans (by rw [h0, Bool.false_and]))
    rw [h0] at HX
    clear E0 h0
    go_enter Try.func53, Try.ntmps53
    go_wp2_with fail
    refine HX.out.mono ?_
    rintro x w1 ⟨rfl, hb⟩
    go_wp2_with fail
    go_ret
    exact ⟨ret_bool (by rw [E.out]), hb⟩
  | true =>
    have hh := (Bool.and_eq_true _ _).mp h0
    have h16 := (btw_iff.1 hh.1).2
    have E := Lib.hid (E0.trans (by rw [h0, Bool.true_and]))
    have HS := Lib.hid (fun W hr => sortT_any W (.slice a ps.length c) ps hr (by omega) hh.2)
    rw [h0] at HX
    clear E0 h0 hh
    go_enter Try.func53, Try.ntmps53
    go_wp2_with fail
    refine HX.out.mono ?_
    rintro x w1 ⟨rfl, hb⟩
    go_wp2_with fail
    refine (HS.out _ (HV.out.below hb (Nat.le_refl _))).mono ?_
    rintro x w2 ⟨rfl, hb2⟩
    go_wp2_with fail
    go_ret
    exact ⟨ret_bool (by rw [E.out]), hb.trans (hb2.mono hb.size)⟩
set_option maxRecDepth 8000 in
set_option maxHeartbeats 4000000 in
theorem svtrades_any (w : World) (v : Value) (ps : List Tri) (hv : R3o w v ps) (hm : ps.length ≤ 9223372036854775807) :
    Calls Try.prog 55 #[v] w fun x w' => x = .returned (.bool (Td.ok ps)) ∧ Below w.heap.size w w' := by
  obtain ⟨⟨a, c, rfl⟩, h1⟩ := hv
  have H1 := Lib.hid h1; clear h1
  have HO := Lib.hid (show Td.ok ps = (decide (ps.length ≤ 16) && (ps.all Td.one && Td.asc ps)) from rfl)
  go_enter Try.func55, Try.ntmps55
  go_wp2_with fail
  go_loopw [3] (fun x wr => ∃ i : Nat, i ≤ ps.length ∧ x = .int .i64 i ∧ Below w.heap.size w wr ∧ Hid (∀ j, j < i → Td.one (ps.getD j t0) = true) ∧ Hid (∀ j, j + 1 < i → (ps.getD j t0).1 ≤ (ps.getD (j + 1) t0).1)) (fun x _ => ps.length - (intOf x).toNat)
  case atStart => exact ⟨0, Nat.zero_le _, rfl, Below.refl _ _, Lib.hid (fun j hj => by omega), Lib.hid (fun j hj => by omega)⟩
  case round =>
    obtain ⟨i, hi, rfl, hb, HH, HA⟩ := hrel
    by_cases hlt : i < ps.length
    · obtain ⟨b, off, d', e, hbl, hc⟩ := H1.out (by omega)
      simp only [Value.slice.injEq, true_and] at e
      obtain ⟨rfl, rfl⟩ := e
      obtain ⟨c0, c1, c2⟩ := hc i hlt
      replace c0 := (hb.cell (p := ⟨b, off + i * 3, none⟩) hbl).trans c0
      replace c1 := (hb.cell (p := ⟨b, off + i * 3 + 1, none⟩) hbl).trans c1
      replace c2 := (hb.cell (p := ⟨b, off + i * 3 + 2, none⟩) hbl).trans c2
      have HBd : Hid (Td.one (ps.getD i t0) = false → ps.all Td.one = false) := Lib.hid (fun h => all_badF hlt h)
      have HG : Hid (Td.one (ps.getD i t0) = true → ∀ j, j < i + 1 → Td.one (ps.getD j t0) = true) := Lib.hid (fun h j hj => by
        rcases Nat.lt_or_ge j i with q | q
        · exact HH.out j q
        · obtain rfl : j = i := by omega
          exact h)
      have HP : Hid (∀ k : Nat, i = k + 1 → w.cell? ⟨b, off + k * 3, none⟩ = some (.int .i64 (ps.getD k t0).1)) := Lib.hid (fun k hk => (hc k (by omega)).1)
      have HS : Hid (∀ k : Nat, i = k + 1 → ¬ (ps.getD k t0).1 ≤ (ps.getD i t0).1 → Td.asc ps = false) := Lib.hid (fun k hk h => by
        cases e : Td.asc ps with
        | false => rfl
        | true => exact absurd (Td.asc_iff.1 e k (by omega)) (by rw [← hk]; exact h))
      have HN : Hid ((∀ k : Nat, i = k + 1 → (ps.getD k t0).1 ≤ (ps.getD i t0).1) → ∀ j, j + 1 < i + 1 → (ps.getD j t0).1 ≤ (ps.getD (j + 1) t0).1) := Lib.hid (fun h j hj => by
        rcases Nat.lt_or_ge (j + 1) i with q | q
        · exact HA.out j q
        · have e : i = j + 1 := by omega
          have := h j e
          rwa [e] at this)
      clear hc
      generalize ps.getD i t0 = p at c0 c1 c2 HBd HG HS HN
      obtain ⟨d, m, u⟩ := p
      simp only at c0 c1 c2 HS HN
      cases h0 : btw d 0 36524 with
      | false =>
        have E := Lib.hid (HBd.out (by unfold Td.one; simp only [h0]; rfl))
        have C0 := Lib.hid (inRT h0)
        clear h0
        go_wp2_with fail
        go_quiet ((first | (go_at_call 71; with_reducible exact quietT (C0.out _))))
        go_wp2_with fail
        go_ret
        exact ⟨ret_bool (by rw [HO.out, E.out]; simp), belowT (hb.alloc hb.size _) _⟩
      | true =>
        cases h1 : btw m (-9999) 9999 with
        | false =>
          have E := Lib.hid (HBd.out (by unfold Td.one; simp only [h0, h1]; simp))
          have C0 := Lib.hid (inRT h0)
          have C1 := Lib.hid (inRT h1)
          clear h0 h1
          go_wp2_with fail
          go_quiet ((first | (go_at_call 71; with_reducible exact quietT (C0.out _)) | (go_at_call 71; with_reducible exact quietT (C1.out _))))
          go_wp2_with fail
          go_ret
          exact ⟨ret_bool (by rw [HO.out, E.out]; simp), belowT (hb.alloc hb.size _) _⟩
        | true =>
          by_cases h2 : m = 0
          · have h2' : (m == 0) = true := by simp [h2]
            have E := Lib.hid (HBd.out (by unfold Td.one; simp only [h0, h1]; simp [h2]))
            clear h2
            have C0 := Lib.hid (inRT h0)
            have C1 := Lib.hid (inRT h1)
            clear h0 h1
            go_wp2_with fail
            go_quiet ((first | (go_at_call 71; with_reducible exact quietT (C0.out _)) | (go_at_call 71; with_reducible exact quietT (C1.out _))))
            go_wp2_with fail
            go_ret
            exact ⟨ret_bool (by rw [HO.out, E.out]; simp), belowT (hb.alloc hb.size _) _⟩
          · have h2' : (m == 0) = false := by simp [h2]
            cases h3 : btw u 1 50000 with
            | false =>
              have E := Lib.hid (HBd.out (by unfold Td.one; simp only [h0, h1, h3]; simp))
              clear h2
              have C0 := Lib.hid (inRT h0)
              have C1 := Lib.hid (inRT h1)
              have C2 := Lib.hid (inRT h3)
              clear h0 h1 h3
              go_wp2_with fail
              go_quiet ((first | (go_at_call 71; with_reducible exact quietT (C0.out _)) | (go_at_call 71; with_reducible exact quietT (C1.out _)) | (go_at_call 71; with_reducible exact quietT (C2.out _))))
              go_wp2_with fail
              go_ret
              exact ⟨ret_bool (by rw [HO.out, E.out]; simp), belowT (hb.alloc hb.size _) _⟩
            | true =>
              have HG1 := Lib.hid (HG.out (by unfold Td.one; simp only [h0, h1, h3]; simp [h2]))
              clear h2
              rcases Nat.eq_zero_or_pos i with hz | hz
              · have hz' : ¬ (0 : Int) < (i : Int) := by omega
                have HN1 := Lib.hid (HN.out (fun k hk => by omega))
                have hz2 : decide (0 < i) = false := decide_eq_false (by omega)
                clear hz hz'
                have C0 := Lib.hid (inRT h0)
                have C1 := Lib.hid (inRT h1)
                have C2 := Lib.hid (inRT h3)
                clear h0 h1 h3
                go_wp2_with fail
                go_quiet ((first | (go_at_call 71; with_reducible exact quietT (C0.out _)) | (go_at_call 71; with_reducible exact quietT (C1.out _)) | (go_at_call 71; with_reducible exact quietT (C2.out _))))
                go_wp2_with fail
                go_roundw
                case rel => exact ⟨i + 1, by omega, by go_num, belowT (hb.alloc hb.size _) _, HG1, HN1⟩
                case measure => simp [intOf] <;> omega
              · obtain ⟨k, hk⟩ : ∃ k : Nat, i = k + 1 := ⟨i - 1, by omega⟩
                have hz' : (0 : Int) < (i : Int) := by omega
                have hik : (i : Int) - 1 = (k : Int) := by omega
                have W1 : IntKind.i64.wrap (k : Int) = (k : Int) := IntWalk.i64_in _ (by omega)
                have hkl : k < ps.length := by omega
                have d0 := (hb.cell (p := ⟨b, off + k * 3, none⟩) hbl).trans (HP.out k hk)
                have d0' : (wr.alloc (.cells #[.int .i64 d, .int .i64 m, .int .i64 u] 73)).cell? ⟨b, off + k * 3, none⟩ = some (.int .i64 (ps.getD k t0).1) := by
                  rw [World.cell?_alloc_lt _ _ ⟨b, off + k * 3, none⟩ (by show b < wr.heap.size; have := hb.size; omega)]; exact d0
                have HSk := Lib.hid (HS.out k hk)
                have HNk : Hid ((ps.getD k t0).1 ≤ d → ∀ j, j + 1 < i + 1 → (ps.getD j t0).1 ≤ (ps.getD (j + 1) t0).1) := Lib.hid (fun h => HN.out (fun k' hk' => by obtain rfl : k' = k := by omega
                                                                                                                                                                     exact h))
                clear hk
                generalize (ps.getD k t0).1 = y at d0 d0' HSk HNk
                by_cases hs : d < y
                · have E := Lib.hid (HSk.out (by omega))
                  have C0 := Lib.hid (inRT h0)
                  have C1 := Lib.hid (inRT h1)
                  have C2 := Lib.hid (inRT h3)
                  clear h0 h1 h3
                  go_wp2_with fail
                  go_quiet ((first | (go_at_call 71; with_reducible exact quietT (C0.out _)) | (go_at_call 71; with_reducible exact quietT (C1.out _)) | (go_at_call 71; with_reducible exact quietT (C2.out _))))
                  go_wp2_with fail
                  go_ret
                  exact ⟨ret_bool (by rw [HO.out, E.out]; simp), belowT (hb.alloc hb.size _) _⟩
                · have HN1 := Lib.hid (HNk.out (by omega))
                  have C0 := Lib.hid (inRT h0)
                  have C1 := Lib.hid (inRT h1)
                  have C2 := Lib.hid (inRT h3)
                  clear h0 h1 h3
                  go_wp2_with fail
                  go_quiet ((first | (go_at_call 71; with_reducible exact quietT (C0.out _)) | (go_at_call 71; with_reducible exact quietT (C1.out _)) | (go_at_call 71; with_reducible exact quietT (C2.out _))))
                  go_wp2_with fail
                  go_roundw
                  case rel => exact ⟨i + 1, by omega, by go_num, belowT (hb.alloc hb.size _) _, HG1, HN1⟩
                  case measure => simp [intOf] <;> omega
    · obtain rfl : i = ps.length := by omega
      have E := Lib.hid (show Td.ok ps = decide (ps.length ≤ 16) by rw [HO.out, all_takeF HH.out, Td.asc_iff.2 HA.out]; simp)
      by_cases h16 : ps.length ≤ 16
      · have q : (ps.length : Int) ≤ 16 := by omega
        go_wp2_with fail
        go_ret
        exact ⟨ret_bool (by rw [E.out, decide_eq_true h16]), hb⟩
      · have q : ¬ (ps.length : Int) ≤ 16 := by omega
        go_wp2_with fail
        go_ret
        exact ⟨ret_bool (by rw [E.out, decide_eq_false h16]), hb⟩
end Go.Proofs.Ytmamnljgkkjkcaa