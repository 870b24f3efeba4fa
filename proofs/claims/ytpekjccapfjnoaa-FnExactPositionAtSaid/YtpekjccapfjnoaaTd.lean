/- Which trades are valid, on both sides. -/
import Derived.Test.YtpekjccapfjnoaaPs
import Derived.Deep.QuietTactic
import Derived.StillTailTactics
namespace Go.Proofs.Ytpekjccapfjnoaa
open Go.RowKit
def Td.one (p : Tri) : Bool := btw p.1 0 36524 && (p.2.1 != 0 && (btw p.2.1 (-9999) 9999 && btw p.2.2 1 50000))
def Td.asc (ps : List Tri) : Bool := (List.range (ps.length - 1)).all fun i => decide ((ps.getD i t0).1 ≤ (ps.getD (i + 1) t0).1)
theorem Td.asc_iff {ps : List Tri} : Td.asc ps = true ↔ ∀ i, i + 1 < ps.length → (ps.getD i t0).1 ≤ (ps.getD (i + 1) t0).1 := by
  unfold Td.asc
  rw [List.all_eq_true]
  constructor
  · intro h i hi
    exact of_decide_eq_true (h i (List.mem_range.2 (by omega)))
  · intro h i hi
    exact decide_eq_true (h i (by have := List.mem_range.1 hi; omega))
def Td.ok (ps : List Tri) : Bool := decide (ps.length ≤ 16) && (ps.all Td.one && Td.asc ps)
theorem all_takeF {f : Tri → Bool} {ps : List Tri} (h : ∀ j, j < ps.length → f (ps.getD j t0) = true) : ps.all f = true := by
  rw [List.all_eq_true]
  intro p hp
  obtain ⟨j, hj, rfl⟩ := List.mem_iff_getElem.1 hp
  have := h j hj
  rwa [List.getD_eq_getElem?_getD, List.getElem?_eq_getElem hj, Option.getD_some] at this
theorem all_atF {f : Tri → Bool} {ps : List Tri} (h : ps.all f = true) {i : Nat} (hi : i < ps.length) : f (ps.getD i t0) = true :=
  List.all_eq_true.1 h (ps.getD i t0) (by rw [List.getD_eq_getElem?_getD, List.getElem?_eq_getElem hi, Option.getD_some]; exact List.getElem_mem hi)
theorem all_badF {f : Tri → Bool} {ps : List Tri} {i : Nat} (hi : i < ps.length) (h : f (ps.getD i t0) = false) : ps.all f = false := by
  cases e : ps.all f with
  | false => rfl
  | true => rw [all_atF e hi] at h; cases h
set_option maxHeartbeats 400000 in
theorem vdayT_any (n : Int) (w : World) : Calls Try.prog 49 #[.int .i64 n] w fun e w' => e = .returned (.bool (btw n 0 36524)) ∧ w = w' := by
  go_enter Try.func49, Try.ntmps49
  go_wp2_with (go_at_call 50; refine (between_any _ _ _ _).mono ?_; rintro e w' ⟨rfl, rfl⟩)
  go_ret
  exact ⟨rfl, rfl⟩
set_option maxHeartbeats 400000 in
theorem vpriceT_any (n : Int) (w : World) : Calls Try.prog 56 #[.int .i64 n] w fun e w' => e = .returned (.bool (btw n 0 50000)) ∧ w = w' := by
  go_enter Try.func56, Try.ntmps56
  go_wp2_with fail
  refine (between_any _ _ _ _).mono ?_
  rintro e w' ⟨rfl, rfl⟩
  go_wp2_with fail
  go_ret
  exact ⟨rfl, rfl⟩
set_option maxHeartbeats 400000 in
theorem posT_any (n : Int) (w : World) : Calls Try.prog 51 #[.int .i64 n] w fun e w' => e = .returned (.bool (btw n 1 50000)) ∧ w = w' := by
  by_cases h : 0 < n
  · have E := Lib.hid (show btw n 0 50000 = btw n 1 50000 by
      cases e : btw n 1 50000 with
      | true => have := btw_iff.1 e; exact btw_t (by omega) (by omega)
      | false => have := btw_iff_f.1 e; exact btw_f (by omega))
    have h' := decide_eq_true h
    clear h
    go_enter Try.func51, Try.ntmps51
    go_wp2_with fail
    refine (vpriceT_any _ _).mono ?_
    rintro e w' ⟨rfl, rfl⟩
    go_wp2_with fail
    go_ret
    exact ⟨ret_bool E.out, rfl⟩
  · have E := Lib.hid (btw_f (n := n) (l := 1) (h := 50000) (.inl (by omega)))
    have h' := decide_eq_false h
    clear h
    go_enter Try.func51, Try.ntmps51
    go_wp2_with fail
    go_ret
    exact ⟨ret_bool E.out.symm, rfl⟩
set_option maxHeartbeats 800000 in
theorem tvalid_any (p : Tri) (w : World) :
    Calls Try.prog 37 #[triV p] w fun e w' => e = .returned (.bool (Td.one p)) ∧ Below w.heap.size w w' := by
  obtain ⟨d, m, u⟩ := p
  have hbA := (Below.refl w.heap.size w).alloc (Nat.le_refl _) (.cells #[.int .i64 d, .int .i64 m, .int .i64 u] 35)
  cases h0 : btw d 0 36524 with
  | false =>
    have E := Lib.hid (show Td.one (d, m, u) = false by unfold Td.one; simp only [h0]; rfl)
    go_enter Try.func37, Try.ntmps37
    go_wp2_with fail
    refine (vdayT_any _ _).mono ?_
    rintro e w1 ⟨rfl, rfl⟩
    rw [h0]
    go_wp2_with fail
    go_ret
    exact ⟨ret_bool E.out.symm, hbA⟩
  | true =>
    cases h1 : (m != 0) with
    | false =>
      have E := Lib.hid (show Td.one (d, m, u) = false by unfold Td.one; simp only [h0, h1]; rfl)
      go_enter Try.func37, Try.ntmps37
      go_wp2_with fail
      refine (vdayT_any _ _).mono ?_
      rintro e w1 ⟨rfl, rfl⟩
      rw [h0]
      go_wp2_with fail
      go_ret
      exact ⟨ret_bool E.out.symm, hbA⟩
    | true =>
      cases h2 : btw m (-9999) 9999 with
      | false =>
        have E := Lib.hid (show Td.one (d, m, u) = false by unfold Td.one; simp only [h0, h1, h2]; rfl)
        go_enter Try.func37, Try.ntmps37
        go_wp2_with fail
        refine (vdayT_any _ _).mono ?_
        rintro e w1 ⟨rfl, rfl⟩
        rw [h0]
        go_wp2_with fail
        refine (between_any _ _ _ _).mono ?_
        rintro e w1 ⟨rfl, rfl⟩
        rw [h2]
        go_wp2_with fail
        go_ret
        exact ⟨ret_bool E.out.symm, hbA⟩
      | true =>
        have E := Lib.hid (show Td.one (d, m, u) = btw u 1 50000 by unfold Td.one; simp only [h0, h1, h2]; rfl)
        go_enter Try.func37, Try.ntmps37
        go_wp2_with fail
        refine (vdayT_any _ _).mono ?_
        rintro e w1 ⟨rfl, rfl⟩
        rw [h0]
        go_wp2_with fail
        refine (between_any _ _ _ _).mono ?_
        rintro e w1 ⟨rfl, rfl⟩
        rw [h2]
        go_wp2_with fail
        refine (posT_any _ _).mono ?_
        rintro e w1 ⟨rfl, rfl⟩
        go_wp2_with fail
        go_ret
        exact ⟨ret_bool E.out.symm, hbA⟩
set_option maxHeartbeats 400000 in
theorem cloT_any (p : Tri) (w : World) :
    Calls Try.prog 36 #[triV p] w fun e w' => e = .returned (.bool (!Td.one p)) ∧ Below w.heap.size w w' := by
  have hbA := (Below.refl w.heap.size w).alloc (Nat.le_refl _) (.cells #[.int .i64 p.1, .int .i64 p.2.1, .int .i64 p.2.2] 35)
  go_enter Try.func36, Try.ntmps36
  go_wp2_with fail
  refine (tvalid_any p _).mono ?_
  rintro e w1 ⟨rfl, hb1⟩
  go_wp2_with fail
  go_ret
  exact ⟨rfl, hbA.trans (hb1.mono hbA.size)⟩
set_option maxHeartbeats 1000000 in
theorem idxT_any (w : World) (v : Value) (ps : List Tri) (hv : R3o w v ps) (hm : ps.length ≤ 9223372036854775807) :
    Calls Try.prog 52 #[v, .func (.func 36) #[] #[]] w fun x w' => (∃ k : Int, x = .returned (.int .i64 k) ∧ ((k = -1 ∧ ps.all Td.one = true) ∨ (0 ≤ k ∧ ps.all Td.one = false))) ∧ Below w.heap.size w w' := by
  obtain ⟨⟨a, c, rfl⟩, h1⟩ := hv
  have H1 := Lib.hid h1; clear h1
  obtain ⟨n, hn⟩ : ∃ n, n = ps.length := ⟨_, rfl⟩
  rw [← hn] at hm ⊢
  have HN := Lib.hid hn; clear hn
  go_enter Try.func52, Try.ntmps52
  go_wp2_with fail
  go_loopw [8] (fun x wr => ∃ i : Nat, i ≤ n ∧ x = .int .i64 i ∧ Below w.heap.size w wr ∧ Hid (∀ j, j < i → Td.one (ps.getD j t0) = true)) (fun x _ => n - (intOf x).toNat)
  case atStart => exact ⟨0, Nat.zero_le _, rfl, Below.refl _ _, Lib.hid (fun j hj => by omega)⟩
  case round =>
    obtain ⟨i, hi, rfl, hb, HH⟩ := hrel
    by_cases hlt : i < n
    · obtain ⟨b, off, d', e, hbl, hc⟩ := H1.out (by rw [← HN.out]; omega)
      rw [← HN.out] at e
      simp only [Value.slice.injEq, true_and] at e
      obtain ⟨rfl, rfl⟩ := e
      obtain ⟨c0, c1, c2⟩ := hc i (by rw [← HN.out]; exact hlt)
      replace c0 := (hb.cell (p := ⟨b, off + i * 3, none⟩) hbl).trans c0
      replace c1 := (hb.cell (p := ⟨b, off + i * 3 + 1, none⟩) hbl).trans c1
      replace c2 := (hb.cell (p := ⟨b, off + i * 3 + 2, none⟩) hbl).trans c2
      clear hc
      have hcl := cloT_any (ps.getD i t0) wr
      have hsz := hb.size
      cases hh : Td.one (ps.getD i t0) with
      | false =>
        rw [hh] at hcl
        have HC := Lib.hid hcl
        have HF := Lib.hid (all_badF (by rw [← HN.out]; exact hlt) hh)
        clear hcl hh
        generalize ps.getD i t0 = p at c0 c1 c2 HC
        go_wp2_with fail
        refine HC.out.mono ?_
        rintro x w2 ⟨rfl, hb2⟩
        go_wp2_with fail
        go_ret
        exact ⟨⟨_, rfl, .inr ⟨by omega, HF.out⟩⟩, hb.trans (hb2.mono hsz)⟩
      | true =>
        rw [hh] at hcl
        have HC := Lib.hid hcl
        have HF := Lib.hid hh
        clear hcl hh
        generalize hp : ps.getD i t0 = p at c0 c1 c2 HC
        clear hp
        go_wp2_with fail
        refine HC.out.mono ?_
        rintro x w2 ⟨rfl, hb2⟩
        go_wp2_with fail
        go_roundw
        case rel =>
          refine ⟨i + 1, by omega, by go_num, hb.trans (hb2.mono hsz), Lib.hid (fun j hj => ?_)⟩
          rcases Nat.lt_or_ge j i with q | q
          · exact HH.out j q
          · obtain rfl : j = i := by omega
            exact HF.out
        case measure => simp [intOf] <;> omega
    · obtain rfl : i = n := by omega
      have HF := Lib.hid (all_takeF (by rw [← HN.out]; exact HH.out))
      go_wp2_with fail
      go_ret
      exact ⟨⟨_, rfl, .inl ⟨rfl, HF.out⟩⟩, hb⟩
set_option maxHeartbeats 400000 in
theorem conT_any (w : World) (v : Value) (ps : List Tri) (hv : R3o w v ps) (hm : ps.length ≤ 9223372036854775807) :
    Calls Try.prog 39 #[v, .func (.func 36) #[] #[]] w fun x w' => x = .returned (.bool (!ps.all Td.one)) ∧ Below w.heap.size w w' := by
  have HI := Lib.hid (idxT_any w v ps hv hm)
  clear hv
  go_enter Try.func39, Try.ntmps39
  go_wp2_with fail
  refine HI.out.mono ?_
  rintro x w1 ⟨⟨k, rfl, hk⟩, hb⟩
  rcases hk with ⟨rfl, hk⟩ | ⟨hk0, hk⟩
  · have E := Lib.hid hk; clear hk
    go_wp2_with fail
    go_ret
    exact ⟨ret_bool (by rw [E.out]; rfl), hb⟩
  · have E := Lib.hid hk; clear hk
    go_wp2_with fail
    go_ret
    exact ⟨ret_bool (by rw [E.out]; simp), hb⟩
theorem stillT0 {P : Program} {id : Nat} {Q : Exit → Act → World → Prop} {a : Act} {w : World} {l : List Oper} (n : Nat) (hm : P.follows .mixedOrders = true) (hB : Region.lexTailB .any l.toArray n = true)
    (h : wpStill P l.toArray w.drew (fun a' => wpList P l.toArray Q (l.drop n) a' w.drew) (l.take n) a) : (Code.region id l.toArray true).wp P Q a w := wp_region_still_tail n hm hB h
set_option maxHeartbeats 400000 in
theorem cmpT_any (p q : Tri) (w : World) (h0 : 0 ≤ p.1) (h1 : p.1 ≤ 36524) (g0 : 0 ≤ q.1) (g1 : q.1 ≤ 36524) :
    Calls Try.prog 38 #[triV p, triV q] w fun e w' => e = .returned (.int .i64 (p.1 - q.1)) ∧ Below w.heap.size w w' := by
  obtain ⟨d, m, u⟩ := p
  obtain ⟨d2, m2, u2⟩ := q
  simp only at h0 h1 g0 g1
  go_enter Try.func38, Try.ntmps38
  go_wp2_with fail
  go_ret
  exact ⟨rfl, ((Below.refl _ _).alloc (Nat.le_refl _) _).alloc (by simp) _⟩
set_option maxRecDepth 8000 in
set_option maxHeartbeats 1000000 in
theorem sortT_any (w : World) (v : Value) (ps : List Tri) (hv : R3o w v ps) (hm : ps.length ≤ 40) (hall : ps.all Td.one = true) :
    Calls Try.prog 40 #[v, .func (.func 38) #[] #[]] w fun x w' => x = .returned (.bool (Td.asc ps)) ∧ Below w.heap.size w w' := by
  have HD := Lib.hid (fun i (hi : i < ps.length) => (show 0 ≤ (ps.getD i t0).1 ∧ (ps.getD i t0).1 ≤ 36524 by
    have h := all_atF hall hi
    unfold Td.one at h
    rw [Bool.and_eq_true, btw_iff] at h
    exact h.1))
  clear hall
  obtain ⟨⟨a, c, rfl⟩, h1⟩ := hv
  have H1 := Lib.hid h1; clear h1
  go_enter Try.func40, Try.ntmps40
  go_wp2_with fail
  go_loopw [5] (fun x wr => ∃ j : Int, x = .int .i64 j ∧ -1 ≤ j ∧ j ≤ (ps.length : Int) - 1 ∧ Below w.heap.size w wr ∧ Hid (∀ k : Nat, j ≤ (k : Int) → k + 1 < ps.length → (ps.getD k t0).1 ≤ (ps.getD (k + 1) t0).1)) (fun x _ => (intOf x + 1).toNat)
  case atStart => exact ⟨_, rfl, by omega, by omega, Below.refl _ _, Lib.hid (fun k h1 h2 => by omega)⟩
  case round =>
    obtain ⟨j, rfl, hj0, hj1, hb, HH⟩ := hrel
    by_cases hlt : 0 < j
    · obtain ⟨m, rfl⟩ : ∃ m : Nat, j = (m : Int) := ⟨j.toNat, by omega⟩
      obtain ⟨k, hkm⟩ : ∃ k : Nat, m = k + 1 := ⟨m - 1, by omega⟩
      have hk : k + 1 < ps.length := by omega
      have hml : m < ps.length := by omega
      have hkl : k < ps.length := by omega
      have HM := Lib.hid hkm
      have hmk : (m : Int) - 1 = (k : Int) := by omega
      have W1 : IntKind.i64.wrap (k : Int) = (k : Int) := IntWalk.i64_in _ (by omega)
      obtain ⟨b, off, c', e, hbl, hc⟩ := H1.out (by omega)
      simp only [Value.slice.injEq, true_and] at e
      obtain ⟨rfl, rfl⟩ := e
      obtain ⟨c0, c1, c2⟩ := hc m hml
      replace c0 := (hb.cell (p := ⟨b, off + m * 3, none⟩) hbl).trans c0
      replace c1 := (hb.cell (p := ⟨b, off + m * 3 + 1, none⟩) hbl).trans c1
      replace c2 := (hb.cell (p := ⟨b, off + m * 3 + 2, none⟩) hbl).trans c2
      obtain ⟨d0, d1, d2⟩ := hc k (by omega)
      replace d0 := (hb.cell (p := ⟨b, off + k * 3, none⟩) hbl).trans d0
      replace d1 := (hb.cell (p := ⟨b, off + k * 3 + 1, none⟩) hbl).trans d1
      replace d2 := (hb.cell (p := ⟨b, off + k * 3 + 2, none⟩) hbl).trans d2
      clear hc
      obtain ⟨p0, p1⟩ := HD.out m hml
      obtain ⟨q0, q1⟩ := HD.out k (by omega)
      have HN : Hid ((ps.getD k t0).1 ≤ (ps.getD m t0).1 → ∀ i : Nat, (k : Int) ≤ (i : Int) → i + 1 < ps.length → (ps.getD i t0).1 ≤ (ps.getD (i + 1) t0).1) := Lib.hid (fun h i h1 h2 => by
        rcases Nat.lt_or_ge k i with q | q
        · exact HH.out i (by omega) h2
        · obtain rfl : i = k := by omega
          rw [← HM.out]; exact h)
      have HF : Hid (¬ (ps.getD k t0).1 ≤ (ps.getD m t0).1 → Td.asc ps = false) := Lib.hid (fun h => by
        rw [HM.out] at h
        cases e : Td.asc ps with
        | false => rfl
        | true => exact absurd (Td.asc_iff.1 e k hk) h)
      have HC := Lib.hid (fun W => cmpT_any (ps.getD m t0) (ps.getD k t0) W p0 p1 q0 q1)
      clear hkm hk
      generalize ps.getD m t0 = p at *
      generalize ps.getD k t0 = q at *
      obtain ⟨x0, x1, x2⟩ := p
      obtain ⟨y0, y1, y2⟩ := q
      simp only at c0 c1 c2 d0 d1 d2 p0 p1 q0 q1 HN HF HC
      go_wp2_with fail
      refine stillT0 10 (by kernel_rfl) (by kernel_rfl) ?_
      simp only [List.take_succ_cons, List.take_zero, List.drop_succ_cons, List.drop_zero]
      repeat still_step
      refine wpStill_nil ?_
      go_wp2_with fail
      refine (HC.out _).mono ?_
      rintro x w2 ⟨rfl, hb2⟩
      by_cases hs : y0 ≤ x0
      · have hs' : ¬ x0 - y0 < 0 := by omega
        have HG := Lib.hid (HN.out hs)
        clear hs
        go_wp2_with fail
        go_roundw
        case rel => exact ⟨(k : Int), by first | rfl | simp [hmk], by omega, by omega, hb.drew.trans (hb2.mono hb.size), HG⟩
        case measure => simp [intOf] <;> omega
      · have hs' : x0 - y0 < 0 := by omega
        have HG := Lib.hid (HF.out (by omega))
        clear hs
        go_wp2_with fail
        go_ret
        exact ⟨ret_bool HG.out.symm, hb.drew.trans (hb2.mono hb.size)⟩
    · have E := Lib.hid (Td.asc_iff.2 fun i hi => HH.out i (by omega) hi)
      go_wp2_with fail
      go_ret
      exact ⟨ret_bool E.out.symm, hb⟩
theorem quietT {P : Program} {f : FuncId} {args : Array Value} {w : World} {n : Nat} {v : Value}
    (h : Calls P f args (w.drewN n) fun e w' => e = .returned v ∧ w.drewN n = w') : Calls P f args (w.drewN n) fun e w'' => e = .returned v ∧ ∃ m, w'' = w.drewN m :=
  h.mono fun _ _ ⟨he, hm⟩ => ⟨he, n, hm.symm⟩
theorem belowT {B : Nat} {a w : World} (h : Below B a w) (n : Nat) : Below B a (w.drewN n) := ⟨h.os, h.tape, h.output, h.size, h.block⟩
theorem inRT {n l h : Int} {b : Bool} (e : btw n l h = b) : ∀ W : World, Calls Try.prog 53 #[.int .i64 n, .int .i64 l, .int .i64 h] W fun e w' => e = .returned (.bool b) ∧ W = w' := fun W => by
  have := inRange_any n l h W; rw [e] at this; exact this
set_option maxHeartbeats 400000 in
theorem vtrades_any (w : World) (v : Value) (ps : List Tri) (hv : R3o w v ps) (hm : ps.length ≤ 9223372036854775807) :
    Calls Try.prog 15 #[v] w fun x w' => x = .returned (.bool (Td.ok ps)) ∧ Below w.heap.size w w' := by
  have HV := Lib.hid hv
  obtain ⟨⟨a, c, rfl⟩, h1⟩ := hv
  clear h1
  by_cases h16 : ps.length ≤ 16
  · have q : (ps.length : Int) ≤ 16 := by omega
    cases hall : ps.all Td.one with
    | false =>
      have E := Lib.hid (show Td.ok ps = false by unfold Td.ok; rw [hall]; simp)
      have HC := Lib.hid (fun W hr => conT_any W (.slice a ps.length c) ps hr (by omega))
      rw [hall] at HC
      clear hall h16
      go_enter Try.func15, Try.ntmps15
      go_wp2_with fail
      refine (HC.out _ HV.out).mono ?_
      rintro x w1 ⟨rfl, hb⟩
      go_wp2_with fail
      go_ret
      exact ⟨ret_bool (by rw [E.out]), hb⟩
    | true =>
      have E := Lib.hid (show Td.ok ps = Td.asc ps by unfold Td.ok; rw [hall, decide_eq_true h16]; rfl)
      have HC := Lib.hid (fun W hr => conT_any W (.slice a ps.length c) ps hr (by omega))
      have HS := Lib.hid (fun W hr => sortT_any W (.slice a ps.length c) ps hr (by omega) hall)
      rw [hall] at HC
      clear hall h16
      go_enter Try.func15, Try.ntmps15
      go_wp2_with fail
      refine (HC.out _ HV.out).mono ?_
      rintro x w1 ⟨rfl, hb⟩
      go_wp2_with fail
      refine (HS.out _ (HV.out.below hb (Nat.le_refl _))).mono ?_
      rintro x w2 ⟨rfl, hb2⟩
      go_wp2_with fail
      go_ret
      exact ⟨ret_bool (by rw [E.out]), hb.trans (hb2.mono hb.size)⟩
  · have q : ¬ (ps.length : Int) ≤ 16 := by omega
    have E := Lib.hid (show Td.ok ps = false by unfold Td.ok; rw [decide_eq_false h16]; rfl)
    clear h16
    go_enter Try.func15, Try.ntmps15
    go_wp2_with fail
    go_ret
    exact ⟨ret_bool E.out.symm, Below.refl _ _⟩
set_option maxRecDepth 8000 in
set_option maxHeartbeats 4000000 in
theorem svtrades_any (w : World) (v : Value) (ps : List Tri) (hv : R3o w v ps) (hm : ps.length ≤ 9223372036854775807) :
    Calls Try.prog 41 #[v] w fun x w' => x = .returned (.bool (Td.ok ps)) ∧ Below w.heap.size w w' := by
  obtain ⟨⟨a, c, rfl⟩, h1⟩ := hv
  have H1 := Lib.hid h1; clear h1
  have HO := Lib.hid (show Td.ok ps = (decide (ps.length ≤ 16) && (ps.all Td.one && Td.asc ps)) from rfl)
  go_enter Try.func41, Try.ntmps41
  go_wp2_with fail
  go_loopw [3] (fun x wr => ∃ i : Nat, i ≤ ps.length ∧ x = .int .i64 i ∧ Below w.heap.size w wr ∧ Hid (∀ j, j < i → Td.one (ps.getD j t0) = true) ∧ Hid (∀ j, j + 1 < i → (ps.getD j t0).1 ≤ (ps.getD (j + 1) t0).1)) (fun x _ => ps.length - (intOf x).toNat)
  case atStart => exact ⟨0, Nat.zero_le _, rfl, Below.refl _ _, Lib.hid (fun j hj => by omega), Lib.hid (fun j hj => by omega)⟩
  case round =>
    obtain ⟨i, hi, rfl, hb, HH, HA⟩ := hrel
    by_cases hlt : i < ps.length
    · obtain ⟨b, off, d', e, hbl, hc⟩ := H1.out (by omega)
      simp only [Value.slice.injEq, true_and] at e
      obtain ⟨rfl, rfl⟩ := e
      obtain ⟨c0, c1, c2⟩ := hc i hlt
      replace c0 := (hb.cell (p := ⟨b, off + i * 3, none⟩) hbl).trans c0
      replace c1 := (hb.cell (p := ⟨b, off + i * 3 + 1, none⟩) hbl).trans c1
      replace c2 := (hb.cell (p := ⟨b, off + i * 3 + 2, none⟩) hbl).trans c2
      have HBd : Hid (Td.one (ps.getD i t0) = false → ps.all Td.one = false) := Lib.hid (fun h => all_badF hlt h)
      have HG : Hid (Td.one (ps.getD i t0) = true → ∀ j, j < i + 1 → Td.one (ps.getD j t0) = true) := Lib.hid (fun h j hj => by
        rcases Nat.lt_or_ge j i with q | q
        · exact HH.out j q
        · obtain rfl : j = i := by omega
          exact h)
      have HP : Hid (∀ k : Nat, i = k + 1 → w.cell? ⟨b, off + k * 3, none⟩ = some (.int .i64 (ps.getD k t0).1)) := Lib.hid (fun k hk => (hc k (by omega)).1)
      have HS : Hid (∀ k : Nat, i = k + 1 → ¬ (ps.getD k t0).1 ≤ (ps.getD i t0).1 → Td.asc ps = false) := Lib.hid (fun k hk h => by
        cases e : Td.asc ps with
        | false => rfl
        | true => exact absurd (Td.asc_iff.1 e k (by omega)) (by rw [← hk]; exact h))
      have HN : Hid ((∀ k : Nat, i = k + 1 → (ps.getD k t0).1 ≤ (ps.getD i t0).1) → ∀ j, j + 1 < i + 1 → (ps.getD j t0).1 ≤ (ps.getD (j + 1) t0).1) := Lib.hid (fun h j hj => by
        rcases Nat.lt_or_ge (j + 1) i with q | q
        · exact HA.out j q
        · have e : i = j + 1 := by omega
          have := h j e
          rwa [e] at this)
      clear hc
      generalize ps.getD i t0 = p at c0 c1 c2 HBd HG HS HN
      obtain ⟨d, m, u⟩ := p
      simp only at c0 c1 c2 HS HN
      cases h0 : btw d 0 36524 with
      | false =>
        have E := Lib.hid (HBd.out (by unfold Td.one; simp only [h0]; rfl))
        have C0 := Lib.hid (inRT h0)
        clear h0
        go_wp2_with fail
        go_quiet ((first | (go_at_call 53; with_reducible exact quietT (C0.out _))))
        go_wp2_with fail
        go_ret
        exact ⟨ret_bool (by rw [HO.out, E.out]; simp), belowT (hb.alloc hb.size _) _⟩
      | true =>
        cases h1 : btw m (-9999) 9999 with
        | false =>
          have E := Lib.hid (HBd.out (by unfold Td.one; simp only [h0, h1]; simp))
          have C0 := Lib.hid (inRT h0)
          have C1 := Lib.hid (inRT h1)
          clear h0 h1
          go_wp2_with fail
          go_quiet ((first | (go_at_call 53; with_reducible exact quietT (C0.out _)) | (go_at_call 53; with_reducible exact quietT (C1.out _))))
          go_wp2_with fail
          go_ret
          exact ⟨ret_bool (by rw [HO.out, E.out]; simp), belowT (hb.alloc hb.size _) _⟩
        | true =>
          by_cases h2 : m = 0
          · have h2' : (m == 0) = true := by simp [h2]
            have E := Lib.hid (HBd.out (by unfold Td.one; simp only [h0, h1]; simp [h2]))
            clear h2
            have C0 := Lib.hid (inRT h0)
            have C1 := Lib.hid (inRT h1)
            clear h0 h1
            go_wp2_with fail
            go_quiet ((first | (go_at_call 53; with_reducible exact quietT (C0.out _)) | (go_at_call 53; with_reducible exact quietT (C1.out _))))
            go_wp2_with fail
            go_ret
            exact ⟨ret_bool (by rw [HO.out, E.out]; simp), belowT (hb.alloc hb.size _) _⟩
          · have h2' : (m == 0) = false := by simp [h2]
            cases h3 : btw u 1 50000 with
            | false =>
              have E := Lib.hid (HBd.out (by unfold Td.one; simp only [h0, h1, h3]; simp))
              clear h2
              have C0 := Lib.hid (inRT h0)
              have C1 := Lib.hid (inRT h1)
              have C2 := Lib.hid (inRT h3)
              clear h0 h1 h3
              go_wp2_with fail
              go_quiet ((first | (go_at_call 53; with_reducible exact quietT (C0.out _)) | (go_at_call 53; with_reducible exact quietT (C1.out _)) | (go_at_call 53; with_reducible exact quietT (C2.out _))))
              go_wp2_with fail
              go_ret
              exact ⟨ret_bool (by rw [HO.out, E.out]; simp), belowT (hb.alloc hb.size _) _⟩
            | true =>
              have HG1 := Lib.hid (HG.out (by unfold Td.one; simp only [h0, h1, h3]; simp [h2]))
              clear h2
              rcases Nat.eq_zero_or_pos i with hz | hz
              · have hz' : ¬ (0 : Int) < (i : Int) := by omega
                have HN1 := Lib.hid (HN.out (fun k hk => by omega))
                have hz2 : decide (0 < i) = false := decide_eq_false (by omega)
                clear hz hz'
                have C0 := Lib.hid (inRT h0)
                have C1 := Lib.hid (inRT h1)
                have C2 := Lib.hid (inRT h3)
                clear h0 h1 h3
                go_wp2_with fail
                go_quiet ((first | (go_at_call 53; with_reducible exact quietT (C0.out _)) | (go_at_call 53; with_reducible exact quietT (C1.out _)) | (go_at_call 53; with_reducible exact quietT (C2.out _))))
                go_wp2_with fail
                go_roundw
                case rel => exact ⟨i + 1, by omega, by go_num, belowT (hb.alloc hb.size _) _, HG1, HN1⟩
                case measure => simp [intOf] <;> omega
              · obtain ⟨k, hk⟩ : ∃ k : Nat, i = k + 1 := ⟨i - 1, by omega⟩
                have hz' : (0 : Int) < (i : Int) := by omega
                have hik : (i : Int) - 1 = (k : Int) := by omega
                have W1 : IntKind.i64.wrap (k : Int) = (k : Int) := IntWalk.i64_in _ (by omega)
                have hkl : k < ps.length := by omega
                have d0 := (hb.cell (p := ⟨b, off + k * 3, none⟩) hbl).trans (HP.out k hk)
                have d0' : (wr.alloc (.cells #[.int .i64 d, .int .i64 m, .int .i64 u] 35)).cell? ⟨b, off + k * 3, none⟩ = some (.int .i64 (ps.getD k t0).1) := by
                  rw [World.cell?_alloc_lt _ _ ⟨b, off + k * 3, none⟩ (by show b < wr.heap.size; have := hb.size; omega)]; exact d0
                have HSk := Lib.hid (HS.out k hk)
                have HNk : Hid ((ps.getD k t0).1 ≤ d → ∀ j, j + 1 < i + 1 → (ps.getD j t0).1 ≤ (ps.getD (j + 1) t0).1) := Lib.hid (fun h => HN.out (fun k' hk' => by obtain rfl : k' = k := by omega
                                                                                                                                                                     exact h))
                clear hk
                generalize (ps.getD k t0).1 = y at d0 d0' HSk HNk
                by_cases hs : d < y
                · have E := Lib.hid (HSk.out (by omega))
                  have C0 := Lib.hid (inRT h0)
                  have C1 := Lib.hid (inRT h1)
                  have C2 := Lib.hid (inRT h3)
                  clear h0 h1 h3
                  go_wp2_with fail
                  go_quiet ((first | (go_at_call 53; with_reducible exact quietT (C0.out _)) | (go_at_call 53; with_reducible exact quietT (C1.out _)) | (go_at_call 53; with_reducible exact quietT (C2.out _))))
                  go_wp2_with fail
                  go_ret
                  exact ⟨ret_bool (by rw [HO.out, E.out]; simp), belowT (hb.alloc hb.size _) _⟩
                · have HN1 := Lib.hid (HNk.out (by omega))
                  have C0 := Lib.hid (inRT h0)
                  have C1 := Lib.hid (inRT h1)
                  have C2 := Lib.hid (inRT h3)
                  clear h0 h1 h3
                  go_wp2_with fail
                  go_quiet ((first | (go_at_call 53; with_reducible exact quietT (C0.out _)) | (go_at_call 53; with_reducible exact quietT (C1.out _)) | (go_at_call 53; with_reducible exact quietT (C2.out _))))
                  go_wp2_with fail
                  go_roundw
                  case rel => exact ⟨i + 1, by omega, by go_num, belowT (hb.alloc hb.size _) _, HG1, HN1⟩
                  case measure => simp [intOf] <;> omega
    · obtain rfl : i = ps.length := by omega
      have E := Lib.hid (show Td.ok ps = decide (ps.length ≤ 16) by rw [HO.out, all_takeF HH.out, Td.asc_iff.2 HA.out]; simp)
      by_cases h16 : ps.length ≤ 16
      · have q : (ps.length : Int) ≤ 16 := by omega
        go_wp2_with fail
        go_ret
        exact ⟨ret_bool (by rw [E.out, decide_eq_true h16]), hb⟩
      · have q : ¬ (ps.length : Int) ≤ 16 := by omega
        go_wp2_with fail
        go_ret
        exact ⟨ret_bool (by rw [E.out, decide_eq_false h16]), hb⟩
set_option maxHeartbeats 400000 in
theorem sVTrades_any (w : World) (v : Value) (ps : List Tri) (hv : R3o w v ps) (hm : ps.length ≤ 9223372036854775807) :
    Calls Try.prog 16 #[v] w fun x w' => x = .returned (.bool (Td.ok ps)) ∧ Below w.heap.size w w' := by
  have HI := Lib.hid (svtrades_any w v ps hv hm)
  obtain ⟨⟨a, c, rfl⟩, h1⟩ := hv
  clear h1
  go_enter Try.func16, Try.ntmps16
  go_wp2_with fail
  refine HI.out.mono ?_
  rintro x w1 ⟨rfl, hb⟩
  go_wp2_with fail
  go_ret
  exact ⟨rfl, hb⟩
end Go.Proofs.Ytpekjccapfjnoaa