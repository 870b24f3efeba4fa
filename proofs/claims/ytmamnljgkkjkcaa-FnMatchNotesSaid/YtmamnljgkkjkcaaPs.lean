/- Rows of postings, and which are valid, on both sides. -/
import Derived.Test.YtmamnljgkkjkcaaBtw
import Derived.Test.YtmamnljgkkjkcaaDrawB
import Derived.Test.YtmamnljgkkjkcaaChecked
import Derived.Outline
namespace Go.Proofs.Ytmamnljgkkjkcaa
open Go.RowKit
/-- Three numbers. -/
abbrev Tri := Int × Int × Int
abbrev t0 : Tri := (0, 0, 0)
abbrev triV (p : Tri) : Value := .agg #[.int .i64 p.1, .int .i64 p.2.1, .int .i64 p.2.2]
/-- A slice of triples that can be read. -/
def R3 (w : World) (v : Value) (ps : List Tri) : Prop := (∃ a c, v = .slice a ps.length c) ∧ (0 < ps.length → ∃ b c, v = .slice (some ⟨b, 0, none⟩) ps.length c ∧ b < w.heap.size ∧ ∀ i, i < ps.length → w.cell? ⟨b, i * 3, none⟩ = some (.int .i64 (ps.getD i t0).1) ∧ w.cell? ⟨b, i * 3 + 1, none⟩ = some (.int .i64 (ps.getD i t0).2.1) ∧ w.cell? ⟨b, i * 3 + 2, none⟩ = some (.int .i64 (ps.getD i t0).2.2))
theorem R3.below {w w' : World} {v : Value} {ps : List Tri} {B : Nat} (h : R3 w v ps) (hb : Below B w w') (hB : w.heap.size ≤ B) : R3 w' v ps := by
  refine ⟨h.1, fun hl => ?_⟩
  obtain ⟨b, c, e, hlt, hc⟩ := h.2 hl
  refine ⟨b, c, e, Nat.lt_of_lt_of_le hlt hb.size, fun i hi => ?_⟩
  obtain ⟨c0, c1, c2⟩ := hc i hi
  exact ⟨(hb.cell (p := ⟨b, i * 3, none⟩) (by show b < B; omega)).trans c0, (hb.cell (p := ⟨b, i * 3 + 1, none⟩) (by show b < B; omega)).trans c1, (hb.cell (p := ⟨b, i * 3 + 2, none⟩) (by show b < B; omega)).trans c2⟩
/-- A slice of triples from outside: it may begin anywhere. -/
def R3o (w : World) (v : Value) (ps : List Tri) : Prop := (∃ a c, v = .slice a ps.length c) ∧ (0 < ps.length → ∃ b off c, v = .slice (some ⟨b, off, none⟩) ps.length c ∧ b < w.heap.size ∧ ∀ i, i < ps.length → w.cell? ⟨b, off + i * 3, none⟩ = some (.int .i64 (ps.getD i t0).1) ∧ w.cell? ⟨b, off + i * 3 + 1, none⟩ = some (.int .i64 (ps.getD i t0).2.1) ∧ w.cell? ⟨b, off + i * 3 + 2, none⟩ = some (.int .i64 (ps.getD i t0).2.2))
theorem R3o.below {w w' : World} {v : Value} {ps : List Tri} {B : Nat} (h : R3o w v ps) (hb : Below B w w') (hB : w.heap.size ≤ B) : R3o w' v ps := by
  refine ⟨h.1, fun hl => ?_⟩
  obtain ⟨b, off, c, e, hlt, hc⟩ := h.2 hl
  refine ⟨b, off, c, e, Nat.lt_of_lt_of_le hlt hb.size, fun i hi => ?_⟩
  obtain ⟨c0, c1, c2⟩ := hc i hi
  exact ⟨(hb.cell (p := ⟨b, off + i * 3, none⟩) (by show b < B; omega)).trans c0, (hb.cell (p := ⟨b, off + i * 3 + 1, none⟩) (by show b < B; omega)).trans c1, (hb.cell (p := ⟨b, off + i * 3 + 2, none⟩) (by show b < B; omega)).trans c2⟩
theorem R3.o {w : World} {v : Value} {ps : List Tri} (h : R3 w v ps) : R3o w v ps := by
  refine ⟨h.1, fun hl => ?_⟩
  obtain ⟨b, c, e, hlt, hc⟩ := h.2 hl
  exact ⟨b, 0, c, e, hlt, fun i hi => by simpa using hc i hi⟩
/-- A valid posting. -/
def Ps.one (p : Tri) : Bool := btw p.1 0 5 && (btw p.2.1 0 5 && (p.1 != p.2.1 && btw p.2.2 1 1000000000))
def Ps.ok (ps : List Tri) : Bool := decide (ps.length ≤ 40) && ps.all Ps.one
set_option maxHeartbeats 800000 in
theorem pvalid_any (p : Tri) (w : World) :
    Calls Try.prog 59 #[triV p] w fun e w' => e = .returned (.bool (Ps.one p)) ∧ Below w.heap.size w w' := by
  obtain ⟨f, t, a⟩ := p
  have hbA := (Below.refl w.heap.size w).alloc (Nat.le_refl _) (.cells #[.int .i64 f, .int .i64 t, .int .i64 a] 40)
  cases h0 : btw f 0 5 with
  | false =>
    have E := Lib.hid (show Ps.one (f, t, a) = false by unfold Ps.one; simp only [h0]; rfl)
    go_enter Try.func59, Try.ntmps59
    go_wp2_with fail
    refine (between_any _ _ _ _).mono ?_
    rintro e w1 ⟨rfl, rfl⟩
    rw [h0]
    go_wp2_with fail
    go_ret
    exact ⟨ret_bool E.out.symm, hbA⟩
  | true =>
    cases h1 : btw t 0 5 with
    | false =>
      have E := Lib.hid (show Ps.one (f, t, a) = false by unfold Ps.one; simp only [h0, h1]; rfl)
      go_enter Try.func59, Try.ntmps59
      go_wp2_with fail
      refine (between_any _ _ _ _).mono ?_
      rintro e w1 ⟨rfl, rfl⟩
      rw [h0]
      go_wp2_with fail
      refine (between_any _ _ _ _).mono ?_
      rintro e w1 ⟨rfl, rfl⟩
      rw [h1]
      go_wp2_with fail
      go_ret
      exact ⟨ret_bool E.out.symm, hbA⟩
    | true =>
      cases h2 : (f != t) with
      | false =>
        have E := Lib.hid (show Ps.one (f, t, a) = false by unfold Ps.one; simp only [h0, h1, h2]; rfl)
        go_enter Try.func59, Try.ntmps59
        go_wp2_with fail
        refine (between_any _ _ _ _).mono ?_
        rintro e w1 ⟨rfl, rfl⟩
        rw [h0]
        go_wp2_with fail
        refine (between_any _ _ _ _).mono ?_
        rintro e w1 ⟨rfl, rfl⟩
        rw [h1]
        go_wp2_with fail
        go_ret
        exact ⟨ret_bool E.out.symm, hbA⟩
      | true =>
        have E := Lib.hid (show Ps.one (f, t, a) = btw a 1 1000000000 by unfold Ps.one; simp only [h0, h1, h2]; rfl)
        go_enter Try.func59, Try.ntmps59
        go_wp2_with fail
        refine (between_any _ _ _ _).mono ?_
        rintro e w1 ⟨rfl, rfl⟩
        rw [h0]
        go_wp2_with fail
        refine (between_any _ _ _ _).mono ?_
        rintro e w1 ⟨rfl, rfl⟩
        rw [h1]
        go_wp2_with fail
        refine (between_any _ _ _ _).mono ?_
        rintro e w1 ⟨rfl, rfl⟩
        go_wp2_with fail
        go_ret
        exact ⟨ret_bool E.out.symm, hbA⟩
/-- Whether one of the first ones is invalid. -/
theorem all_take {ps : List Tri} {i : Nat} (h : ∀ j, j < i → Ps.one (ps.getD j t0) = true) (hlast : i = ps.length) : ps.all Ps.one = true := by
  rw [List.all_eq_true]
  intro p hp
  obtain ⟨j, hj, rfl⟩ := List.mem_iff_getElem.1 hp
  have := h j (by omega)
  rwa [List.getD_eq_getElem?_getD, List.getElem?_eq_getElem hj, Option.getD_some] at this
theorem all_bad {ps : List Tri} {i : Nat} (hi : i < ps.length) (h : Ps.one (ps.getD i t0) = false) : ps.all Ps.one = false := by
  cases e : ps.all Ps.one with
  | false => rfl
  | true =>
    have := List.all_eq_true.1 e (ps.getD i t0) (by rw [List.getD_eq_getElem?_getD, List.getElem?_eq_getElem hi, Option.getD_some]; exact List.getElem_mem hi)
    rw [this] at h; cases h
theorem quietP {P : Program} {f : FuncId} {args : Array Value} {w : World} {n : Nat} {v : Value}
    (h : Calls P f args (w.drewN n) fun e w' => e = .returned v ∧ w.drewN n = w') : Calls P f args (w.drewN n) fun e w'' => e = .returned v ∧ ∃ m, w'' = w.drewN m :=
  h.mono fun _ _ ⟨he, hm⟩ => ⟨he, n, hm.symm⟩
theorem belowN {B : Nat} {a w : World} (h : Below B a w) (n : Nat) : Below B a (w.drewN n) := ⟨h.os, h.tape, h.output, h.size, h.block⟩
theorem inRC {n l h : Int} {b : Bool} (e : btw n l h = b) : ∀ W : World, Calls Try.prog 71 #[.int .i64 n, .int .i64 l, .int .i64 h] W fun e w' => e = .returned (.bool b) ∧ W = w' := fun W => by
  have := inRange_any n l h W; rw [e] at this; exact this
set_option maxHeartbeats 2000000 in
theorem svposts_any (w : World) (v : Value) (ps : List Tri) (hv : R3o w v ps) (hm : ps.length ≤ 9223372036854775807) :
    Calls Try.prog 63 #[v] w fun x w' => x = .returned (.bool (Ps.ok ps)) ∧ Below w.heap.size w w' := by
  obtain ⟨⟨a, c, rfl⟩, h1⟩ := hv
  have H1 := Lib.hid h1; clear h1
  have HO := Lib.hid (show Ps.ok ps = (decide (ps.length ≤ 40) && ps.all Ps.one) from rfl)
  obtain ⟨n, hn⟩ : ∃ n, n = ps.length := ⟨_, rfl⟩
  rw [← hn] at hm HO ⊢
  have HN := Lib.hid hn; clear hn
  go_enter Try.func63, Try.ntmps63
  go_wp2_with fail
  go_loopw [3] (fun x wr => ∃ i : Nat, i ≤ n ∧ x = .int .i64 i ∧ Below w.heap.size w wr ∧ Hid (∀ j, j < i → Ps.one (ps.getD j t0) = true)) (fun x _ => n - (intOf x).toNat)
  case atStart => exact ⟨0, Nat.zero_le _, rfl, Below.refl _ _, Lib.hid (fun j hj => by omega)⟩
  case round =>
    obtain ⟨i, hi, rfl, hb, HH⟩ := hrel
    by_cases hlt : i < n
    · obtain ⟨b, off, d', e, hbl, hc⟩ := H1.out (by rw [← HN.out]; omega)
      rw [← HN.out] at e
      simp only [Value.slice.injEq, true_and] at e
      obtain ⟨rfl, rfl⟩ := e
      obtain ⟨c0, c1, c2⟩ := hc i (by rw [← HN.out]; exact hlt)
      replace c0 := (hb.cell (p := ⟨b, off + i * 3, none⟩) hbl).trans c0
      replace c1 := (hb.cell (p := ⟨b, off + i * 3 + 1, none⟩) hbl).trans c1
      replace c2 := (hb.cell (p := ⟨b, off + i * 3 + 2, none⟩) hbl).trans c2
      clear hc
      have HB := Lib.hid (fun (h : Ps.one (ps.getD i t0) = false) => all_bad (by rw [← HN.out]; exact hlt) h)
      have HG : Hid (Ps.one (ps.getD i t0) = true → ∀ j, j < i + 1 → Ps.one (ps.getD j t0) = true) := Lib.hid (fun h j hj => by
        rcases Nat.lt_or_ge j i with q | q
        · exact HH.out j q
        · obtain rfl : j = i := by omega
          exact h)
      generalize ps.getD i t0 = p at c0 c1 c2 HB HG
      obtain ⟨f, t, u⟩ := p
      simp only at c0 c1 c2
      cases h0 : btw f 0 5 with
      | false =>
        have E := Lib.hid (HB.out (by unfold Ps.one; simp only [h0]; rfl))
        have C0 := Lib.hid (inRC h0)
        clear h0
        go_wp2_with fail
        go_quiet ((first | (go_at_call 71; with_reducible exact quietP (C0.out _)) | (go_at_call 71; with_reducible exact quietP (C1.out _)) | (go_at_call 71; with_reducible exact quietP (C3.out _))))
        go_wp2_with fail
        go_ret
        exact ⟨ret_bool (by rw [HO.out, E.out]; simp), belowN hb _⟩
      | true =>
        cases h1 : btw t 0 5 with
        | false =>
          have E := Lib.hid (HB.out (by unfold Ps.one; simp only [h0, h1]; rfl))
          have C0 := Lib.hid (inRC h0)
          have C1 := Lib.hid (inRC h1)
          clear h0 h1
          go_wp2_with fail
          go_quiet ((first | (go_at_call 71; with_reducible exact quietP (C0.out _)) | (go_at_call 71; with_reducible exact quietP (C1.out _)) | (go_at_call 71; with_reducible exact quietP (C3.out _))))
          go_wp2_with fail
          go_ret
          exact ⟨ret_bool (by rw [HO.out, E.out]; simp), belowN hb _⟩
        | true =>
          by_cases h2 : f = t
          · have E := Lib.hid (HB.out (by unfold Ps.one; simp only [h0, h1]; simp [h2]))
            have h2' : (f == t) = true := by simp [h2]
            clear h2
            have C0 := Lib.hid (inRC h0)
            have C1 := Lib.hid (inRC h1)
            clear h0 h1
            go_wp2_with fail
            go_quiet ((first | (go_at_call 71; with_reducible exact quietP (C0.out _)) | (go_at_call 71; with_reducible exact quietP (C1.out _)) | (go_at_call 71; with_reducible exact quietP (C3.out _))))
            go_wp2_with fail
            go_ret
            exact ⟨ret_bool (by rw [HO.out, E.out]; simp), belowN hb _⟩
          · have h2' : (f == t) = false := by simp [h2]
            cases h3 : btw u 1 1000000000 with
            | false =>
              have E := Lib.hid (HB.out (by unfold Ps.one; simp only [h0, h1, h3]; simp))
              clear h2
              have C0 := Lib.hid (inRC h0)
              have C1 := Lib.hid (inRC h1)
              have C3 := Lib.hid (inRC h3)
              clear h0 h1 h3
              go_wp2_with fail
              go_quiet ((first | (go_at_call 71; with_reducible exact quietP (C0.out _)) | (go_at_call 71; with_reducible exact quietP (C1.out _)) | (go_at_call 71; with_reducible exact quietP (C3.out _))))
              go_wp2_with fail
              go_ret
              exact ⟨ret_bool (by rw [HO.out, E.out]; simp), belowN hb _⟩
            | true =>
              have E := Lib.hid (HG.out (by unfold Ps.one; simp only [h0, h1, h3]; simp [h2]))
              clear h2
              have C0 := Lib.hid (inRC h0)
              have C1 := Lib.hid (inRC h1)
              have C3 := Lib.hid (inRC h3)
              clear h0 h1 h3
              go_wp2_with fail
              go_quiet ((first | (go_at_call 71; with_reducible exact quietP (C0.out _)) | (go_at_call 71; with_reducible exact quietP (C1.out _)) | (go_at_call 71; with_reducible exact quietP (C3.out _))))
              go_wp2_with fail
              go_roundw
              case rel => exact ⟨i + 1, by omega, by go_num, belowN hb _, E⟩
              case measure => simp [intOf] <;> omega
    · obtain rfl : i = n := by omega
      have HF := Lib.hid (all_take HH.out HN.out)
      by_cases h40 : i ≤ 40
      · have q : (i : Int) ≤ 40 := by omega
        go_wp2_with fail
        go_ret
        exact ⟨ret_bool (by rw [HO.out, HF.out, decide_eq_true h40]; rfl), hb⟩
      · have q : ¬ (i : Int) ≤ 40 := by omega
        go_wp2_with fail
        go_ret
        exact ⟨ret_bool (by rw [HO.out, HF.out, decide_eq_false h40]; rfl), hb⟩
end Go.Proofs.Ytmamnljgkkjkcaa
