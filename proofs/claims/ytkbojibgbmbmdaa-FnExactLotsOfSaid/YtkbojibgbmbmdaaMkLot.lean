/- Rows of lots at any offset: compared, marked, held. -/
import Derived.Test.YtkbojibgbmbmdaaGnQ
import Derived.Test.YtkbojibgbmbmdaaKp
import Derived.StillTailTactics
namespace Go.Proofs.Ytkbojibgbmbmdaa
open Go.RowKit
def LotRow (w : World) (B : Nat) (v : Value) (q : List Pr) : Prop := OffRow w B 33 v q.length (q.flatMap ac2)
theorem LotRow.lt {w : World} {B : Nat} {v : Value} {q : List Pr} (h : LotRow w B v q) : ∀ k, v.ownBlock = some k → B ≤ k ∧ k < w.heap.size := OffRow.lt h
theorem LotRow.ne {w w' : World} {B : Nat} {v : Value} {q : List Pr} {r : Option Nat} (h : LotRow w B v q) (hg : w.grownBy w' r) (hne : ∀ i j, v.ownBlock = some i → r = some j → i ≠ j) : LotRow w' B v q := OffRow.kept h hg hne
theorem LotRow.below {w w' : World} {B C : Nat} {v : Value} {q : List Pr} (h : LotRow w B v q) (hb : Below C w w') (hC : w.heap.size ≤ C) : LotRow w' B v q := OffRow.below h hb hC
theorem LotRow.r2o {w : World} {B : Nat} {v : Value} {q : List Pr} (h : LotRow w B v q) : R2o w v q := OffRow.r2o h
theorem LotRow.sliceOfLot {w : World} {B : Nat} {v : Value} {q : List Pr} (h : LotRow w B v q) : ∃ a c, v = .slice a q.length c := OffRow.slice h
theorem LotRow.store {w : World} {B b o n cap : Nat} {ys : List Pr} (h : LotRow w B (.slice (some ⟨b, o, none⟩) n cap) ys) (hn : ys.length = n) {k : Nat} (hk : k < n) (x y : Int) :
    LotRow ((w.setCell ⟨b, o + k * 2, none⟩ (.int .i64 x)).setCell ⟨b, o + k * 2 + 1, none⟩ (.int .i64 y)) B (.slice (some ⟨b, o, none⟩) n cap) (ys.set k (x, y)) ∧
      w.grownBy ((w.setCell ⟨b, o + k * 2, none⟩ (.int .i64 x)).setCell ⟨b, o + k * 2 + 1, none⟩ (.int .i64 y)) (some b) := by
  unfold LotRow at h
  rw [hn] at h
  have h1 := OffRow.stored h (k * 2) (by omega) (.int .i64 x)
  have h2 := OffRow.stored h1.1 (k * 2 + 1) (by omega) (.int .i64 y)
  rw [pflat_set ys k x y (by omega)] at h2
  have hg : World.grownBy w ((w.setCell ⟨b, o + k * 2, none⟩ (.int .i64 x)).setCell ⟨b, o + k * 2 + 1, none⟩ (.int .i64 y)) (some b) := h1.2.trans h2.2
  refine ⟨?_, hg⟩
  unfold LotRow
  rw [List.length_set, hn]
  exact h2.1
theorem stillTLot {P : Program} {id : Nat} {Q : Exit → Act → World → Prop} {a : Act} {w : World} {l : List Oper} (n : Nat) (hm : P.follows .mixedOrders = true) (hB : Region.lexTailB .any l.toArray n = true)
    (h : wpStill P l.toArray w.drew (fun a' => wpList P l.toArray Q (l.drop n) a' w.drew) (l.take n) a) : (Code.region id l.toArray true).wp P Q a w := wp_region_still_tail n hm hB h
set_option maxHeartbeats 400000 in
theorem eqLot_same (p : Pr) (w : World) :
    Calls Try.prog 45 #[floV p, floV p] w fun e w' => e = .returned (.bool true) ∧ Below w.heap.size w w' := by
  obtain ⟨x, y⟩ := p
  have e0 : ∀ x : Int, (x != x) = false := fun x => by simp
  have ex := e0 x
  have ey := e0 y
  clear e0
  go_enter Try.func45, Try.ntmps45
  go_wp2_with fail
  go_ret
  exact ⟨rfl, ((Below.refl _ _).alloc (Nat.le_refl _) _).alloc (by simp) _⟩
set_option maxRecDepth 8000 in
set_option maxHeartbeats 2000000 in
theorem eqLotS_same (w : World) (v u : Value) (ps : List Pr) (hv : R2o w v ps) (hu : R2o w u ps) (hl : ps.length ≤ 1048576) :
    Calls Try.prog 29 #[v, u] w fun e w' => e = .returned (.bool true) ∧ Below w.heap.size w w' := by
  obtain ⟨⟨a, cap, rfl⟩, h1⟩ := hv
  obtain ⟨⟨a2, cap2, rfl⟩, h2⟩ := hu
  have H := Lib.hid h1; clear h1
  have H2 := Lib.hid h2; clear h2
  have hm : (ps.length : Int) ≤ 1048576 := by omega
  have hne : ((ps.length : Int) != (ps.length : Int)) = false := by simp
  go_enter Try.func29, Try.ntmps29
  go_wp2_with fail
  go_loopw [5] (fun i wr => ∃ k : Nat, k ≤ ps.length ∧ i = .int .i64 k ∧ Below w.heap.size w wr) (fun i _ => ps.length - (intOf i).toNat)
  case atStart => exact ⟨0, Nat.zero_le _, rfl, Below.refl _ _⟩
  case round =>
    obtain ⟨k, hk, rfl, hb⟩ := hrel
    by_cases hlt : k < ps.length
    · obtain ⟨b, o, c, e, hbb, hc⟩ := H.out (by omega)
      simp only [Value.slice.injEq, true_and] at e
      obtain ⟨rfl, rfl⟩ := e
      obtain ⟨b2, o2, c2, e2, hbb2, hc2⟩ := H2.out (by omega)
      simp only [Value.slice.injEq, true_and] at e2
      obtain ⟨rfl, rfl⟩ := e2
      obtain ⟨c0, c1⟩ := hc k hlt
      replace c0 := (hb.cell (p := ⟨b, o + k * 2, none⟩) hbb).trans c0
      replace c1 := (hb.cell (p := ⟨b, o + k * 2 + 1, none⟩) hbb).trans c1
      obtain ⟨d0, d1⟩ := hc2 k hlt
      replace d0 := (hb.cell (p := ⟨b2, o2 + k * 2, none⟩) hbb2).trans d0
      replace d1 := (hb.cell (p := ⟨b2, o2 + k * 2 + 1, none⟩) hbb2).trans d1
      clear hc hc2
      have e1 : ps.getD k (0, 0) = ps.getD k pr0 := rfl
      rw [e1] at c0 c1 d0 d1
      clear e1
      generalize ps.getD k pr0 = x at c0 c1 d0 d1
      obtain ⟨x0, x1⟩ := x
      simp only at c0 c1 d0 d1
      have hE := Lib.hid (eqLot_same (x0, x1))
      go_wp2_with fail
      refine stillTLot 8 (by kernel_rfl) (by kernel_rfl) ?_
      simp only [List.take_succ_cons, List.take_zero, List.drop_succ_cons, List.drop_zero]
      repeat still_step
      refine wpStill_nil ?_
      go_wp2_with fail
      refine (hE.out _).mono ?_
      rintro e w2 ⟨rfl, hb2⟩
      go_wp2_with fail
      go_roundw
      case rel => exact ⟨k + 1, by omega, by go_num, hb.drew.trans (hb2.mono hb.size)⟩
      case measure => simp [intOf]; omega
    · go_wp2_with fail
      go_ret
      exact ⟨rfl, hb⟩
def MkLot (ps : List Pr) (m : Int) (k : Nat) : Prop := ∀ i, i < k → ps.getD i pr0 = (m + 2 * (i : Int), m + 2 * (i : Int) + 1)
def MarkedLot (w : World) (B : Nat) (v : Value) (n : Nat) (m : Int) (e : Ending) (w' : World) : Prop :=
  ∃ ys, e = .returned (.int .i64 (m + 2 * n)) ∧ ys.length = n ∧ LotRow w' B v ys ∧ MkLot ys m n ∧ w.grownBy w' v.ownBlock
theorem grown_reflLot (w : World) (r : Option Nat) : w.grownBy w r := ⟨rfl, rfl, rfl, Nat.le_refl _, fun _ _ _ => rfl⟩
theorem grown_transLot {a b c : World} {r : Option Nat} (h : a.grownBy b r) (k : b.grownBy c r) : a.grownBy c r :=
  ⟨k.os.trans h.os, k.tape.trans h.tape, k.output.trans h.output, Nat.le_trans h.size k.size, fun i hi hne => (k.block i (Nat.lt_of_lt_of_le hi h.size) hne).trans (h.block i hi hne)⟩
set_option maxRecDepth 8000 in
set_option maxHeartbeats 1000000 in
theorem markLot_any (w : World) (B : Nat) (v : Value) (xs : List Pr) (m : Int) (hv : LotRow w B v xs) (hl : xs.length ≤ 1048576) (m0 : 0 ≤ m) (m1 : m ≤ 10000000) :
    Calls Try.prog 32 #[v, .int .i64 m] w (MarkedLot w B v xs.length m) := by
  have HV := Lib.hid hv
  obtain ⟨a, cap, rfl⟩ := LotRow.sliceOfLot hv
  clear hv
  have hm : (xs.length : Int) ≤ 1048576 := by omega
  obtain ⟨n, hn⟩ : ∃ n, n = xs.length := ⟨_, rfl⟩
  rw [← hn] at hl hm HV ⊢
  go_enter Try.func32, Try.ntmps32
  go_wp2_with fail
  go_loopw [1, 5] (fun o y wr => ∃ (k : Nat) (ys : List Pr), k ≤ n ∧ y = .int .i64 k ∧ o = .int .i64 (m + 2 * k) ∧ Hid (ys.length = n) ∧ Hid (LotRow wr B (.slice a n cap) ys) ∧ Hid (MkLot ys m k) ∧ Hid (w.grownBy wr (Value.slice a n cap).ownBlock)) (fun _ y _ => n - (intOf y).toNat)
  case atStart => exact ⟨0, xs, Nat.zero_le _, rfl, by go_num, Lib.hid hn.symm, HV, Lib.hid (fun i hi => by omega), Lib.hid (grown_reflLot _ _)⟩
  case round =>
    obtain ⟨k, ys, hk, rfl, rfl, HL, HF, HM, HG⟩ := hrel
    by_cases hlt : k < n
    · obtain ⟨b, o4, cap4, e4, hbl4, -, hc4, hf4⟩ := OffRow.form HF.out (by rw [HL.out]; omega)
      rw [HL.out] at e4
      simp only [Value.slice.injEq, true_and] at e4
      obtain ⟨rfl, rfl⟩ := e4
      have hfl := flat_len 2 ac2 (fun _ => rfl) ys
      have d0 : wr.cell? ⟨b, o4 + k * 2, none⟩ = some (.int .i64 (ys.getD k pr0).1) := by
        rw [hc4 (k * 2) (by rw [HL.out]; omega)]
        have h := flat_at 2 ac2 (fun _ => rfl) pr0 ys k 0 (by rw [HL.out]; exact hlt) (by omega)
        rw [show 2 * k + 0 = k * 2 by omega] at h
        rw [h]; rfl
      have d1 : wr.cell? ⟨b, o4 + k * 2 + 1, none⟩ = some (.int .i64 (ys.getD k pr0).2) := by
        have h0 := hc4 (k * 2 + 1) (by rw [HL.out]; omega)
        have h := flat_at 2 ac2 (fun _ => rfl) pr0 ys k 1 (by rw [HL.out]; exact hlt) (by omega)
        rw [show 2 * k + 1 = k * 2 + 1 by omega] at h
        rw [h] at h0
        exact h0
      have g0 := hf4 (o4 + k * 2)
      have g1 : wr.frozen? ⟨b, o4 + k * 2 + 1, none⟩ = false := hf4 (o4 + k * 2 + 1)
      clear hc4 hf4 hfl
      have HS := Lib.hid (LotRow.store HF.out HL.out hlt (m + 2 * k) (m + 2 * k + 1))
      have hi : (k : Int) < n := by omega
      generalize ys.getD k pr0 = y at d0 d1
      go_wp2_with fail
      go_roundw
      case rel =>
        refine ⟨k + 1, ys.set k (m + 2 * (k : Int), m + 2 * (k : Int) + 1), by omega, by go_num, by go_num, Lib.hid (by rw [List.length_set]; exact HL.out), ?_, Lib.hid (fun i hi' => ?_), Lib.hid (grown_transLot HG.out (by have h := HS.out.2; exact h))⟩
        · exact Lib.hid (by have h := HS.out.1; exact h)
        · rw [List.getD_eq_getElem?_getD, List.getElem?_set]
          by_cases q : k = i
          · subst q; simp [show k < ys.length by rw [HL.out]; exact hlt]
          · rw [if_neg q, ← List.getD_eq_getElem?_getD]
            exact HM.out i (by omega)
      case measure => simp [intOf] <;> omega
    · obtain rfl : k = n := by omega
      go_wp2_with fail
      go_ret
      exact ⟨ys, rfl, HL.out, HF.out, HM.out, HG.out⟩
set_option maxRecDepth 8000 in
set_option maxHeartbeats 1000000 in
theorem heldLot_any (w : World) (v : Value) (xs : List Pr) (m : Int) (hv : R2o w v xs) (hx : MkLot xs m xs.length) (hl : xs.length ≤ 1048576) (m0 : 0 ≤ m) (m1 : m ≤ 10000000) :
    Calls Try.prog 33 #[v, .int .i64 m] w fun e w' => e = .returned (.int .i64 (m + 2 * xs.length)) ∧ w = w' := by
  obtain ⟨⟨a, cap, rfl⟩, h1⟩ := hv
  have H := Lib.hid h1; clear h1
  have HX := Lib.hid hx; clear hx
  have hm : (xs.length : Int) ≤ 1048576 := by omega
  go_enter Try.func33, Try.ntmps33
  go_wp2_with fail
  go_loop [1, 5] (fun o y => ∃ k : Nat, k ≤ xs.length ∧ y = .int .i64 k ∧ o = .int .i64 (m + 2 * k)) (fun _ y => xs.length - (intOf y).toNat)
  case atStart => exact ⟨0, Nat.zero_le _, rfl, by go_num⟩
  case round =>
    obtain ⟨k, hk, rfl, rfl⟩ := hrel
    by_cases hlt : k < xs.length
    · obtain ⟨b, off, c, e, hbb, hc⟩ := H.out (by omega)
      simp only [Value.slice.injEq, true_and] at e
      obtain ⟨rfl, rfl⟩ := e
      have hck := hc k hlt
      clear hc
      rw [HX.out k hlt] at hck
      simp only at hck
      obtain ⟨d0, d1⟩ := hck
      have hne0 : (m + 2 * (k : Int) != m + 2 * (k : Int)) = false := by simp
      have hne1 : (m + 2 * (k : Int) + 1 != m + 2 * (k : Int) + 1) = false := by simp
      go_wp2_with fail
      go_round
      case rel => exact ⟨k + 1, by omega, by go_num, by go_num⟩
      case measure => simp [intOf] <;> omega
    · obtain rfl : k = xs.length := by omega
      go_wp2_with fail
      go_ret
      exact ⟨rfl, rfl⟩
/-- The contracts with the row named. -/
theorem lotsE_any (w : World) (v : Value) (ps : List Tri) (hv : R3o w v ps) (hm : ps.length ≤ 9223372036854775807) :
    Calls Try.prog 20 #[v] w fun e w' => ∃ u, e = .returned u ∧ LotRow w' w.heap.size u (Lt.lots ps) ∧ Below w.heap.size w w' := by
  refine (lots_any w v ps hv hm).mono ?_
  rintro e w' ⟨⟨u, rfl, hu⟩, hb⟩
  exact ⟨u, rfl, hu, hb⟩
theorem slotsE_any (w : World) (v : Value) (ps : List Tri) (hv : R3o w v ps) (hm : ps.length ≤ 9223372036854775807) :
    Calls Try.prog 23 #[v] w fun e w' => ∃ u, e = .returned u ∧ LotRow w' w.heap.size u (Lt.lots ps) ∧ Below w.heap.size w w' := by
  refine (slots_any w v ps hv hm).mono ?_
  rintro e w' ⟨⟨u, rfl, hu⟩, hb⟩
  exact ⟨u, rfl, OffRow.own hu, hb⟩
theorem Lt.lots_len (ps : List Tri) : (Lt.lots ps).length ≤ 1048576 := by
  unfold Lt.lots
  split
  · next h =>
    have G := (Lt.good (Lt.tones h) ps.length (Nat.le_refl _)).len
    rw [List.take_of_length_le (Nat.le_refl _)] at G
    have := (Td.parts h).1
    omega
  · simp
end Go.Proofs.Ytkbojibgbmbmdaa
