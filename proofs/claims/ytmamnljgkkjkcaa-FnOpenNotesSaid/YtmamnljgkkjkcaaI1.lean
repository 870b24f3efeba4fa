/- Rows of numbers: read, compared, summed up, copied, marked. -/
import Derived.Test.YtmamnljgkkjkcaaAvB
import Derived.Test.YtmamnljgkkjkcaaOwn
import Derived.Test.YtmamnljgkkjkcaaKp
import Derived.StillTailTactics
namespace Go.Proofs.Ytmamnljgkkjkcaa
open Go.RowKit
/-- A slice of numbers in memory of the call's own; nil where there is none. -/
def IRow (w : World) (B : Nat) (v : Value) (xs : List Int) : Prop := w.ownsRow B 3 1 v xs.length (xs.map (Value.int .i64))
theorem Own.irow {w : World} {B : Nat} {v : Value} {xs : List Int} (h : Own w B v xs) : IRow w B v xs := h.1
theorem IRow.nil (w : World) (B : Nat) : IRow w B (.slice none 0 0) [] := World.ownsRow_nil w B _ 1
theorem IRow.kept {w w' : World} {B : Nat} {v : Value} {xs : List Int} {row : Option Nat} (h : IRow w B v xs) (hg : w.grownBy w' row) (hr : ∀ j, row = some j → j < B) : IRow w' B v xs :=
  World.ownsRow.kept h hg (by
    cases hb : v.ownBlock with
    | none => exact .inl rfl
    | some k => exact .inr fun e => by have := hr k e.symm; have := (World.ownsRow.lt h k hb).1; omega)
theorem IRow.keptBy {w w' : World} {B : Nat} {v : Value} {xs : List Int} {b : Nat} (h : IRow w B v xs) (hg : w.grownBy w' (some b)) (hr : ∀ j, v.ownBlock = some j → j ≠ b) : IRow w' B v xs :=
  World.ownsRow.kept h hg (by
    cases hb : v.ownBlock with
    | none => exact .inl rfl
    | some k => exact .inr fun e => by injection e with e; exact hr k hb e)
theorem IRow.below {w w' : World} {B C : Nat} {v : Value} {xs : List Int} (h : IRow w B v xs) (hb : Below C w w') (hC : w.heap.size ≤ C) : IRow w' B v xs :=
  World.ownsRow.kept h (row := none) ⟨hb.os, hb.tape, hb.output, hb.size, fun k hk _ => hb.block k (by omega)⟩ (by cases v.ownBlock <;> simp)
theorem IRow.alloc {w : World} {B : Nat} {v : Value} {xs : List Int} (h : IRow w B v xs) (o : Obj) : IRow (w.alloc o) B v xs := World.ownsRow.alloc h o
theorem IRow.drewN {w : World} {B : Nat} {v : Value} {xs : List Int} (h : IRow w B v xs) (n : Nat) : IRow (w.drewN n) B v xs := h
theorem IRow.lower {w : World} {B C : Nat} {v : Value} {xs : List Int} (h : IRow w B v xs) (hC : C ≤ B) : IRow w C v xs := by
  obtain ⟨h1, h2⟩ := h
  refine ⟨h1, ?_⟩
  rcases h2 with h2 | ⟨g, cap, cur, e, hb, rest⟩
  · exact .inl h2
  · exact .inr ⟨g, cap, cur, e, Nat.le_trans hC hb, rest⟩
theorem IRow.form {w : World} {B : Nat} {v : Value} {xs : List Int} (h : IRow w B v xs) (hl : 0 < xs.length) :
    ∃ b cap, v = .slice (some ⟨b, 0, none⟩) xs.length cap ∧ B ≤ b ∧ b < w.heap.size ∧ (xs.length ≤ cap ∧ cap ≤ maxLen) ∧
      (∀ i, i < xs.length → w.cell? ⟨b, i, none⟩ = some (.int .i64 (xs.getD i 0))) ∧ (∀ i, w.frozen? ⟨b, i, none⟩ = false) := by
  have h0 := h
  rcases h.2 with ⟨_, h3⟩ | ⟨b, cap, cur, rfl, hb, hblk, hc1, hc2, _⟩
  · omega
  · refine ⟨b, cap, rfl, hb, (World.ownsRow.lt h0 b rfl).2, ⟨hc1, hc2⟩, fun i hi => ?_, fun i => World.ownsRow.frozenAt h0 i⟩
    rw [World.ownsRow.cellAt h0 i (by omega), List.getElem?_map, List.getElem?_eq_getElem hi, List.getD_eq_getElem?_getD, List.getElem?_eq_getElem hi]
    rfl
theorem IRow.slice {w : World} {B : Nat} {v : Value} {xs : List Int} (h : IRow w B v xs) : ∃ a c, v = .slice a xs.length c := by
  rcases h.2 with ⟨rfl, h3⟩ | ⟨b, cap, cur, rfl, _⟩
  · exact ⟨none, 0, by rw [h3]⟩
  · exact ⟨_, _, rfl⟩
theorem IRow.r1 {w : World} {B : Nat} {v : Value} {xs : List Int} (h : IRow w B v xs) : R1o w v xs := by
  refine ⟨h.slice, fun hl => ?_⟩
  obtain ⟨b, cap, e, _, hlt, _, hc, _⟩ := h.form hl
  exact ⟨b, 0, cap, e, hlt, fun i hi => by simpa using hc i hi⟩
theorem IRow.store {w : World} {B b cap : Nat} {xs : List Int} (h : IRow w B (.slice (some ⟨b, 0, none⟩) xs.length cap) xs) (i : Nat) (x : Int) :
    IRow (w.setCell ⟨b, i, none⟩ (.int .i64 x)) B (.slice (some ⟨b, 0, none⟩) (xs.set i x).length cap) (xs.set i x) ∧ w.grownBy (w.setCell ⟨b, i, none⟩ (.int .i64 x)) (some b) := by
  have h1 := World.ownsRow.stored h i (.int .i64 x)
  refine ⟨?_, h1.2⟩
  unfold IRow
  rw [List.map_set, List.length_set]
  exact h1.1
theorem R1o.drewN {w : World} {v : Value} {xs : List Int} (h : R1o w v xs) (n : Nat) : R1o (w.drewN n) v xs := h
theorem belowD {B : Nat} {a w : World} (h : Below B a w) (n : Nat) : Below B a (w.drewN n) := ⟨h.os, h.tape, h.output, h.size, h.block⟩
/-- A slice of numbers from outside. -/
theorem r1_of_row {w : World} {a : Option Addr} {len cap : Nat} {zs : List Int} (h : IsRow .i64 w a len cap zs) : (zs.take len).length = len ∧ R1o w (.slice a len cap) (zs.take len) := by
  rcases h with ⟨rfl, rfl, rfl, rfl⟩ | ⟨x, rfl, h1, h2, h3, h4, h5⟩
  · exact ⟨rfl, ⟨_, _, rfl⟩, fun hl => by simp at hl⟩
  · have hlen : (zs.take len).length = len := by simp; omega
    refine ⟨hlen, ⟨_, _, by rw [hlen]⟩, fun hl => ?_⟩
    have hc := h4 0 (by omega)
    obtain ⟨b, off, spot⟩ := x
    have hspot : spot = none := by simpa [Addr.add] using World.cell?_spot hc
    subst hspot
    have hb : b < w.heap.size := by
      rcases Nat.lt_or_ge b w.heap.size with hlt | hge
      · exact hlt
      · simp [World.cell?, Addr.add, Array.getElem?_eq_none hge] at hc
    refine ⟨b, off, cap, by rw [hlen], hb, fun i hi => ?_⟩
    have hi' := h4 i (by omega)
    have e : (Addr.add ⟨b, off, none⟩ i : Addr) = ⟨b, off + i, none⟩ := by unfold Addr.add; split <;> simp_all
    rw [e] at hi'
    rw [hi']
    simp [List.getD_eq_getElem?_getD, show i < len by omega]
theorem made_ints1 (n : Nat) : (madeCells (Value.int .i64 0).cells (n * 1)).toList = (List.replicate n (0 : Int)).map (Value.int .i64) := by
  rw [Nat.mul_one]
  show (madeCells #[.int .i64 0] n).toList = _
  rw [toList_madeCells_one]; simp
theorem take_snoc1 {xs : List Int} {k : Nat} (hk : k < xs.length) : xs.take (k + 1) = xs.take k ++ [xs.getD k 0] := by
  rw [List.take_add_one, List.getD_eq_getElem?_getD, List.getElem?_eq_getElem hk]; rfl
theorem copy_int {xs : List Int} {k : Nat} (hk : k < xs.length) : (xs.take k ++ List.replicate (xs.length - k) 0).set k (xs.getD k 0) = xs.take (k + 1) ++ List.replicate (xs.length - (k + 1)) 0 := by
  obtain ⟨m, hm⟩ : ∃ m, xs.length - k = m + 1 := ⟨xs.length - k - 1, by omega⟩
  rw [hm, show xs.length - (k + 1) = m by omega, List.replicate_succ, take_snoc1 hk, List.set_append_right _ _ (by simp; omega)]
  simp [Nat.min_eq_left (Nat.le_of_lt hk)]
set_option maxHeartbeats 800000 in
theorem eqi_same (w : World) (v u : Value) (xs : List Int) (hv : R1o w v xs) (hu : R1o w u xs) (hl : xs.length ≤ 1048576) :
    Calls Try.prog 45 #[v, u] w fun e w' => e = .returned (.bool true) ∧ Below w.heap.size w w' := by
  obtain ⟨⟨a, cap, rfl⟩, h1⟩ := hv
  obtain ⟨⟨a2, cap2, rfl⟩, h2⟩ := hu
  have H := Lib.hid h1; clear h1
  have H2 := Lib.hid h2; clear h2
  have hm : (xs.length : Int) ≤ 1048576 := by omega
  have hne : ((xs.length : Int) != (xs.length : Int)) = false := by simp
  go_enter Try.func45, Try.ntmps45
  go_wp2_with fail
  go_loopw [5] (fun i wr => ∃ k : Nat, k ≤ xs.length ∧ i = .int .i64 k ∧ ∃ m, wr = w.drewN m) (fun i _ => xs.length - (intOf i).toNat)
  case atStart => exact ⟨0, Nat.zero_le _, rfl, 0, rfl⟩
  case round =>
    obtain ⟨k, hk, rfl, m, rfl⟩ := hrel
    by_cases hlt : k < xs.length
    · obtain ⟨b, off, c, e, _, hc⟩ := H.out (by omega)
      simp only [Value.slice.injEq, true_and] at e
      obtain ⟨rfl, rfl⟩ := e
      obtain ⟨b2, off2, c2, e2, _, hc2⟩ := H2.out (by omega)
      simp only [Value.slice.injEq, true_and] at e2
      obtain ⟨rfl, rfl⟩ := e2
      have hck := hc k hlt
      have hck2 := hc2 k hlt
      clear hc hc2
      obtain ⟨x, hx⟩ : ∃ x, x = xs.getD k 0 := ⟨_, rfl⟩
      rw [← hx] at hck hck2
      have hx2 : (x != x) = false := by simp
      clear hx
      go_wp2_with fail
      go_quiet (fail)
      go_wp2_with fail
      go_roundw
      case rel => exact ⟨k + 1, by omega, by go_num, _, (by first | exact World.drewN_drewN _ _ _ | rfl)⟩
      case measure => simp [intOf]; omega
    · go_wp2_with fail
      go_ret
      exact ⟨rfl, belowD (Below.refl _ _) _⟩
set_option maxHeartbeats 800000 in
theorem equ_same (w : World) (v u : Value) (xs : List Int) (hv : R1o w v xs) (hu : R1o w u xs) (hl : xs.length ≤ 1048576) :
    Calls Try.prog 26 #[v, u] w fun e w' => e = .returned (.bool true) ∧ Below w.heap.size w w' := by
  obtain ⟨⟨a, cap, rfl⟩, h1⟩ := hv
  obtain ⟨⟨a2, cap2, rfl⟩, h2⟩ := hu
  have H := Lib.hid h1; clear h1
  have H2 := Lib.hid h2; clear h2
  have hm : (xs.length : Int) ≤ 1048576 := by omega
  have hne : ((xs.length : Int) != (xs.length : Int)) = false := by simp
  go_enter Try.func26, Try.ntmps26
  go_wp2_with fail
  go_loopw [5] (fun i wr => ∃ k : Nat, k ≤ xs.length ∧ i = .int .i64 k ∧ ∃ m, wr = w.drewN m) (fun i _ => xs.length - (intOf i).toNat)
  case atStart => exact ⟨0, Nat.zero_le _, rfl, 0, rfl⟩
  case round =>
    obtain ⟨k, hk, rfl, m, rfl⟩ := hrel
    by_cases hlt : k < xs.length
    · obtain ⟨b, off, c, e, _, hc⟩ := H.out (by omega)
      simp only [Value.slice.injEq, true_and] at e
      obtain ⟨rfl, rfl⟩ := e
      obtain ⟨b2, off2, c2, e2, _, hc2⟩ := H2.out (by omega)
      simp only [Value.slice.injEq, true_and] at e2
      obtain ⟨rfl, rfl⟩ := e2
      have hck := hc k hlt
      have hck2 := hc2 k hlt
      clear hc hc2
      obtain ⟨x, hx⟩ : ∃ x, x = xs.getD k 0 := ⟨_, rfl⟩
      rw [← hx] at hck hck2
      have hx2 : (x != x) = false := by simp
      clear hx
      go_wp2_with fail
      go_quiet (fail)
      go_wp2_with fail
      go_roundw
      case rel => exact ⟨k + 1, by omega, by go_num, _, (by first | exact World.drewN_drewN _ _ _ | rfl)⟩
      case measure => simp [intOf]; omega
    · go_wp2_with fail
      go_ret
      exact ⟨rfl, belowD (Below.refl _ _) _⟩
def MkI (xs : List Int) (m : Int) (k : Nat) : Prop := ∀ i, i < k → xs.getD i 0 = m + i
/-- Marks laid into a row of the call's own. -/
def MarkedI (w : World) (B : Nat) (v : Value) (n : Nat) (m : Int) (e : Ending) (w' : World) : Prop :=
  ∃ ys, e = .returned (.int .i64 (m + n)) ∧ ys.length = n ∧ IRow w' B v ys ∧ MkI ys m n ∧ w.grownBy w' v.ownBlock
theorem grown_refl0 (w : World) (r : Option Nat) : w.grownBy w r := ⟨rfl, rfl, rfl, Nat.le_refl _, fun _ _ _ => rfl⟩
theorem grown_trans0 {a b c : World} {r : Option Nat} (h : a.grownBy b r) (k : b.grownBy c r) : a.grownBy c r :=
  ⟨k.os.trans h.os, k.tape.trans h.tape, k.output.trans h.output, Nat.le_trans h.size k.size, fun i hi hne => (k.block i (Nat.lt_of_lt_of_le hi h.size) hne).trans (h.block i hi hne)⟩
set_option maxHeartbeats 1000000 in
theorem markI_any (w : World) (B : Nat) (v : Value) (xs : List Int) (m : Int) (hv : IRow w B v xs) (hl : xs.length ≤ 1048576) (m0 : 0 ≤ m) (m1 : m ≤ 10000000) :
    Calls Try.prog 48 #[v, .int .i64 m] w (MarkedI w B v xs.length m) := by
  have HV := Lib.hid hv
  obtain ⟨a, cap, rfl⟩ := hv.slice
  clear hv
  have hm : (xs.length : Int) ≤ 1048576 := by omega
  obtain ⟨n, hn⟩ : ∃ n, n = xs.length := ⟨_, rfl⟩
  rw [← hn] at hl hm HV ⊢
  go_enter Try.func48, Try.ntmps48
  go_wp2_with fail
  go_loopw [1, 5] (fun o y wr => ∃ (k : Nat) (ys : List Int), k ≤ n ∧ y = .int .i64 k ∧ o = .int .i64 (m + k) ∧ Hid (ys.length = n) ∧ Hid (IRow wr B (.slice a n cap) ys) ∧ Hid (MkI ys m k) ∧ Hid (w.grownBy wr (Value.slice a n cap).ownBlock)) (fun _ y _ => n - (intOf y).toNat)
  case atStart => exact ⟨0, xs, Nat.zero_le _, rfl, by go_num, Lib.hid hn.symm, HV, Lib.hid (fun i hi => by omega), Lib.hid (grown_refl0 _ _)⟩
  case round =>
    obtain ⟨k, ys, hk, rfl, rfl, HL, HF, HM, HG⟩ := hrel
    by_cases hlt : k < n
    · obtain ⟨b, cap4, e4, -, hbl4, -, hc4, hf4⟩ := HF.out.form (by rw [HL.out]; omega)
      rw [HL.out] at e4
      simp only [Value.slice.injEq, true_and] at e4
      obtain ⟨rfl, rfl⟩ := e4
      have d0 := hc4 k (by rw [HL.out]; exact hlt)
      have g0 := hf4 k
      clear hc4 hf4
      have HF2 := HF
      rw [← HL.out] at HF2
      have HS := Lib.hid (HF2.out.store k (m + k))
      have hi : (k : Int) < n := by omega
      generalize ys.getD k 0 = y at d0
      go_wp2_with fail
      go_roundw
      case rel =>
        refine ⟨k + 1, ys.set k (m + k), by omega, by go_num, by go_num, Lib.hid (by rw [List.length_set]; exact HL.out), ?_, Lib.hid (fun i hi' => ?_), Lib.hid (grown_trans0 HG.out (by exact HS.out.2))⟩
        · have h := HS.out.1
          rw [List.length_set, HL.out] at h
          exact Lib.hid h
        · rw [List.getD_eq_getElem?_getD, List.getElem?_set]
          by_cases q : k = i
          · subst q; simp [show k < ys.length by rw [HL.out]; exact hlt]
          · rw [if_neg q, ← List.getD_eq_getElem?_getD]
            exact HM.out i (by omega)
      case measure => simp [intOf] <;> omega
    · obtain rfl : k = n := by omega
      go_wp2_with fail
      go_ret
      exact ⟨ys, rfl, HL.out, HF.out, HM.out, HG.out⟩
set_option maxHeartbeats 1000000 in
theorem heldI_any (w : World) (v : Value) (xs : List Int) (m : Int) (hv : R1o w v xs) (hx : MkI xs m xs.length) (hl : xs.length ≤ 1048576) (m0 : 0 ≤ m) (m1 : m ≤ 10000000) :
    Calls Try.prog 49 #[v, .int .i64 m] w fun e w' => e = .returned (.int .i64 (m + xs.length)) ∧ w = w' := by
  obtain ⟨⟨a, cap, rfl⟩, h1⟩ := hv
  have H := Lib.hid h1; clear h1
  have HX := Lib.hid hx; clear hx
  have hm : (xs.length : Int) ≤ 1048576 := by omega
  go_enter Try.func49, Try.ntmps49
  go_wp2_with fail
  go_loop [1, 5] (fun o y => ∃ k : Nat, k ≤ xs.length ∧ y = .int .i64 k ∧ o = .int .i64 (m + k)) (fun _ y => xs.length - (intOf y).toNat)
  case atStart => exact ⟨0, Nat.zero_le _, rfl, by go_num⟩
  case round =>
    obtain ⟨k, hk, rfl, rfl⟩ := hrel
    by_cases hlt : k < xs.length
    · obtain ⟨b, off, c, e, hbb, hc⟩ := H.out (by omega)
      simp only [Value.slice.injEq, true_and] at e
      obtain ⟨rfl, rfl⟩ := e
      have c0 := hc k hlt
      clear hc
      rw [HX.out k hlt] at c0
      have hne : (m + (k : Int) != m + (k : Int)) = false := by simp
      go_wp2_with fail
      go_round
      case rel => exact ⟨k + 1, by omega, by go_num, by go_num⟩
      case measure => simp [intOf] <;> omega
    · obtain rfl : k = xs.length := by omega
      go_wp2_with fail
      go_ret
      exact ⟨rfl, rfl⟩
/-- A row of numbers that a call hands back. -/
def HandsI (xs : List Int) (w : World) (e : Ending) (w' : World) : Prop := ∃ v, e = .returned v ∧ IRow w' w.heap.size v xs ∧ Below w.heap.size w w'
end Go.Proofs.Ytmamnljgkkjkcaa
