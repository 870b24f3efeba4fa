/- The exact law of PeriodAt. -/
import Derived.Test.YtbihadelhknlnaaPat
import Derived.Test.YtbihadelhknlnaaSchT
import Derived.Test.YtbihadelhknlnaaInts
import Derived.Deep.Slices
import Derived.StillTailTactics
namespace Go.Proofs.Ytbihadelhknlnaa
open Go.RowKit
abbrev perV (p : Per) : Value := .agg #[.int .i64 p.1, .int .i64 p.2.1, .bool p.2.2]
def RPo (w : World) (v : Value) (ps : List Per) : Prop := (∃ a c, v = .slice a ps.length c) ∧ (0 < ps.length → ∃ b off c, v = .slice (some ⟨b, off, none⟩) ps.length c ∧ b < w.heap.size ∧ ∀ i, i < ps.length → w.cell? ⟨b, off + i * 3, none⟩ = some (.int .i64 (ps.getD i p0).1) ∧ w.cell? ⟨b, off + i * 3 + 1, none⟩ = some (.int .i64 (ps.getD i p0).2.1) ∧ w.cell? ⟨b, off + i * 3 + 2, none⟩ = some (.bool (ps.getD i p0).2.2))
theorem RPo.below {w w' : World} {v : Value} {ps : List Per} {B : Nat} (h : RPo w v ps) (hb : Below B w w') (hB : w.heap.size ≤ B) : RPo w' v ps := by
  refine ⟨h.1, fun hl => ?_⟩
  obtain ⟨b, off, c, e, hlt, hc⟩ := h.2 hl
  refine ⟨b, off, c, e, Nat.lt_of_lt_of_le hlt hb.size, fun i hi => ?_⟩
  obtain ⟨c0, c1, c2⟩ := hc i hi
  exact ⟨(hb.cell (p := ⟨b, off + i * 3, none⟩) (by show b < B; omega)).trans c0, (hb.cell (p := ⟨b, off + i * 3 + 1, none⟩) (by show b < B; omega)).trans c1, (hb.cell (p := ⟨b, off + i * 3 + 2, none⟩) (by show b < B; omega)).trans c2⟩
theorem made_pers (n : Nat) : (madeCells (Value.agg #[.int .i64 0, .int .i64 0, .bool false]).cells (n * 3)).toList = (List.replicate n p0).flatMap pc := by
  show (madeCells #[.int .i64 0, .int .i64 0, .bool false] (n * 3)).toList = _
  refine List.ext_getElem? fun i => ?_
  rcases Nat.lt_or_ge i (n * 3) with hi | hi
  · have h1 : (List.replicate n p0).flatMap pc = (List.replicate n p0).flatMap pc := rfl
    have h2 := flat_at 3 pc pc_len p0 (List.replicate n p0) (i / 3) (i % 3) (by rw [List.length_replicate]; omega) (by omega)
    rw [show 3 * (i / 3) + i % 3 = i by omega] at h2
    rw [h2]
    have h3 : (List.replicate n p0).getD (i / 3) p0 = p0 := by
      rw [List.getD_eq_getElem?_getD, List.getElem?_replicate, if_pos (by omega)]; rfl
    rw [h3]
    have : i % 3 = 0 ∨ i % 3 = 1 ∨ i % 3 = 2 := by omega
    rcases this with c | c | c <;> simp [madeCells, pc, p0, c, hi]
  · rw [List.getElem?_eq_none (by simp [madeCells]; omega), List.getElem?_eq_none (by rw [flat_len 3 pc pc_len, List.length_replicate]; exact hi)]
theorem copy_per {ps : List Per} {k : Nat} (hk : k < ps.length) : (ps.take k ++ List.replicate (ps.length - k) p0).set k (ps.getD k p0) = ps.take (k + 1) ++ List.replicate (ps.length - (k + 1)) p0 := by
  obtain ⟨m, hm⟩ : ∃ m, ps.length - k = m + 1 := ⟨ps.length - k - 1, by omega⟩
  have hs : ps.take (k + 1) = ps.take k ++ [ps.getD k p0] := by
    rw [List.take_add_one, List.getD_eq_getElem?_getD, List.getElem?_eq_getElem hk]; rfl
  rw [hm, show ps.length - (k + 1) = m by omega, List.replicate_succ, hs, List.set_append_right _ _ (by simp; omega)]
  simp [Nat.min_eq_left (Nat.le_of_lt hk)]

theorem infoPeriod : (Try.prog.info? 33).map (fun i => (i.zero, i.size, i.bytes)) = some (some (.agg #[.int .i64 0, .int .i64 0, .bool false]), 3, 24) := by kernel_rfl
theorem infoPartsPeriod : ∃ i : TypeInfo, Try.prog.info? 33 = some i ∧ i.zero = some (.agg #[.int .i64 0, .int .i64 0, .bool false]) ∧ i.size = 3 ∧ i.bytes = 24 := by
  have h := infoPeriod
  cases e : Try.prog.info? 33 with
  | none => rw [e] at h; cases h
  | some i =>
    rw [e] at h
    simp only [Option.map_some, Option.some.injEq, Prod.mk.injEq] at h
    exact ⟨i, rfl, h.1, h.2.1, h.2.2⟩
set_option maxHeartbeats 400000 in
theorem toPeriod_any (p : Per) (w : World) :
    Calls Try.prog 11 #[perV p] w fun e w' => e = .returned (perV p) ∧ Below w.heap.size w w' := by
  obtain ⟨x, y, z⟩ := p
  go_enter Try.func11, Try.ntmps11
  go_wp2
  refine bodyPost_ret (v := perV (x, y, z)) (by simp [results, Try.results11, go_sem]) rfl ⟨rfl, ?_⟩
  repeat (refine Below.setCell ?_ (by simp <;> omega) _)
  exact (((Below.refl _ _).alloc (Nat.le_refl _) _).alloc (by simp) _).alloc (by simp; omega) _
set_option maxHeartbeats 400000 in
theorem szPeriodS_any (v : Value) (ps : List Per) (left : Int) (w : World) (hv : RPo w v ps) (hm : ps.length ≤ 9223372036854775807) (h0 : 0 ≤ left) (h1 : left ≤ 1048576) :
    Calls Try.prog 5 #[v, .int .i64 left] w fun e w' => e = .returned (.int .i64 (if left < ps.length then -1 else left - (ps.length : Int))) ∧ w = w' := by
  obtain ⟨⟨a, c, rfl⟩, -⟩ := hv
  by_cases hl : left < ps.length
  · have hl' : left - (ps.length : Int) < 0 := by omega
    go_enter Try.func5, Try.ntmps5
    go_wp2_with fail
    go_ret
    exact ⟨rfl, rfl⟩
  · have hl' : ¬ left - (ps.length : Int) < 0 := by omega
    go_enter Try.func5, Try.ntmps5
    go_wp2_with fail
    go_ret
    exact ⟨rfl, rfl⟩
/-- A copy in memory of the call's own. -/
def CopyPeriod (ps : List Per) (w : World) (e : Ending) (w' : World) : Prop := ∃ v, e = .returned v ∧ PRow w' w.heap.size v ps ∧ (∃ b, v = .slice (some ⟨b, 0, none⟩) ps.length ps.length) ∧ Below w.heap.size w w'
set_option maxHeartbeats 2000000 in
theorem toPeriodS_any (w : World) (v : Value) (ps : List Per) (hv : RPo w v ps) (hl : ps.length ≤ 1048576) :
    Calls Try.prog 7 #[v] w (CopyPeriod ps w) := by
  obtain ⟨⟨a, cap, rfl⟩, h1⟩ := hv
  have H := Lib.hid h1; clear h1
  have hm : (ps.length : Int) ≤ 1048576 := by omega
  obtain ⟨i0, hi, hz0, hz1, hz2⟩ := infoPartsPeriod
  go_enter Try.func7, Try.ntmps7
  go_wp2_with (at_make; refine wpList_make_full _ rfl _ _ 25 rfl w.heap.size 33 i0 (.agg #[.int .i64 0, .int .i64 0, .bool false]) 3 Try.underlying25 hi hz0 hz1 .i64 .i64 _ _ ps.length rfl rfl rfl rfl (by rw [hz2]; omega) (by unfold maxLen; omega) (by omega) ?_; intro w1 hown hgrow)
  rw [made_pers] at hown
  have hb1 : Below w.heap.size w w1 := (Below.refl _ _).grown hgrow (Nat.le_refl _) (fun j hj => by cases hj)
  have HO : Hid (PRow w1 w.heap.size (.slice (some ⟨w.heap.size, 0, none⟩) (ps.take 0 ++ List.replicate (ps.length - 0) p0).length ps.length) (ps.take 0 ++ List.replicate (ps.length - 0) p0)) := Lib.hid (by unfold PRow; simpa using hown)
  clear hown hgrow
  go_loopw [4] (fun i wr => ∃ k : Nat, k ≤ ps.length ∧ i = .int .i64 k ∧ Hid (PRow wr w.heap.size (.slice (some ⟨w.heap.size, 0, none⟩) (ps.take k ++ List.replicate (ps.length - k) p0).length ps.length) (ps.take k ++ List.replicate (ps.length - k) p0)) ∧ Below w.heap.size w wr) (fun i _ => ps.length - (intOf i).toNat)
  case atStart => exact ⟨0, Nat.zero_le _, rfl, HO, hb1⟩
  case round =>
    obtain ⟨k, hk, rfl, HK, hb⟩ := hrel
    by_cases hlt : k < ps.length
    · obtain ⟨b, off, c, e, hbb, hc⟩ := H.out (by omega)
      simp only [Value.slice.injEq, true_and] at e
      obtain ⟨rfl, rfl⟩ := e
      obtain ⟨c0, c1, c2⟩ := hc k hlt
      replace c0 := (hb.cell (p := ⟨b, off + k * 3, none⟩) hbb).trans c0
      replace c1 := (hb.cell (p := ⟨b, off + k * 3 + 1, none⟩) hbb).trans c1
      replace c2 := (hb.cell (p := ⟨b, off + k * 3 + 2, none⟩) hbb).trans c2
      clear hc
      obtain ⟨x, hx⟩ : ∃ x, x = ps.getD k p0 := ⟨_, rfl⟩
      rw [← hx] at c0 c1 c2
      have HX := Lib.hid hx; clear hx
      obtain ⟨x0, x1, x2⟩ := x
      simp only at c0 c1 c2
      have hlen : (ps.take k ++ List.replicate (ps.length - k) p0).length = ps.length := by simp; omega
      go_wp2_with fail
      refine (toPeriod_any (x0, x1, x2) _).mono ?_
      rintro e w2 ⟨rfl, hb2⟩
      have hsz := hb.size
      have HK2 := Lib.hid (HK.out.below hb2 (Nat.le_refl _))
      have hb3 := hb.trans (hb2.mono hsz)
      clear hb2 c0 c1 c2
      obtain ⟨b4, cap4, e4, -, hbl4, -, hc4, hf4⟩ := HK2.out.form (by rw [hlen]; omega)
      simp only [Value.slice.injEq, true_and, Option.some.injEq, Addr.mk.injEq, and_true] at e4
      obtain ⟨rfl, -⟩ := e4
      obtain ⟨d0, d1, d2⟩ := hc4 k (by rw [hlen]; exact hlt)
      have g0 := hf4 (k * 3)
      have g1 := hf4 (k * 3 + 1)
      have g2 := hf4 (k * 3 + 2)
      clear hc4 hf4
      have HS := Lib.hid (HK2.out.store k (by rw [hlen]; exact hlt) x0 x1 x2)
      generalize List.getD (ps.take k ++ List.replicate (ps.length - k) p0) k p0 = y at d0 d1 d2
      go_wp2_with fail
      go_roundw
      case rel =>
        refine ⟨k + 1, by omega, by go_num, ?_, ((hb3.setCell (Nat.le_refl _) _).setCell (Nat.le_refl _) _).setCell (Nat.le_refl _) _⟩
        have := HS.out.1
        rw [HX.out, copy_per hlt] at this
        exact Lib.hid this
      case measure => simp [intOf]; omega
    · have HO2 := HK
      go_wp2_with fail
      go_ret
      have := HO2.out
      rw [List.take_of_length_le (by omega), show ps.length - k = 0 by omega] at this
      simp only [List.replicate_zero, List.append_nil] at this
      exact ⟨_, rfl, this, ⟨_, rfl⟩, hb⟩

set_option maxRecDepth 8000 in
set_option maxHeartbeats 2000000 in
theorem eqPS_big (w : World) (v u : Value) (ps : List Per) (hv : Rd w v ps) (hu : Rd w u ps) (hm : ps.length ≤ 1048576) :
    Calls Try.prog 9 #[v, u] w fun e w' => e = .returned (.bool true) ∧ Below w.heap.size w w' := by
  obtain ⟨⟨a, c, rfl⟩, h1⟩ := hv
  obtain ⟨⟨a', c', rfl⟩, h2⟩ := hu
  have H1 := Lib.hid h1; clear h1
  have H2 := Lib.hid h2; clear h2
  obtain ⟨n, hn⟩ : ∃ n, n = ps.length := ⟨_, rfl⟩
  rw [← hn] at hm ⊢
  have HN := Lib.hid hn; clear hn
  go_enter Try.func9, Try.ntmps9
  go_wp2_with fail
  go_loopw [5] (fun x wr => ∃ i : Nat, i ≤ n ∧ x = .int .i64 i ∧ Below w.heap.size w wr) (fun x _ => n - (intOf x).toNat)
  case atStart => exact ⟨0, Nat.zero_le _, rfl, Below.refl _ _⟩
  case round =>
    obtain ⟨i, hi, rfl, hb⟩ := hrel
    by_cases hlt : i < n
    · obtain ⟨b, d, e, hbl, hc⟩ := H1.out (by rw [← HN.out]; omega)
      obtain ⟨b', d', e', hbl', hc'⟩ := H2.out (by rw [← HN.out]; omega)
      rw [← HN.out] at e e'
      simp only [Value.slice.injEq, true_and] at e e'
      obtain ⟨rfl, rfl⟩ := e
      obtain ⟨rfl, rfl⟩ := e'
      obtain ⟨c0, c1, c2⟩ := hc i (by rw [← HN.out]; exact hlt)
      obtain ⟨g0, g1, g2⟩ := hc' i (by rw [← HN.out]; exact hlt)
      replace c0 := (hb.cell (p := ⟨b, i * 3, none⟩) hbl).trans c0
      replace c1 := (hb.cell (p := ⟨b, i * 3 + 1, none⟩) hbl).trans c1
      replace c2 := (hb.cell (p := ⟨b, i * 3 + 2, none⟩) hbl).trans c2
      replace g0 := (hb.cell (p := ⟨b', i * 3, none⟩) hbl').trans g0
      replace g1 := (hb.cell (p := ⟨b', i * 3 + 1, none⟩) hbl').trans g1
      replace g2 := (hb.cell (p := ⟨b', i * 3 + 2, none⟩) hbl').trans g2
      clear hc hc'
      obtain ⟨p, hp⟩ : ∃ p, p = ps.getD i p0 := ⟨_, rfl⟩
      rw [← hp] at c0 c1 c2 g0 g1 g2
      clear hp
      have hE := Lib.hid (eqPeriod_same p)
      have hsz := hb.size
      go_wp2_with fail
      refine still_tail 8 (by kernel_rfl) (by kernel_rfl) ?_
      simp only [List.take_succ_cons, List.take_zero, List.drop_succ_cons, List.drop_zero]
      repeat still_step
      refine wpStill_nil ?_
      go_wp2_with fail
      refine (hE.out _).mono ?_
      rintro e w2 ⟨rfl, hb2⟩
      go_wp2_with fail
      go_roundw
      case rel => exact ⟨i + 1, by omega, by go_num, hb.drew.trans (hb2.mono hsz)⟩
      case measure => simp [intOf]; omega
    · obtain rfl : i = n := by omega
      go_wp2_with fail
      go_ret
      exact ⟨rfl, hb⟩

theorem perAtS_any (w : World) (v : Value) (ps : List Per) (d : Int) (hv : Rd w v ps) (hm : ps.length ≤ 100000000) :
    Calls Try.prog 6 #[v, .int .i64 d] w fun x w' => x = .returned (.int .i64 (patV ps d)) ∧ Below w.heap.size w w' := by
  refine (sPeriodAt_any w v ps d hv hm).mono ?_
  rintro x w' ⟨rfl, rfl⟩
  exact ⟨rfl, Below.refl _ _⟩
set_option maxRecDepth 8000 in
set_option maxHeartbeats 8000000 in
theorem exPeriodAt (a0 : Option Addr) (len0 cap0 : Nat) (L0 : List Per) (d : Int) (w : World) (hv0 : RPo w (.slice a0 len0 cap0) L0) (hlen0 : L0.length = len0) (hmax0 : len0 ≤ maxLen) :
    Calls Try.prog 3 #[.slice a0 len0 cap0, .int .i64 d] w fun e w' => e = .returned (.bool true) ∧ Below w.heap.size w w' := by
  subst hlen0
  have HV0 := Lib.hid hv0; clear hv0
  replace hmax0 : L0.length ≤ 9223372036854775807 := by unfold maxLen at hmax0; omega
  by_cases hbig0 : (1048576 : Int) < (L0.length : Int)
  · have E0 := Lib.hid (show (if (1048576 : Int) < (L0.length : Int) then -1 else (1048576 : Int) - (L0.length : Int)) = -1 from if_pos hbig0)
    go_enter Try.func3, Try.ntmps3
    go_wp2_with fail
    refine (szPeriodS_any _ _ _ _ HV0.out hmax0 (by omega) (by omega)).mono ?_
    rw [E0.out]
    rintro e w1 ⟨rfl, rfl⟩
    go_wp2_with fail
    go_ret
    exact ⟨rfl, Below.refl _ _⟩
  have E0 := Lib.hid (show (if (1048576 : Int) < (L0.length : Int) then -1 else (1048576 : Int) - (L0.length : Int)) = (1048576 : Int) - (L0.length : Int) from if_neg hbig0)
  have hl0 : L0.length ≤ 1048576 := by omega
  have hn0 : ¬ (1048576 : Int) - (L0.length : Int) < 0 := by omega
  have hvne : (patV L0 d != patV L0 d) = false := by simp
  go_enter Try.func3, Try.ntmps3
  go_wp2_with fail
  refine (szPeriodS_any _ _ _ _ HV0.out hmax0 (by omega) (by omega)).mono ?_
  rw [E0.out]
  rintro e w1 ⟨rfl, rfl⟩
  go_wp2_with fail
  refine (toPeriodS_any _ _ _ HV0.out hl0).mono ?_
  rintro e W1 ⟨v2, rfl, h2, ⟨bZ0, rfl⟩, hb2⟩
  have BZ0 := Lib.hid (show ∀ j, (Value.slice (some ⟨bZ0, 0, none⟩) L0.length L0.length).ownBlock = some j → w.heap.size ≤ j ∧ j < W1.heap.size from fun j hj => World.ownsRow.lt h2 j hj)
  have SZ0 := Lib.hid (hb2.size)
  have HB := Lib.hid hb2
  have Z0 := Lib.hid h2; clear h2 hb2
  go_wp2_with fail
  refine (perAtS_any _ _ _ d Z0.out.rd (by omega)).mono ?_
  rintro e W2 ⟨rfl, hb2⟩
  replace Z0 := Lib.hid (Z0.out.below hb2 (Nat.le_refl _))
  replace HB := Lib.hid (HB.out.trans (hb2.mono HB.out.size))
  clear hb2
  go_wp2_with fail
  clear Z0
  refine (toPeriodS_any _ _ _ (HV0.out.below HB.out (Nat.le_refl _)) hl0).mono ?_
  rintro e W3 ⟨v2, rfl, h2, ⟨bX0, rfl⟩, hb2⟩
  have BX0 := Lib.hid (show ∀ j, (Value.slice (some ⟨bX0, 0, none⟩) L0.length L0.length).ownBlock = some j → W2.heap.size ≤ j ∧ j < W3.heap.size from fun j hj => World.ownsRow.lt h2 j hj)
  have SX0 := Lib.hid (hb2.size)
  replace HB := Lib.hid (HB.out.trans (hb2.mono HB.out.size))
  have X0 := Lib.hid h2; clear h2 hb2
  go_wp2_with fail
  refine (periodAt_any _ _ _ d X0.out.rd (by omega)).mono ?_
  rintro e W4 ⟨rfl, hb2⟩
  replace X0 := Lib.hid (X0.out.below hb2 (Nat.le_refl _))
  replace HB := Lib.hid (HB.out.trans (hb2.mono HB.out.size))
  clear hb2
  go_wp2_with fail
  refine (toPeriodS_any _ _ _ (HV0.out.below HB.out (Nat.le_refl _)) hl0).mono ?_
  rintro e W5 ⟨v2, rfl, h2, ⟨bY0, rfl⟩, hb2⟩
  have BY0 := Lib.hid (show ∀ j, (Value.slice (some ⟨bY0, 0, none⟩) L0.length L0.length).ownBlock = some j → W4.heap.size ≤ j ∧ j < W5.heap.size from fun j hj => World.ownsRow.lt h2 j hj)
  have SY0 := Lib.hid (hb2.size)
  replace X0 := Lib.hid (X0.out.below hb2 (Nat.le_refl _))
  replace HB := Lib.hid (HB.out.trans (hb2.mono HB.out.size))
  have Y0 := Lib.hid h2; clear h2 hb2
  go_wp2_with fail
  refine (eqPS_big _ _ _ _ X0.out.rd Y0.out.rd hl0).mono ?_
  rintro e W6 ⟨rfl, hb2⟩
  replace X0 := Lib.hid (X0.out.below hb2 (Nat.le_refl _))
  replace Y0 := Lib.hid (Y0.out.below hb2 (Nat.le_refl _))
  replace HB := Lib.hid (HB.out.trans (hb2.mono HB.out.size))
  clear hb2
  clear Y0
  go_wp2_with fail
  go_ret
  exact ⟨rfl, HB.out⟩
end Go.Proofs.Ytbihadelhknlnaa
