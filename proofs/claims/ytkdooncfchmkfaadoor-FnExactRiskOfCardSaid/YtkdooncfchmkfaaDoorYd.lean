/- Yields: the program. -/
import Derived.Test.YtkdooncfchmkfaaDoorZP
import Derived.OwnWalk
import Derived.Deep.RegionHeld3
import Derived.Laws.EntriesVeiled
namespace Go.Proofs.YtkdooncfchmkfaaDoor
open Go.RowKit
theorem rgFld0 (u v : Int) (W : World) : (Instr.field 25 (rV u v) 0).run Tryd.prog W = .ok (.int .i64 u) W := by kernel_rfl
theorem rgFld1 (u v : Int) (W : World) : (Instr.field 25 (rV u v) 1).run Tryd.prog W = .ok (.int .i64 v) W := by kernel_rfl
/-- The search for the first index from which on P holds. -/
def Yd.IsK (P : Nat → Bool) (n k : Nat) : Prop := k ≤ n ∧ ∀ h, h < n → (P h = true ↔ k ≤ h)
theorem Yd.isL {p d x : Int} {am : List Int} (h : Pc.ok 0 p d = true) (ha : Pc.Am am) : Yd.IsK (Yd.PL p d am x) 41 (Yd.kl p d am x) := by
  refine ⟨Yd.first_le _ _, fun i hi => ⟨fun c => ?_, fun c => ?_⟩⟩
  · rcases Nat.lt_or_ge i (Yd.kl p d am x) with q | q
    · have := Yd.first_no _ _ _ q; rw [c] at this; cases this
    · exact q
  · have hy := of_decide_eq_true (Yd.first_yes (Yd.PL p d am x) 41 (by unfold Yd.kl at c; omega))
    have hd := (Yd.down h ha (i := Yd.first (Yd.PL p d am x) 41) (j := i) (by unfold Yd.kl at c; exact c) (by omega)).1
    unfold Yd.PL
    exact decide_eq_true (by omega)
theorem Yd.isM {p d x : Int} {am : List Int} (h : Pc.ok 0 p d = true) (ha : Pc.Am am) : Yd.IsK (Yd.PH p d am x) 41 (Yd.km p d am x) := by
  refine ⟨Yd.first_le _ _, fun i hi => ⟨fun c => ?_, fun c => ?_⟩⟩
  · rcases Nat.lt_or_ge i (Yd.km p d am x) with q | q
    · have := Yd.first_no _ _ _ q; rw [c] at this; cases this
    · exact q
  · have hy := of_decide_eq_true (Yd.first_yes (Yd.PH p d am x) 41 (by unfold Yd.km at c; omega))
    have hd := (Yd.down h ha (i := Yd.first (Yd.PH p d am x) 41) (j := i) (by unfold Yd.km at c; exact c) (by omega)).2
    unfold Yd.PH
    exact decide_eq_true (by omega)
set_option maxRecDepth 8000 in
set_option maxHeartbeats 2000000 in
theorem yclo1_any (ea : Addr) (i : Nat) (hi : i ≤ 40) (PB DB D R F : Nat) (d f t x : Int) (z : Bool) (am : List Int) (w : World) (hS : Sen ea w) (hP : Pr.At w D R F d f t z am) (hPB : w.cell? ⟨PB, 0, none⟩ = some (prV D R F)) (hDB : w.cell? ⟨DB, 0, none⟩ = some (.int .i64 x))
    (hok : Pc.ok 0 (d - f) (t - f) = true) (ha : Pc.Am am) (f0 : 0 ≤ f) (f1 : f ≤ d) (t1 : t ≤ 36524) :
    Calls Tryd.prog 28 #[.int .i64 i, .pointer (some ⟨PB, 0, none⟩), .pointer (some ⟨DB, 0, none⟩)] w fun e w' => e = .returned (.bool (Yd.PL (d - f) (t - f) am x i)) ∧ Below w.heap.size w w' := by
  have HPr := Lib.hid (fun W hS hP => pricing_any ea D R F d f t (2500 * (i : Int)) z am W hS hP (Yd.ok hok hi) ha f0 f1 t1)
  have HV := Lib.hid (show Yd.PL (d - f) (t - f) am x i = decide ((Pc.val (2500 * (i : Int)) (d - f) (t - f) am).1 < x) from rfl)
  rw [HV.out]
  generalize Pc.val (2500 * (i : Int)) (d - f) (t - f) am = V at *
  obtain ⟨u, v⟩ := V
  have HSd := Lib.hid hS.drew
  have HPd := Lib.hid hP.drew
  have K0 := Lib.hid (And.intro hPB hDB)
  have K1 := Lib.hid (show w.drew.cell? ⟨PB, 0, none⟩ = some (prV D R F) ∧ w.drew.cell? ⟨DB, 0, none⟩ = some (.int .i64 x) from K0.out)
  have HB0 := Lib.hid ((Below.refl w.heap.size w).drew)
  have HKb := Lib.hid (fun W (hW : Below w.drew.heap.size w.drew W) => (show W.cell? ⟨PB, 0, none⟩ = some (prV D R F) ∧ W.cell? ⟨DB, 0, none⟩ = some (.int .i64 x) from ⟨(hW.cell (p := ⟨PB, 0, none⟩) (World.block_lt_of_cell? w.drew _ K1.out.1)).trans K1.out.1, (hW.cell (p := ⟨DB, 0, none⟩) (World.block_lt_of_cell? w.drew _ K1.out.2)).trans K1.out.2⟩))
  clear HV hS hP hPB hDB hok ha f0 f1 t1
  have e1 : (i : Int) * 2500 = 2500 * (i : Int) := Int.mul_comm _ _
  have W1 : IntKind.i64.wrap ((i : Int) * 2500) = 2500 * (i : Int) := (IntWalk.i64_in _ (by omega)).trans e1
  clear e1
  have FL0 := rgFld0
  have FL1 := rgFld1
  go_enter Tryd.func28, Tryd.ntmps28
  go_wp2_with fail
  go_region_held3 (fun W => W.cell? ⟨PB, 0, none⟩ = some (prV D R F) ∧ W.cell? ⟨DB, 0, none⟩ = some (.int .i64 x)) (first | with_reducible exact K0.out | with_reducible exact K1.out | with_reducible exact K5.out) ((go_at_call 47; (with_reducible refine (HPr.out _ (by exact HSd.out) (by exact HPd.out)).mono ?_); rintro e w5 ⟨rfl, hb5⟩; have K5 := Lib.hid (HKb.out _ hb5)))
  have HB5 := Lib.hid (HB0.out.trans (hb5.mono HB0.out.size))
  go_wp2_with fail
  go_ret
  exact ⟨rfl, HB5.out⟩
set_option maxRecDepth 8000 in
set_option maxHeartbeats 2000000 in
theorem ysearch1_any (ea : Addr) (PB DB D R F : Nat) (d f t x : Int) (z : Bool) (am : List Int) (w : World) (hS : Sen ea w) (hP : Pr.At w D R F d f t z am) (hPB : w.cell? ⟨PB, 0, none⟩ = some (prV D R F)) (hDB : w.cell? ⟨DB, 0, none⟩ = some (.int .i64 x))
    (hok : Pc.ok 0 (d - f) (t - f) = true) (ha : Pc.Am am) (f0 : 0 ≤ f) (f1 : f ≤ d) (t1 : t ≤ 36524) :
    Calls Tryd.prog 27 #[.int .i64 41, .func (.func 28) #[] #[.pointer (some ⟨PB, 0, none⟩), .pointer (some ⟨DB, 0, none⟩)]] w fun e w' => e = .returned (.int .i64 (Yd.kl (d - f) (t - f) am x)) ∧ Below w.heap.size w w' := by
  obtain ⟨k1, k2⟩ := Yd.isL (x := x) hok ha
  generalize Yd.kl (d - f) (t - f) am x = k at *
  have HCl := Lib.hid (fun (h : Nat) (hh : h < 41) W (hW : Below w.heap.size w W) => yclo1_any ea h (by omega) PB DB D R F d f t x z am W (hS.below hW hS.pos) (hP.below hW (Nat.le_refl _)) ((hW.cell (p := ⟨PB, 0, none⟩) (World.block_lt_of_cell? w _ hPB)).trans hPB) ((hW.cell (p := ⟨DB, 0, none⟩) (World.block_lt_of_cell? w _ hDB)).trans hDB) hok ha f0 f1 t1)
  have HK := Lib.hid k2
  clear k2 hS hP hPB hDB hok ha f0 f1 t1
  generalize Yd.PL (d - f) (t - f) am x = P at *
  go_enter Tryd.func27, Tryd.ntmps27
  go_wp2_with fail
  go_loopw [5, 6] (fun x y wr => ∃ i j : Nat, i ≤ k ∧ k ≤ j ∧ j ≤ 41 ∧ x = .int .i64 i ∧ y = .int .i64 j ∧ Hid (Below w.heap.size w wr)) (fun x y _ => (intOf y - intOf x).toNat)
  case atStart => exact ⟨0, 41, by omega, k1, Nat.le_refl _, rfl, rfl, Lib.hid (Below.refl _ _)⟩
  case round =>
    obtain ⟨i, j, hi, hj, hjn, rfl, rfl, HB⟩ := hrel
    by_cases hlt : i < j
    · obtain ⟨h, eh, h1, h2⟩ : ∃ h : Nat, ((i : Int) + (j : Int)) / 2 = (h : Int) ∧ i ≤ h ∧ h < j := ⟨(i + j) / 2, by omega, by omega, by omega⟩
      have hq := HK.out h (by omega)
      have CL := Lib.hid (HCl.out h (by omega) wr HB.out)
      cases c : P h with
      | true =>
        have hkh := hq.1 c
        rw [c] at CL
        clear c hq
        go_wp2_with fail
        refine CL.out.mono ?_
        rintro e w1 ⟨rfl, hb1⟩
        have HB1 := Lib.hid (HB.out.trans (hb1.mono HB.out.size))
        clear hb1
        go_wp2_with fail
        go_roundw
        case rel => exact ⟨i, h, hi, hkh, by omega, rfl, rfl, HB1⟩
        case measure => simp [intOf]; omega
      | false =>
        have hkh : h < k := by
          rcases Nat.lt_or_ge h k with z | z
          · exact z
          · have := hq.2 z; rw [c] at this; cases this
        rw [c] at CL
        clear c hq
        go_wp2_with fail
        refine CL.out.mono ?_
        rintro e w1 ⟨rfl, hb1⟩
        have HB1 := Lib.hid (HB.out.trans (hb1.mono HB.out.size))
        clear hb1
        go_wp2_with fail
        go_roundw
        case rel => exact ⟨h + 1, j, by omega, hj, hjn, by simp, rfl, HB1⟩
        case measure => simp [intOf]; omega
    · have hd : decide ((i : Int) < (j : Int)) = false := decide_eq_false (by omega)
      obtain rfl : i = k := by omega
      go_wp2_with fail
      go_ret
      exact ⟨rfl, HB.out⟩
set_option maxRecDepth 8000 in
set_option maxHeartbeats 2000000 in
theorem yclo2_any (ea : Addr) (i : Nat) (hi : i ≤ 40) (PB DB D R F : Nat) (d f t x : Int) (z : Bool) (am : List Int) (w : World) (hS : Sen ea w) (hP : Pr.At w D R F d f t z am) (hPB : w.cell? ⟨PB, 0, none⟩ = some (prV D R F)) (hDB : w.cell? ⟨DB, 0, none⟩ = some (.int .i64 x))
    (hok : Pc.ok 0 (d - f) (t - f) = true) (ha : Pc.Am am) (f0 : 0 ≤ f) (f1 : f ≤ d) (t1 : t ≤ 36524) :
    Calls Tryd.prog 29 #[.int .i64 i, .pointer (some ⟨PB, 0, none⟩), .pointer (some ⟨DB, 0, none⟩)] w fun e w' => e = .returned (.bool (Yd.PH (d - f) (t - f) am x i)) ∧ Below w.heap.size w w' := by
  have HPr := Lib.hid (fun W hS hP => pricing_any ea D R F d f t (2500 * (i : Int)) z am W hS hP (Yd.ok hok hi) ha f0 f1 t1)
  have HV := Lib.hid (show Yd.PH (d - f) (t - f) am x i = decide ((Pc.val (2500 * (i : Int)) (d - f) (t - f) am).2 ≤ x) from rfl)
  rw [HV.out]
  generalize Pc.val (2500 * (i : Int)) (d - f) (t - f) am = V at *
  obtain ⟨u, v⟩ := V
  have HSd := Lib.hid hS.drew
  have HPd := Lib.hid hP.drew
  have K0 := Lib.hid (And.intro hPB hDB)
  have K1 := Lib.hid (show w.drew.cell? ⟨PB, 0, none⟩ = some (prV D R F) ∧ w.drew.cell? ⟨DB, 0, none⟩ = some (.int .i64 x) from K0.out)
  have HB0 := Lib.hid ((Below.refl w.heap.size w).drew)
  have HKb := Lib.hid (fun W (hW : Below w.drew.heap.size w.drew W) => (show W.cell? ⟨PB, 0, none⟩ = some (prV D R F) ∧ W.cell? ⟨DB, 0, none⟩ = some (.int .i64 x) from ⟨(hW.cell (p := ⟨PB, 0, none⟩) (World.block_lt_of_cell? w.drew _ K1.out.1)).trans K1.out.1, (hW.cell (p := ⟨DB, 0, none⟩) (World.block_lt_of_cell? w.drew _ K1.out.2)).trans K1.out.2⟩))
  clear HV hS hP hPB hDB hok ha f0 f1 t1
  have e1 : (i : Int) * 2500 = 2500 * (i : Int) := Int.mul_comm _ _
  have W1 : IntKind.i64.wrap ((i : Int) * 2500) = 2500 * (i : Int) := (IntWalk.i64_in _ (by omega)).trans e1
  clear e1
  have FL0 := rgFld0
  have FL1 := rgFld1
  go_enter Tryd.func29, Tryd.ntmps29
  go_wp2_with fail
  go_region_held3 (fun W => W.cell? ⟨PB, 0, none⟩ = some (prV D R F) ∧ W.cell? ⟨DB, 0, none⟩ = some (.int .i64 x)) (first | with_reducible exact K0.out | with_reducible exact K1.out | with_reducible exact K5.out) ((go_at_call 47; (with_reducible refine (HPr.out _ (by exact HSd.out) (by exact HPd.out)).mono ?_); rintro e w5 ⟨rfl, hb5⟩; have K5 := Lib.hid (HKb.out _ hb5)))
  have HB5 := Lib.hid (HB0.out.trans (hb5.mono HB0.out.size))
  go_wp2_with fail
  go_ret
  exact ⟨rfl, HB5.out⟩
set_option maxRecDepth 8000 in
set_option maxHeartbeats 2000000 in
theorem ysearch2_any (ea : Addr) (PB DB D R F : Nat) (d f t x : Int) (z : Bool) (am : List Int) (w : World) (hS : Sen ea w) (hP : Pr.At w D R F d f t z am) (hPB : w.cell? ⟨PB, 0, none⟩ = some (prV D R F)) (hDB : w.cell? ⟨DB, 0, none⟩ = some (.int .i64 x))
    (hok : Pc.ok 0 (d - f) (t - f) = true) (ha : Pc.Am am) (f0 : 0 ≤ f) (f1 : f ≤ d) (t1 : t ≤ 36524) :
    Calls Tryd.prog 27 #[.int .i64 41, .func (.func 29) #[] #[.pointer (some ⟨PB, 0, none⟩), .pointer (some ⟨DB, 0, none⟩)]] w fun e w' => e = .returned (.int .i64 (Yd.km (d - f) (t - f) am x)) ∧ Below w.heap.size w w' := by
  obtain ⟨k1, k2⟩ := Yd.isM (x := x) hok ha
  generalize Yd.km (d - f) (t - f) am x = k at *
  have HCl := Lib.hid (fun (h : Nat) (hh : h < 41) W (hW : Below w.heap.size w W) => yclo2_any ea h (by omega) PB DB D R F d f t x z am W (hS.below hW hS.pos) (hP.below hW (Nat.le_refl _)) ((hW.cell (p := ⟨PB, 0, none⟩) (World.block_lt_of_cell? w _ hPB)).trans hPB) ((hW.cell (p := ⟨DB, 0, none⟩) (World.block_lt_of_cell? w _ hDB)).trans hDB) hok ha f0 f1 t1)
  have HK := Lib.hid k2
  clear k2 hS hP hPB hDB hok ha f0 f1 t1
  generalize Yd.PH (d - f) (t - f) am x = P at *
  go_enter Tryd.func27, Tryd.ntmps27
  go_wp2_with fail
  go_loopw [5, 6] (fun x y wr => ∃ i j : Nat, i ≤ k ∧ k ≤ j ∧ j ≤ 41 ∧ x = .int .i64 i ∧ y = .int .i64 j ∧ Hid (Below w.heap.size w wr)) (fun x y _ => (intOf y - intOf x).toNat)
  case atStart => exact ⟨0, 41, by omega, k1, Nat.le_refl _, rfl, rfl, Lib.hid (Below.refl _ _)⟩
  case round =>
    obtain ⟨i, j, hi, hj, hjn, rfl, rfl, HB⟩ := hrel
    by_cases hlt : i < j
    · obtain ⟨h, eh, h1, h2⟩ : ∃ h : Nat, ((i : Int) + (j : Int)) / 2 = (h : Int) ∧ i ≤ h ∧ h < j := ⟨(i + j) / 2, by omega, by omega, by omega⟩
      have hq := HK.out h (by omega)
      have CL := Lib.hid (HCl.out h (by omega) wr HB.out)
      cases c : P h with
      | true =>
        have hkh := hq.1 c
        rw [c] at CL
        clear c hq
        go_wp2_with fail
        refine CL.out.mono ?_
        rintro e w1 ⟨rfl, hb1⟩
        have HB1 := Lib.hid (HB.out.trans (hb1.mono HB.out.size))
        clear hb1
        go_wp2_with fail
        go_roundw
        case rel => exact ⟨i, h, hi, hkh, by omega, rfl, rfl, HB1⟩
        case measure => simp [intOf]; omega
      | false =>
        have hkh : h < k := by
          rcases Nat.lt_or_ge h k with z | z
          · exact z
          · have := hq.2 z; rw [c] at this; cases this
        rw [c] at CL
        clear c hq
        go_wp2_with fail
        refine CL.out.mono ?_
        rintro e w1 ⟨rfl, hb1⟩
        have HB1 := Lib.hid (HB.out.trans (hb1.mono HB.out.size))
        clear hb1
        go_wp2_with fail
        go_roundw
        case rel => exact ⟨h + 1, j, by omega, hj, hjn, by simp, rfl, HB1⟩
        case measure => simp [intOf]; omega
    · have hd : decide ((i : Int) < (j : Int)) = false := decide_eq_false (by omega)
      obtain rfl : i = k := by omega
      go_wp2_with fail
      go_ret
      exact ⟨rfl, HB.out⟩
set_option maxHeartbeats 400000 in
theorem yieldAt_any (n : Int) (w : World) (h0 : -1 ≤ n) (h1 : n ≤ 41) :
    Calls Tryd.prog 30 #[.int .i64 n] w fun e w' => e = .returned (.int .i64 (if btw (2500 * n) 0 100000 = true then 2500 * n else -1)) ∧ w = w' := by
  have e1 : n * 2500 = 2500 * n := Int.mul_comm _ _
  have W1 : IntKind.i64.wrap (n * 2500) = 2500 * n := (IntWalk.i64_in _ (by omega)).trans e1
  clear e1
  cases hb : btw (2500 * n) 0 100000 with
  | true =>
    have HY := Lib.hid (fun W => vYieldC_any (2500 * n) true hb W)
    clear hb
    go_enter Tryd.func30, Tryd.ntmps30
    go_wp2_with fail
    refine (HY.out _).mono ?_
    rintro e w1 ⟨rfl, rfl⟩
    go_wp2_with fail
    go_ret
    exact ⟨rfl, rfl⟩
  | false =>
    have HY := Lib.hid (fun W => vYieldC_any (2500 * n) false hb W)
    clear hb
    go_enter Tryd.func30, Tryd.ntmps30
    go_wp2_with fail
    refine (HY.out _).mono ?_
    rintro e w1 ⟨rfl, rfl⟩
    go_wp2_with fail
    go_ret
    exact ⟨rfl, rfl⟩
theorem yieldAtL_any (k : Nat) (w : World) (hk : k ≤ 41) : Calls Tryd.prog 30 #[.int .i64 ((k : Int) - 1)] w fun e w' => e = .returned (.int .i64 (Yd.least k)) ∧ w = w' := by
  refine (yieldAt_any ((k : Int) - 1) w (by omega) (by omega)).mono ?_
  rintro e w' ⟨rfl, rfl⟩
  refine ⟨?_, rfl⟩
  unfold Yd.least
  rcases Nat.eq_zero_or_pos k with c | c
  · rw [if_pos c, if_neg (show ¬ btw (2500 * ((k : Int) - 1)) 0 100000 = true by rw [btw_f (.inl (by omega))]; decide)]
  · rw [if_neg (show ¬ k = 0 by omega), if_pos (show btw (2500 * ((k : Int) - 1)) 0 100000 = true from btw_t (by omega) (by omega))]
theorem yieldAtM_any (k : Nat) (w : World) (hk : k ≤ 41) : Calls Tryd.prog 30 #[.int .i64 (k : Int)] w fun e w' => e = .returned (.int .i64 (Yd.most k 41)) ∧ w = w' := by
  refine (yieldAt_any (k : Int) w (by omega) (by omega)).mono ?_
  rintro e w' ⟨rfl, rfl⟩
  refine ⟨?_, rfl⟩
  unfold Yd.most
  rcases Nat.lt_or_ge k 41 with c | c
  · rw [if_pos c, if_pos (show btw (2500 * (k : Int)) 0 100000 = true from btw_t (by omega) (by omega))]
  · rw [if_neg (show ¬ k < 41 by omega), if_neg (show ¬ btw (2500 * (k : Int)) 0 100000 = true by rw [btw_f (.inr (by omega))]; decide)]
/-- The yields that a price tells. -/
noncomputable def Yd.val (s e m r d x : Int) : Int × Int := if runB s e m r d = true then (Yd.least (Yd.kl (d - Pc.F s e m r d) (Pc.T s e m r d - Pc.F s e m r d) (Pc.am s e m r d) x), Yd.most (Yd.km (d - Pc.F s e m r d) (Pc.T s e m r d - Pc.F s e m r d) (Pc.am s e m r d) x) 41) else (-1, -1)
set_option maxRecDepth 8000 in
set_option maxHeartbeats 2000000 in
theorem yieldOf_any (ea : Addr) (s e m r d x : Int) (w : World) (hT : Tab w) (hS : Sen ea w) :
    Calls Tryd.prog 15 #[boV s e m r, .int .i64 d, .int .i64 x] w fun y w' => y = .returned (.tuple #[.int .i64 (Yd.val s e m r d x).1, .int .i64 (Yd.val s e m r d x).2]) ∧ Below w.heap.size w w' := by
  have HT := Lib.hid ((hT.alloc (.cells #[.int .i64 s, .int .i64 e, .int .i64 m, .int .i64 r] 27)).alloc (.cells #[.int .i64 x] 3))
  have HS := Lib.hid ((hS.alloc (.cells #[.int .i64 s, .int .i64 e, .int .i64 m, .int .i64 r] 27)).alloc (.cells #[.int .i64 x] 3))
  have HB0 := Lib.hid (((Below.refl w.heap.size w).alloc (Nat.le_refl _) (.cells #[.int .i64 s, .int .i64 e, .int .i64 m, .int .i64 r] 27)).alloc (by simp) (.cells #[.int .i64 x] 3))
  have KX := Lib.hid (show Blk _ (w.heap.size + 1) _ _ by have k := Blk.new (w.alloc (.cells #[.int .i64 s, .int .i64 e, .int .i64 m, .int .i64 r] 27)) #[.int .i64 x] 3; rw [World.size_alloc] at k; exact k)
  clear hT hS
  cases hR : runB s e m r d with
  | false =>
    have HV := Lib.hid (show Yd.val s e m r d x = (-1, -1) from if_neg (by rw [hR]; simp))
    have HPA := Lib.hid (fun W hW => pricingAt_no s e m r d W hW hR)
    clear hR
    rw [HV.out]
    go_enter Tryd.func15, Tryd.ntmps15
    go_wp2_with fail
    refine (HPA.out _ HT.out).mono ?_
    rintro y w1 ⟨rfl, hb1⟩
    have HB1 := Lib.hid (HB0.out.trans (hb1.mono HB0.out.size))
    clear hb1
    go_wp2_with fail
    refine bodyPost_ret (v := .tuple #[.int .i64 (-1), .int .i64 (-1)]) (by simp [results, Tryd.results15, go_sem]) rfl ⟨rfl, HB1.out.alloc HB1.out.size _⟩
  | true =>
    have HPA := Lib.hid (fun W hW => pricingAt_yes s e m r d W hW hR)
    have HV := Lib.hid (show Yd.val s e m r d x = (Yd.least (Yd.kl (d - Pc.F s e m r d) (Pc.T s e m r d - Pc.F s e m r d) (Pc.am s e m r d) x), Yd.most (Yd.km (d - Pc.F s e m r d) (Pc.T s e m r d - Pc.F s e m r d) (Pc.am s e m r d) x) 41) from if_pos hR)
    obtain ⟨-, f0, f1, -, t1, -⟩ := Pc.run hR
    have hok := Pc.run_ok (y := 0) hR (by omega) (by omega)
    have ham := Pc.am_ok hR
    have HS1 := Lib.hid (fun PB DB D R F W hS hP hPB hDB => ysearch1_any ea PB DB D R F d (Pc.F s e m r d) (Pc.T s e m r d) x (Pc.Z s e m r d) (Pc.am s e m r d) W hS hP hPB hDB hok ham f0 f1 t1)
    have HS2 := Lib.hid (fun PB DB D R F W hS hP hPB hDB => ysearch2_any ea PB DB D R F d (Pc.F s e m r d) (Pc.T s e m r d) x (Pc.Z s e m r d) (Pc.am s e m r d) W hS hP hPB hDB hok ham f0 f1 t1)
    have hk1 : Yd.kl (d - Pc.F s e m r d) (Pc.T s e m r d - Pc.F s e m r d) (Pc.am s e m r d) x ≤ 41 := Yd.first_le _ _
    have hk2 : Yd.km (d - Pc.F s e m r d) (Pc.T s e m r d - Pc.F s e m r d) (Pc.am s e m r d) x ≤ 41 := Yd.first_le _ _
    clear hR f0 f1 t1 hok ham
    rw [HV.out]
    clear HV
    generalize Pc.F s e m r d = f at *
    generalize Pc.T s e m r d = t at *
    generalize Pc.Z s e m r d = z at *
    generalize Pc.am s e m r d = am at *
    generalize Yd.kl (d - f) (t - f) am x = k at *
    generalize Yd.km (d - f) (t - f) am x = l at *
    have HY1 := Lib.hid (fun W => yieldAtL_any k W hk1)
    have HY2 := Lib.hid (fun W => yieldAtM_any l W hk2)
    generalize Yd.least k = Y1 at *
    generalize Yd.most l 41 = Y2 at *
    go_enter Tryd.func15, Tryd.ntmps15
    go_wp2_with fail
    refine (HPA.out _ HT.out).mono ?_
    rintro y w1 ⟨D, R, F, rfl, hP, hb1⟩
    have HP1 := Lib.hid (hP.below ((Below.refl w1.heap.size w1).alloc (Nat.le_refl _) (.cells #[prV D R F] 47)) (Nat.le_refl _))
    have HS1' := Lib.hid ((HS.out.below hb1 HS.out.pos).alloc (.cells #[prV D R F] 47))
    have HB1 := Lib.hid (HB0.out.trans (hb1.mono HB0.out.size))
    have HBa := Lib.hid (HB1.out.alloc HB1.out.size (.cells #[prV D R F] 47))
    have KX1 := Lib.hid ((KX.out.below hb1 KX.out.lt).alloc (.cells #[prV D R F] 47))
    have KP1 := Lib.hid (Blk.new w1 #[prV D R F] 47)
    clear hb1 hP
    go_wp2_with fail
    generalize w1.alloc (.cells #[prV D R F] 47) = w2 at HP1 HS1' HBa KX1 KP1 ⊢
    refine (HS1.out w1.heap.size (w.heap.size + 1) D R F _ HS1'.out HP1.out KP1.out.one KX1.out.one).mono ?_
    rintro y w3 ⟨rfl, hb3⟩
    have HP3 := Lib.hid (HP1.out.below hb3 (Nat.le_refl _))
    have HS3 := Lib.hid (HS1'.out.below hb3 HS1'.out.pos)
    have HB3 := Lib.hid (HBa.out.trans (hb3.mono HBa.out.size))
    have KX3 := Lib.hid (KX1.out.below hb3 KX1.out.lt)
    have KP3 := Lib.hid (KP1.out.below hb3 KP1.out.lt)
    clear hb3
    go_wp2_with fail
    refine (HS2.out w1.heap.size (w.heap.size + 1) D R F _ HS3.out HP3.out KP3.out.one KX3.out.one).mono ?_
    rintro y w4 ⟨rfl, hb4⟩
    have HB4 := Lib.hid (HB3.out.trans (hb4.mono HB3.out.size))
    clear hb4
    go_wp2_with fail
    refine (HY1.out _).mono ?_
    rintro y w5 ⟨rfl, rfl⟩
    go_wp2_with fail
    refine (HY2.out _).mono ?_
    rintro y w5 ⟨rfl, rfl⟩
    go_wp2_with fail
    refine bodyPost_ret (v := .tuple #[.int .i64 Y1, .int .i64 Y2]) (by simp [results, Tryd.results15, go_sem]) rfl ⟨rfl, HB4.out⟩
end Go.Proofs.YtkdooncfchmkfaaDoor
