/- The walks of the calendar's model. -/
import Derived.Test.YtkdooncfchmkfaaDoorDate2
namespace Go.Proofs.YtkdooncfchmkfaaDoor
open Go.RowKit
set_option maxHeartbeats 400000 in
theorem sDaysIn_any (y m : Int) (w : World) (h0 : 0 ≤ y) (h1 : y ≤ 3000) (m1 : 1 ≤ m) (m2 : m ≤ 12) :
    Calls Tryd.prog 80 #[.int .i64 y, .int .i64 m] w fun e w' => e = .returned (.int .i64 (Cal.dm y m)) ∧ Below w.heap.size w w' := by
  by_cases hm : m = 2
  · subst hm
    cases hl : leapB y with
    | true =>
      have E := Lib.hid (show Cal.dm y 2 = 29 by simp [Cal.dm, lp_of_true hl])
      have H := Lib.hid hl; clear hl
      go_enter Tryd.func80, Tryd.ntmps80
      go_wp2_with (go_at_call 93; refine (leap_any _ _ (by omega) (by omega)).mono ?_; rintro e w' ⟨rfl, rfl⟩; rw [H.out])
      go_ret
      exact ⟨ret_int E.out.symm, Below.refl _ _⟩
    | false =>
      have E := Lib.hid (show Cal.dm y 2 = 28 by simp [Cal.dm, lp_of_false hl])
      have H := Lib.hid hl; clear hl
      go_enter Tryd.func80, Tryd.ntmps80
      go_wp2_with (go_at_call 93; refine (leap_any _ _ (by omega) (by omega)).mono ?_; rintro e w' ⟨rfl, rfl⟩; rw [H.out])
      go_ret
      exact ⟨ret_int E.out.symm, (Below.refl _ _).alloc (Nat.le_refl _) _⟩
  · have hE : (m == 2) = false := by simp [hm]
    rcases Cal.mcases m1 m2 with h | h | h | h | h | h | h | h | h | h | h | h <;> subst h
    case inr.inl => exact absurd rfl hm
    all_goals
      clear hm hE
      go_enter Tryd.func80, Tryd.ntmps80
      go_wp2
      go_ret
      exact ⟨by simp [Cal.dm], (Below.refl _ _).alloc (Nat.le_refl _) _⟩
set_option maxHeartbeats 400000 in
theorem toInt_t (w : World) : Calls Tryd.prog 101 #[.bool true] w fun e w' => e = .returned (.int .i64 1) ∧ w = w' := by
  go_enter Tryd.func101, Tryd.ntmps101
  go_wp2
  go_ret
  exact ⟨rfl, rfl⟩
set_option maxHeartbeats 400000 in
theorem toInt_f (w : World) : Calls Tryd.prog 101 #[.bool false] w fun e w' => e = .returned (.int .i64 0) ∧ w = w' := by
  go_enter Tryd.func101, Tryd.ntmps101
  go_wp2
  go_ret
  exact ⟨rfl, rfl⟩
set_option maxHeartbeats 400000 in
theorem yearDays_any (y : Int) (w : World) (h0 : 0 ≤ y) (h1 : y ≤ 3000) :
    Calls Tryd.prog 92 #[.int .i64 y] w fun e w' => e = .returned (.int .i64 (365 + Cal.lp y)) ∧ w = w' := by
  cases hl : leapB y with
  | true =>
    have E := Lib.hid (lp_of_true hl)
    have H := Lib.hid hl; clear hl
    go_enter Tryd.func92, Tryd.ntmps92
    go_wp2_with (first | (go_at_call 93; refine (leap_any _ _ (by omega) (by omega)).mono ?_; rintro e w' ⟨rfl, rfl⟩; rw [H.out]) | (go_at_call 101; refine (toInt_t _).mono ?_; rintro e w' ⟨rfl, rfl⟩))
    go_ret
    exact ⟨ret_int (by rw [E.out]; rfl), rfl⟩
  | false =>
    have E := Lib.hid (lp_of_false hl)
    have H := Lib.hid hl; clear hl
    go_enter Tryd.func92, Tryd.ntmps92
    go_wp2_with (first | (go_at_call 93; refine (leap_any _ _ (by omega) (by omega)).mono ?_; rintro e w' ⟨rfl, rfl⟩; rw [H.out]) | (go_at_call 101; refine (toInt_f _).mono ?_; rintro e w' ⟨rfl, rfl⟩))
    go_ret
    exact ⟨ret_int (by rw [E.out]; rfl), rfl⟩
theorem ys_bd {y : Int} (h0 : 1990 ≤ y) (h1 : y ≤ 2090) : 0 ≤ Cal.ys y ∧ Cal.ys y ≤ 36525 :=
  ⟨by have := Cal.ys_mono h0; rw [Cal.ys_1990] at this; exact this, by have := Cal.ys_mono h1; rw [Cal.ys_2090] at this; exact this⟩
set_option maxHeartbeats 400000 in
theorem sDayOf_any (y m d : Int) (w : World) (hv : Cal.vld y m d) :
    Calls Tryd.prog 79 #[.agg #[.int .i64 y, .int .i64 m, .int .i64 d]] w fun e w' => e = .returned (.int .i64 (Cal.num y m d)) ∧ Below w.heap.size w w' := by
  obtain ⟨a1, a2, a3, a4, a5, a6⟩ := hv
  have hd := (Cal.dm_bd y m).2
  go_enter Tryd.func79, Tryd.ntmps79
  go_wp2_with fail
  go_loop [3, 4] (fun n t => ∃ k : Int, 1990 ≤ k ∧ k ≤ y ∧ n = .int .i64 (d - 1 + Cal.ys k) ∧ t = .int .i64 k) (fun _ t => (y - intOf t).toNat)
  case atStart => exact ⟨1990, by omega, by omega, by rw [Cal.ys_1990]; simp, rfl⟩
  case round =>
    obtain ⟨k, hk1, hk2, rfl, rfl⟩ := hrel
    have hb := ys_bd hk1 (by omega)
    have hl := Cal.lp_01 k
    obtain ⟨b1, b2⟩ := hb
    obtain ⟨l1, l2⟩ := hl
    by_cases hc : k < y
    · have HS := Lib.hid (Cal.ys_succ k)
      go_wp2_with (go_at_call 92; refine (yearDays_any _ _ (by omega) (by omega)).mono ?_; rintro e w' ⟨rfl, rfl⟩)
      go_round
      case rel => exact ⟨k + 1, by omega, by omega, by rw [HS.out]; congr 1; omega, rfl⟩
      case measure => simp [intOf]; omega
    · obtain rfl : y = k := by omega
      go_wp2_with fail
      have c0 : (w.alloc (.cells #[.int .i64 y, .int .i64 m, .int .i64 d] 90)).cell? ⟨w.heap.size, 0, none⟩ = some (.int .i64 y) := by simp
      have c1 : (w.alloc (.cells #[.int .i64 y, .int .i64 m, .int .i64 d] 90)).cell? ⟨w.heap.size, 1, none⟩ = some (.int .i64 m) := by simp
      go_loopw [3, 5] (fun n t wr => ∃ k : Int, 1 ≤ k ∧ k ≤ m ∧ n = .int .i64 (d - 1 + Cal.ys y + Cal.ms y k) ∧ t = .int .i64 k ∧ Below (w.heap.size + 1) (w.alloc (.cells #[.int .i64 y, .int .i64 m, .int .i64 d] 90)) wr) (fun _ t _ => (m - intOf t).toNat)
      case atStart => exact ⟨1, by omega, by omega, by rw [Cal.ms_1]; simp, rfl, by simpa using Below.refl (w.heap.size + 1) _⟩
      case round =>
        obtain ⟨k, hk3, hk4, rfl, rfl, hb⟩ := hrel
        have e0 : wr.cell? ⟨w.heap.size, 0, none⟩ = some (.int .i64 y) := (hb.cell (p := ⟨w.heap.size, 0, none⟩) (by simp)).trans c0
        have e1 : wr.cell? ⟨w.heap.size, 1, none⟩ = some (.int .i64 m) := (hb.cell (p := ⟨w.heap.size, 1, none⟩) (by simp)).trans c1
        have hsz : w.heap.size + 1 ≤ wr.heap.size := by have := hb.size; simpa using this
        have q := Cal.ms_bd y hk3 (by omega)
        obtain ⟨q1, q2⟩ := q
        have r := Cal.dm_bd y k
        obtain ⟨r1, r2⟩ := r
        clear c0 c1
        by_cases hc : k < m
        · have HS := Lib.hid (Cal.ms_succ y hk3 (by omega))
          go_wp2_with (go_at_call 80; refine (sDaysIn_any _ _ _ (by omega) (by omega) (by omega) (by omega)).mono ?_; rintro e w' ⟨rfl, hb2⟩)
          go_roundw
          case rel => exact ⟨k + 1, by omega, by omega, by rw [HS.out]; congr 1; omega, rfl, hb.trans (hb2.mono hsz)⟩
          case measure => simp [intOf]; omega
        · obtain rfl : m = k := by omega
          go_wp2_with fail
          go_ret
          exact ⟨ret_int (by unfold Cal.num; omega), ((Below.refl _ _).alloc (Nat.le_refl _) _).trans (hb.mono (by omega))⟩
theorem new3 {w wr : World} {a b c : Value} {T : TypeId} (hb : Below (w.heap.size + 1) (w.alloc (.cells #[a, b, c] T)) wr) :
    (wr.cell? ⟨w.heap.size, 0, none⟩ = some a ∧ wr.cell? ⟨w.heap.size, 1, none⟩ = some b ∧ wr.cell? ⟨w.heap.size, 2, none⟩ = some c) ∧
    (wr.frozen? ⟨w.heap.size, 0, none⟩ = false ∧ wr.frozen? ⟨w.heap.size, 1, none⟩ = false ∧ wr.frozen? ⟨w.heap.size, 2, none⟩ = false) ∧ w.heap.size + 1 ≤ wr.heap.size := by
  refine ⟨⟨(hb.cell (p := ⟨w.heap.size, 0, none⟩) (by simp)).trans (by simp), (hb.cell (p := ⟨w.heap.size, 1, none⟩) (by simp)).trans (by simp), (hb.cell (p := ⟨w.heap.size, 2, none⟩) (by simp)).trans (by simp)⟩, ⟨(hb.frozen (p := ⟨w.heap.size, 0, none⟩) (by simp)).trans (by simp), (hb.frozen (p := ⟨w.heap.size, 1, none⟩) (by simp)).trans (by simp), (hb.frozen (p := ⟨w.heap.size, 2, none⟩) (by simp)).trans (by simp)⟩, by have := hb.size; simpa using this⟩
set_option maxHeartbeats 400000 in
theorem sDateOf_any (n : Int) (w : World) (n0 : 0 ≤ n) (n1 : n ≤ 36524) :
    Calls Tryd.prog 78 #[.int .i64 n] w fun e w' => e = .returned (.agg #[.int .i64 (Cal.Y n), .int .i64 (Cal.M n), .int .i64 (Cal.D n)]) ∧ Below w.heap.size w w' := by
  go_enter Tryd.func78, Tryd.ntmps78
  go_wp2_with fail
  go_loop [0, 3] (fun r t => ∃ y : Int, 1990 ≤ y ∧ y ≤ 2089 ∧ Cal.ys y ≤ n ∧ r = .int .i64 (n - Cal.ys y) ∧ t = .int .i64 y) (fun _ t => (2089 - intOf t).toNat)
  case atStart => exact ⟨1990, by omega, by omega, by rw [Cal.ys_1990]; exact n0, by rw [Cal.ys_1990]; simp, rfl⟩
  case round =>
    obtain ⟨y, hy1, hy2, hy3, rfl, rfl⟩ := hrel
    have hb := ys_bd hy1 (by omega)
    have hl := Cal.lp_01 y
    have hs := Cal.ys_succ y
    obtain ⟨b1, b2⟩ := hb
    obtain ⟨l1, l2⟩ := hl
    by_cases hc : 365 + Cal.lp y ≤ n - Cal.ys y
    · have hy4 : y < 2089 := by
        rcases Int.lt_or_le y 2089 with h | h
        · exact h
        · have : y = 2089 := by omega
          subst this
          have : Cal.ys (2089 + 1) = 36525 := Cal.ys_2090
          omega
      have hle : Cal.ys (y + 1) ≤ n := by omega
      have HS := Lib.hid hs; clear hs
      go_wp2_with (go_at_call 92; refine (yearDays_any _ _ (by omega) (by omega)).mono ?_; rintro e w' ⟨rfl, rfl⟩)
      go_round
      case rel => exact ⟨y + 1, by omega, by omega, hle, by rw [HS.out]; congr 1; omega, rfl⟩
      case measure => simp [intOf]; omega
    · have hlt : n < Cal.ys (y + 1) := by omega
      clear hs
      go_wp2_with (go_at_call 92; refine (yearDays_any _ _ (by omega) (by omega)).mono ?_; rintro e w' ⟨rfl, rfl⟩)
      go_loopw [0, 4] (fun r t wr => ∃ m : Int, 1 ≤ m ∧ m ≤ 12 ∧ Cal.ms y m ≤ n - Cal.ys y ∧ r = .int .i64 (n - Cal.ys y - Cal.ms y m) ∧ t = .int .i64 m ∧ Below (w.heap.size + 1) (w.alloc (.cells #[.int .i64 0, .int .i64 0, .int .i64 0] 90)) wr) (fun _ t _ => (12 - intOf t).toNat)
      case atStart => exact ⟨1, by omega, by omega, by rw [Cal.ms_1]; omega, by rw [Cal.ms_1]; simp, rfl, by simpa using Below.refl (w.heap.size + 1) _⟩
      case round =>
        obtain ⟨m, hm1, hm2, hm3, rfl, rfl, hb⟩ := hrel
        have hsz : w.heap.size + 1 ≤ wr.heap.size := by have := hb.size; simpa using this
        have q := Cal.ms_bd y hm1 (by omega)
        obtain ⟨q1, q2⟩ := q
        have r := Cal.dm_bd y m
        obtain ⟨r1, r2⟩ := r
        have hs := Cal.ms_succ y hm1 hm2
        by_cases hcm : Cal.dm y m ≤ n - Cal.ys y - Cal.ms y m
        · have hm4 : m < 12 := by
            rcases Int.lt_or_le m 12 with h | h
            · exact h
            · have : m = 12 := by omega
              subst this
              have : Cal.ms y (12 + 1) = 365 + Cal.lp y := Cal.ms_13 y
              omega
          have hle : Cal.ms y (m + 1) ≤ n - Cal.ys y := by omega
          have HS := Lib.hid hs; clear hs
          go_wp2_with (go_at_call 80; refine (sDaysIn_any _ _ _ (by omega) (by omega) (by omega) (by omega)).mono ?_; rintro e wx ⟨rfl, hbx⟩; replace hb := hb.trans (hbx.mono hsz); replace hsz := Nat.le_trans hsz hbx.size; clear hbx)
          go_roundw
          case rel => exact ⟨m + 1, by omega, by omega, hle, by rw [HS.out]; congr 1; omega, rfl, hb⟩
          case measure => simp [intOf]; omega
        · have hfin : Cal.Y n = y ∧ Cal.M n = m ∧ Cal.D n = n - Cal.ys y - Cal.ms y m + 1 := Cal.dt_eq n0 n1 ⟨hy3, hlt, hm1, hm2, hm3, by omega, rfl⟩
          have HF := Lib.hid hfin; clear hfin hs
          go_wp2_with (go_at_call 80; refine (sDaysIn_any _ _ _ (by omega) (by omega) (by omega) (by omega)).mono ?_; rintro e wx ⟨rfl, hbx⟩; replace hb := hb.trans (hbx.mono hsz); replace hsz := Nat.le_trans hsz hbx.size; clear hbx; obtain ⟨⟨x0, x1, x2⟩, ⟨z0, z1, z2⟩, _⟩ := new3 hb)
          refine bodyPost_ret (v := .agg #[.int .i64 y, .int .i64 m, .int .i64 (n - Cal.ys y - Cal.ms y m + 1)]) (by simp [results, Tryd.results78, go_sem, x0, x1, x2]) rfl ⟨?_, ?_⟩
          · rw [HF.out.1, HF.out.2.1, HF.out.2.2]
          · exact ((((Below.refl _ _).alloc (Nat.le_refl _) _).trans (hb.mono (by omega))).setCell (by simp) _).setCell (by simp) _ |>.setCell (by simp) _
end Go.Proofs.YtkdooncfchmkfaaDoor
