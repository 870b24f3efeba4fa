/- The walks of the business days' model. -/
import Derived.Test.YtdmamojidefdaaaBiz
import Derived.Test.YtdmamojidefdaaaDrawB
import Derived.Test.YtdmamojidefdaaaBtw
namespace Go.Proofs.Ytdmamojidefdaaa
open Go.RowKit
/-- A row of numbers below a block. -/
def Ints (w : World) (B : Nat) (a : Option Addr) (xs : List Int) : Prop :=
  0 < xs.length → ∃ b off, a = some ⟨b, off, none⟩ ∧ b < B ∧ ∀ i, i < xs.length → w.cell? ⟨b, off + i, none⟩ = some (.int .i64 (xs.getD i 0))
theorem Ints.below {w w' : World} {B B' : Nat} {a : Option Addr} {xs : List Int} (h : Ints w B a xs) (hb : Below B' w w') (hB : B ≤ B') : Ints w' B a xs := fun hl => by
  obtain ⟨b, off, e, hlt, hc⟩ := h hl
  exact ⟨b, off, e, hlt, fun i hi => (hb.cell (p := ⟨b, off + i, none⟩) (by show b < B'; omega)).trans (hc i hi)⟩
theorem Ints.mono {w : World} {B B' : Nat} {a : Option Addr} {xs : List Int} (h : Ints w B a xs) (hB : B ≤ B') : Ints w B' a xs := fun hl => by
  obtain ⟨b, off, e, hlt, hc⟩ := h hl
  exact ⟨b, off, e, by omega, hc⟩
theorem Ints.drewN {w : World} {B : Nat} {a : Option Addr} {xs : List Int} (h : Ints w B a xs) (n : Nat) : Ints (w.drewN n) B a xs := h
theorem getD_mem {xs : List Int} {k : Nat} (hk : k < xs.length) : xs.getD k 0 ∈ xs := by
  rw [List.getD_eq_getElem?_getD, List.getElem?_eq_getElem hk]; simp
theorem not_mem_step {xs : List Int} {n : Int} {k : Nat} (hk : k < xs.length) (h : n ∉ xs.take k) (he : xs.getD k 0 ≠ n) : n ∉ xs.take (k + 1) := by
  rw [List.take_succ_eq_append_getElem hk]
  rw [List.getD_eq_getElem?_getD, List.getElem?_eq_getElem hk] at he
  simp only [List.mem_append, List.mem_singleton, not_or]
  exact ⟨h, fun e => he (by simp [e])⟩
set_option maxHeartbeats 400000 in
theorem sIsIn_any (w : World) (B : Nat) (a : Option Addr) (cap : Nat) (xs : List Int) (n : Int) (h : Ints w B a xs) (hl : xs.length ≤ 1048576) :
    Calls Try.prog 35 #[.slice a xs.length cap, .int .i64 n] w fun e w' => e = .returned (.bool (decide (n ∈ xs))) ∧ w = w' := by
  have H := Lib.hid h; clear h
  have hm : (xs.length : Int) ≤ 1048576 := by omega
  go_enter Try.func35, Try.ntmps35
  go_wp2_with fail
  go_loop [5] (fun i => ∃ k : Nat, k ≤ xs.length ∧ i = .int .i64 k ∧ Hid (n ∉ xs.take k)) (fun i => xs.length - (intOf i).toNat)
  case atStart => exact ⟨0, Nat.zero_le _, rfl, Lib.hid (by simp)⟩
  case round =>
    obtain ⟨k, hk, rfl, hn⟩ := hrel
    by_cases hlt : k < xs.length
    · obtain ⟨b, off, rfl, hb, hc⟩ := H.out (by omega)
      have hck := hc k hlt
      clear hc
      obtain ⟨x, hx⟩ : ∃ x, x = xs.getD k 0 := ⟨_, rfl⟩
      rw [← hx] at hck
      have HX := Lib.hid hx; clear hx
      by_cases e : x = n
      · have e1 : (x == n) = true := by simp [e]
        have HE := Lib.hid e; clear e
        go_wp2_with fail
        go_ret
        exact ⟨ret_bool (by rw [← HE.out, HX.out]; exact (decide_eq_true (getD_mem hlt)).symm), rfl⟩
      · have e1 : (x == n) = false := by simp [e]
        have HE := Lib.hid e; clear e
        go_wp2_with fail
        go_round
        case rel => exact ⟨k + 1, by omega, by go_num, Lib.hid (not_mem_step hlt hn.out (by rw [← HX.out]; exact HE.out))⟩
        case measure => simp [intOf]; omega
    · go_wp2_with fail
      go_ret
      exact ⟨ret_bool (by have := hn.out; rw [List.take_of_length_le (by omega)] at this; simp [this]), rfl⟩
def InAll (xs : List Int) : Prop := ∀ i, i < xs.length → 0 ≤ xs.getD i 0 ∧ xs.getD i 0 ≤ 36524
open Classical in
noncomputable def inAllB (xs : List Int) : Bool := decide (InAll xs)
theorem inAllB_t {xs : List Int} (h : InAll xs) : inAllB xs = true := by unfold inAllB; simp [h]
theorem inAllB_f {xs : List Int} (h : ¬ InAll xs) : inAllB xs = false := by unfold inAllB; simp [h]
theorem inAllB_iff {xs : List Int} : inAllB xs = true ↔ InAll xs := by unfold inAllB; simp
set_option maxHeartbeats 400000 in
theorem sAllIn_any (w : World) (B : Nat) (a : Option Addr) (cap : Nat) (xs : List Int) (h : Ints w B a xs) (hl : xs.length ≤ 1048576) :
    Calls Try.prog 31 #[.slice a xs.length cap, .int .i64 0, .int .i64 36524] w fun e w' => e = .returned (.bool (inAllB xs)) ∧ w = w' := by
  have H := Lib.hid h; clear h
  have hm : (xs.length : Int) ≤ 1048576 := by omega
  go_enter Try.func31, Try.ntmps31
  go_wp2_with fail
  go_loop [7] (fun i => ∃ k : Nat, k ≤ xs.length ∧ i = .int .i64 k ∧ Hid (∀ j, j < k → 0 ≤ xs.getD j 0 ∧ xs.getD j 0 ≤ 36524)) (fun i => xs.length - (intOf i).toNat)
  case atStart => exact ⟨0, Nat.zero_le _, rfl, Lib.hid (fun j hj => by omega)⟩
  case round =>
    obtain ⟨k, hk, rfl, hn⟩ := hrel
    by_cases hlt : k < xs.length
    · obtain ⟨b, off, rfl, hb, hc⟩ := H.out (by omega)
      have hck := hc k hlt
      clear hc
      obtain ⟨x, hx⟩ : ∃ x, x = xs.getD k 0 := ⟨_, rfl⟩
      rw [← hx] at hck
      have HX := Lib.hid hx; clear hx
      cases hbt : btw x 0 36524 with
      | false =>
        have HE := Lib.hid (btw_iff_f.1 hbt)
        go_wp2_with (go_at_call 24; refine (inRange_any _ _ _ _).mono ?_; rintro e w' ⟨rfl, rfl⟩)
        go_ret
        exact ⟨ret_bool (inAllB_f (fun hA => by have := hA k hlt; rw [← HX.out] at this; have := HE.out; omega)).symm, rfl⟩
      | true =>
        have HE := Lib.hid (btw_iff.1 hbt)
        go_wp2_with (go_at_call 24; refine (inRange_any _ _ _ _).mono ?_; rintro e w' ⟨rfl, rfl⟩)
        go_round
        case rel =>
          exact ⟨k + 1, by omega, by go_num, Lib.hid (fun j hj => by
            by_cases e : j = k
            · subst e; rw [← HX.out]; exact HE.out
            · exact hn.out j (by omega))⟩
        case measure => simp [intOf]; omega
    · go_wp2_with fail
      go_ret
      exact ⟨ret_bool (inAllB_t (fun j hj => hn.out j (by omega))).symm, rfl⟩
theorem holB_f1 {xs : List Int} {k : Nat} (hk : k + 1 < xs.length) (h : xs.getD (k + 1) 0 ≤ xs.getD k 0) : Biz.holB xs = false := Biz.holB_iff_f.2 (fun hA => by have := hA.2.1 k hk; omega)
theorem holB_f2 {xs : List Int} (h : 12 < xs.length) : Biz.holB xs = false := Biz.holB_iff_f.2 (fun hA => by have := hA.1; omega)
theorem holB_e {xs : List Int} (h1 : xs.length ≤ 12) (h2 : ∀ i, i + 1 < xs.length → xs.getD i 0 < xs.getD (i + 1) 0) : Biz.holB xs = inAllB xs := by
  cases h : inAllB xs with
  | true => exact Biz.holB_iff.2 ⟨h1, h2, inAllB_iff.1 h⟩
  | false => exact Biz.holB_iff_f.2 (fun hA => by rw [inAllB_t hA.2.2] at h; cases h)
set_option maxHeartbeats 800000 in
theorem sValidHol_any (w : World) (B : Nat) (a : Option Addr) (cap : Nat) (xs : List Int) (h : Ints w B a xs) (hl : xs.length ≤ 1048576) :
    Calls Try.prog 23 #[.slice a xs.length cap] w fun e w' => e = .returned (.bool (Biz.holB xs)) ∧ ∃ m, w' = w.drewN m := by
  have H := Lib.hid h; clear h
  have hm : (xs.length : Int) ≤ 1048576 := by omega
  go_enter Try.func23, Try.ntmps23
  go_wp2_with fail
  go_loopw [3] (fun i wr => ∃ k : Nat, 1 ≤ k ∧ (k ≤ xs.length ∨ k = 1) ∧ i = .int .i64 k ∧ Hid (∀ j, j + 1 < k → xs.getD j 0 < xs.getD (j + 1) 0) ∧ ∃ m, wr = w.drewN m) (fun i _ => xs.length - (intOf i).toNat)
  case atStart => exact ⟨1, by omega, .inr rfl, rfl, Lib.hid (fun j hj => by omega), 0, rfl⟩
  case round =>
    obtain ⟨k, hk1, hk, rfl, hn, m, rfl⟩ := hrel
    by_cases hlt : k < xs.length
    · obtain ⟨b, off, rfl, hb, hc⟩ := H.out (by omega)
      obtain ⟨j, rfl⟩ : ∃ j, k = j + 1 := ⟨k - 1, by omega⟩
      have hck := hc (j + 1) hlt
      have hcj := hc j (by omega)
      clear hc
      obtain ⟨x, hx⟩ : ∃ x, x = xs.getD (j + 1) 0 := ⟨_, rfl⟩
      obtain ⟨y, hy⟩ : ∃ y, y = xs.getD j 0 := ⟨_, rfl⟩
      rw [← hx] at hck
      rw [← hy] at hcj
      have HX := Lib.hid hx; clear hx
      have HY := Lib.hid hy; clear hy
      by_cases e : x ≤ y
      · have e1 := decide_eq_true e
        have HE := Lib.hid e; clear e
        go_wp2_with fail
        go_quiet (fail)
        go_wp2_with fail
        go_ret
        exact ⟨ret_bool (holB_f1 hlt (by rw [← HX.out, ← HY.out]; exact HE.out)).symm, _, (by first | exact World.drewN_drewN _ _ _ | rfl)⟩
      · have e1 := decide_eq_false e
        have HE := Lib.hid e; clear e
        go_wp2_with fail
        go_quiet (fail)
        go_wp2_with fail
        go_roundw
        case rel =>
          exact ⟨j + 1 + 1, by omega, by omega, by go_num, Lib.hid (fun i hi => by
            by_cases e : i = j
            · subst e; rw [← HX.out, ← HY.out]; have := HE.out; omega
            · exact hn.out i (by omega)), _, (by first | exact World.drewN_drewN _ _ _ | rfl)⟩
        case measure => simp [intOf]; omega
    · have hs : ∀ i, i + 1 < xs.length → xs.getD i 0 < xs.getD (i + 1) 0 := fun i hi => hn.out i (by omega)
      by_cases hq : xs.length ≤ 12
      · have q1 : decide ((xs.length : Int) ≤ 12) = true := by simp; omega
        have HQ := Lib.hid (holB_e hq hs)
        clear hs
        go_wp2_with (go_at_call 31; refine (sAllIn_any _ _ _ _ _ (H.out.drewN _) hl).mono ?_; rintro e w' ⟨rfl, rfl⟩)
        go_ret
        exact ⟨ret_bool HQ.out.symm, _, rfl⟩
      · have q1 : decide ((xs.length : Int) ≤ 12) = false := by simp; omega
        have HQ := Lib.hid (holB_f2 (xs := xs) (by omega))
        clear hs
        go_wp2_with fail
        go_ret
        exact ⟨ret_bool HQ.out.symm, _, rfl⟩
theorem biz_at {xs : List Int} {n : Int} (h : n % 7 < 5) : Biz.biz xs n = !decide (n ∈ xs) := by unfold Biz.biz; simp [h]
set_option maxHeartbeats 400000 in
theorem sBusiness_any (w : World) (B : Nat) (a : Option Addr) (cap : Nat) (xs : List Int) (n : Int) (h : Ints w B a xs) (hl : xs.length ≤ 1048576) (n0 : 0 ≤ n) (n1 : n ≤ 40000) :
    Calls Try.prog 32 #[.slice a xs.length cap, .int .i64 n] w fun e w' => e = .returned (.bool (Biz.biz xs n)) ∧ w = w' := by
  have H := Lib.hid h; clear h
  by_cases q : n % 7 < 5
  · have q1 := decide_eq_true q
    have E := Lib.hid (biz_at (xs := xs) q)
    clear q
    go_enter Try.func32, Try.ntmps32
    go_wp2_with (go_at_call 35; refine (sIsIn_any _ _ _ _ _ _ H.out hl).mono ?_; rintro e w' ⟨rfl, rfl⟩)
    go_ret
    exact ⟨ret_bool E.out.symm, rfl⟩
  · have q1 := decide_eq_false q
    have E := Lib.hid (Biz.biz_f1 (xs := xs) q)
    clear q
    go_enter Try.func32, Try.ntmps32
    go_wp2_with (go_at_call 35; refine (sIsIn_any _ _ _ _ _ _ H.out hl).mono ?_; rintro e w' ⟨rfl, rfl⟩)
    go_ret
    exact ⟨ret_bool E.out.symm, rfl⟩
noncomputable def isBizV (xs : List Int) (n : Int) : Bool := Biz.holB xs && (btw n 0 36524 && Biz.biz xs n)
set_option maxHeartbeats 400000 in
theorem sUp_any (w : World) (B : Nat) (a : Option Addr) (cap : Nat) (xs : List Int) (n : Int) (h : Ints w B a xs) (hl : xs.length ≤ 1048576) (n0 : 0 ≤ n) (n1 : n ≤ 36525) :
    Calls Try.prog 25 #[.slice a xs.length cap, .int .i64 n, .int .i64 1] w fun e w' => e = .returned (.int .i64 (Biz.up xs n)) ∧ w = w' := by
  have H := Lib.hid h; clear h
  go_enter Try.func25, Try.ntmps25
  go_wp2_with fail
  go_loop [1] (fun i => ∃ k : Int, n ≤ k ∧ k ≤ 36525 ∧ i = .int .i64 k ∧ Hid (Biz.up xs k = Biz.up xs n)) (fun i => 36525 - (intOf i).toNat)
  case atStart => exact ⟨n, by omega, n1, rfl, Lib.hid rfl⟩
  case round =>
    obtain ⟨k, hk1, hk2, rfl, hn⟩ := hrel
    by_cases hlt : k ≤ 36524
    · have hbt : btw k 0 36524 = true := btw_t (by omega) hlt
      cases hbz : Biz.biz xs k with
      | true =>
        have E := Lib.hid (Biz.up_hit (by omega) hlt hbz)
        go_wp2_with (first | (go_at_call 24; refine (inRange_any _ _ _ _).mono ?_; rintro e w' ⟨rfl, rfl⟩) | (go_at_call 32; refine (sBusiness_any _ _ _ _ _ _ H.out hl (by omega) (by omega)).mono ?_; rintro e w' ⟨rfl, rfl⟩))
        go_ret
        exact ⟨ret_int (E.out.symm.trans hn.out), rfl⟩
      | false =>
        have E := Lib.hid (Biz.up_miss (by omega) hbz)
        go_wp2_with (first | (go_at_call 24; refine (inRange_any _ _ _ _).mono ?_; rintro e w' ⟨rfl, rfl⟩) | (go_at_call 32; refine (sBusiness_any _ _ _ _ _ _ H.out hl (by omega) (by omega)).mono ?_; rintro e w' ⟨rfl, rfl⟩))
        go_round
        case rel => exact ⟨k + 1, by omega, by omega, rfl, Lib.hid (E.out.trans hn.out)⟩
        case measure => simp [intOf]; omega
    · have hbt : btw k 0 36524 = false := btw_f (by omega)
      have E := Lib.hid (Biz.up_out (xs := xs) (n := k) (by omega))
      go_wp2_with (first | (go_at_call 24; refine (inRange_any _ _ _ _).mono ?_; rintro e w' ⟨rfl, rfl⟩) | (go_at_call 32; refine (sBusiness_any _ _ _ _ _ _ H.out hl (by omega) (by omega)).mono ?_; rintro e w' ⟨rfl, rfl⟩))
      go_ret
      exact ⟨ret_int (E.out.symm.trans hn.out), rfl⟩
set_option maxHeartbeats 400000 in
theorem sDn_any (w : World) (B : Nat) (a : Option Addr) (cap : Nat) (xs : List Int) (n : Int) (h : Ints w B a xs) (hl : xs.length ≤ 1048576) (n0 : -1 ≤ n) (n1 : n ≤ 36524) :
    Calls Try.prog 25 #[.slice a xs.length cap, .int .i64 n, .int .i64 (-1)] w fun e w' => e = .returned (.int .i64 (Biz.dn xs n)) ∧ w = w' := by
  have H := Lib.hid h; clear h
  go_enter Try.func25, Try.ntmps25
  go_wp2_with fail
  go_loop [1] (fun i => ∃ k : Int, -1 ≤ k ∧ k ≤ n ∧ i = .int .i64 k ∧ Hid (Biz.dn xs k = Biz.dn xs n)) (fun i => (intOf i + 1).toNat)
  case atStart => exact ⟨n, n0, by omega, rfl, Lib.hid rfl⟩
  case round =>
    obtain ⟨k, hk1, hk2, rfl, hn⟩ := hrel
    by_cases hlt : 0 ≤ k
    · have hbt : btw k 0 36524 = true := btw_t hlt (by omega)
      cases hbz : Biz.biz xs k with
      | true =>
        have E := Lib.hid (Biz.dn_hit hlt hbz)
        go_wp2_with (first | (go_at_call 24; refine (inRange_any _ _ _ _).mono ?_; rintro e w' ⟨rfl, rfl⟩) | (go_at_call 32; refine (sBusiness_any _ _ _ _ _ _ H.out hl (by omega) (by omega)).mono ?_; rintro e w' ⟨rfl, rfl⟩))
        go_ret
        exact ⟨ret_int (E.out.symm.trans hn.out), rfl⟩
      | false =>
        have E := Lib.hid (Biz.dn_miss hbz)
        go_wp2_with (first | (go_at_call 24; refine (inRange_any _ _ _ _).mono ?_; rintro e w' ⟨rfl, rfl⟩) | (go_at_call 32; refine (sBusiness_any _ _ _ _ _ _ H.out hl (by omega) (by omega)).mono ?_; rintro e w' ⟨rfl, rfl⟩))
        go_round
        case rel => exact ⟨k - 1, by omega, by omega, rfl, Lib.hid (E.out.trans hn.out)⟩
        case measure => simp [intOf]; omega
    · have hbt : btw k 0 36524 = false := btw_f (by omega)
      have E := Lib.hid (Biz.dn_out (xs := xs) (n := k) (by omega))
      go_wp2_with (first | (go_at_call 24; refine (inRange_any _ _ _ _).mono ?_; rintro e w' ⟨rfl, rfl⟩) | (go_at_call 32; refine (sBusiness_any _ _ _ _ _ _ H.out hl (by omega) (by omega)).mono ?_; rintro e w' ⟨rfl, rfl⟩))
      go_ret
      exact ⟨ret_int (E.out.symm.trans hn.out), rfl⟩
theorem isBizV_f1 {xs : List Int} {n : Int} (h : Biz.holB xs = false) : isBizV xs n = false := by unfold isBizV; rw [h]; rfl
theorem isBizV_f2 {xs : List Int} {n : Int} (h : btw n 0 36524 = false) : isBizV xs n = false := by unfold isBizV; rw [h]; simp
theorem isBizV_t {xs : List Int} {n : Int} (h : Biz.holB xs = true) (h2 : btw n 0 36524 = true) : isBizV xs n = Biz.biz xs n := by unfold isBizV; rw [h, h2]; simp
end Go.Proofs.Ytdmamojidefdaaa
