/- The walks of the counts of business days, and the laws' own functions on rows of numbers. -/
import Derived.Test.YtdmamojidefdaaaHolI
import Derived.Test.YtdmamojidefdaaaDrawHol
namespace Go.Proofs.Ytdmamojidefdaaa
open Go.RowKit
noncomputable def addBV (xs : List Int) (n m : Int) : Int := if Biz.holB xs = true ∧ btw n 0 36524 = true ∧ btw m 0 30 = true then Biz.add xs n m.toNat else -1
theorem addBV_t {xs : List Int} {n m : Int} (a : Biz.holB xs = true) (b : btw n 0 36524 = true) (c : btw m 0 30 = true) : addBV xs n m = Biz.add xs n m.toNat := by unfold addBV; rw [if_pos ⟨a, b, c⟩]
theorem addBV_f {xs : List Int} {n m : Int} (a : Biz.holB xs = false ∨ btw n 0 36524 = false ∨ btw m 0 30 = false) : addBV xs n m = -1 := by
  unfold addBV; rw [if_neg]; rintro ⟨x, y, z⟩; rcases a with h | h | h <;> simp_all
theorem add_step {xs : List Int} {n : Int} {k : Nat} (h : 0 ≤ Biz.add xs n k) : Biz.add xs n (k + 1) = Biz.up xs (Biz.add xs n k + 1) := by
  show (if Biz.add xs n k < 0 then _ else _) = _
  rw [if_neg (by omega)]
theorem add_stop {xs : List Int} {n : Int} {k m : Nat} (h : Biz.add xs n k < 0) (hk : k ≤ m) (h1 : Biz.add xs n k = -1) : Biz.add xs n k = Biz.add xs n m := by
  obtain ⟨j, rfl⟩ : ∃ j, m = k + j := ⟨m - k, by omega⟩
  rcases Biz.add_neg h j with e | e
  · rw [e, h1]
  · rw [e]; rfl
set_option maxHeartbeats 400000 in
theorem sAddB_no (w : World) (B : Nat) (a : Option Addr) (cap : Nat) (xs : List Int) (n m : Int) (h : Ints w B a xs) (hl : xs.length ≤ 1048576) (hn : Biz.holB xs = false ∨ btw n 0 36524 = false ∨ btw m 0 30 = false) :
    Calls Try.prog 13 #[.slice a xs.length cap, .int .i64 n, .int .i64 m] w fun e w' => e = .returned (.int .i64 (-1)) ∧ ∃ q, w' = w.drewN q := by
  have H := Lib.hid h; clear h
  cases h1 : Biz.holB xs <;> cases h2 : btw n 0 36524 <;> cases h3 : btw m 0 30
  case true.true.true => rw [h1, h2, h3] at hn; simp at hn
  all_goals
    clear hn
    go_enter Try.func13, Try.ntmps13
    go_wp2_with (first | (go_at_call 23; refine (sValidHol_any _ _ _ _ _ H.out hl).mono ?_; rintro e w' ⟨rfl, m, rfl⟩) | (go_at_call 24; refine (inRange_any _ _ _ _).mono ?_; rintro e w' ⟨rfl, rfl⟩))
    go_ret
    exact ⟨rfl, _, rfl⟩
set_option maxHeartbeats 800000 in
theorem sAddB_yes (w : World) (B : Nat) (a : Option Addr) (cap : Nat) (xs : List Int) (n m : Int) (h : Ints w B a xs) (hl : xs.length ≤ 1048576) (h1 : Biz.holB xs = true) (h2 : btw n 0 36524 = true) (h3 : btw m 0 30 = true) :
    Calls Try.prog 13 #[.slice a xs.length cap, .int .i64 n, .int .i64 m] w fun e w' => e = .returned (.int .i64 (Biz.add xs n m.toNat)) ∧ ∃ q, w' = w.drewN q := by
  have H := Lib.hid h; clear h
  obtain ⟨n0, n1⟩ := btw_iff.1 h2
  obtain ⟨m0, m1⟩ := btw_iff.1 h3
  go_enter Try.func13, Try.ntmps13
  go_wp2_with (first | (go_at_call 23; refine (sValidHol_any _ _ _ _ _ H.out hl).mono ?_; rintro e w1 ⟨rfl, q, rfl⟩) | (go_at_call 24; refine (inRange_any _ _ _ _).mono ?_; rintro e w' ⟨rfl, rfl⟩) | (go_at_call 25; refine (sUp_any _ _ _ _ _ _ (H.out.drewN _) hl (by omega) (by omega)).mono ?_; rintro e w' ⟨rfl, rfl⟩))
  clear h1 h2 h3
  go_loop [1, 7] (fun d i => ∃ k : Nat, (k : Int) ≤ m ∧ d = .int .i64 (Biz.add xs n k) ∧ i = .int .i64 k) (fun _ i => 31 - (intOf i).toNat)
  case atStart => exact ⟨0, by omega, rfl, rfl⟩
  case round =>
    obtain ⟨k, hk, rfl, rfl⟩ := hrel
    have hbd := Biz.add_bd xs n0 k
    by_cases hlt : (k : Int) < m
    · by_cases hneg : 0 ≤ Biz.add xs n k
      · have hbd2 : n ≤ Biz.add xs n k ∧ Biz.add xs n k ≤ 36524 := by
          rcases hbd with e | ⟨x, y, _⟩
          · omega
          · exact ⟨x, y⟩
        obtain ⟨b0, b1⟩ := hbd2
        have E := Lib.hid (add_step hneg)
        clear hbd
        go_wp2_with (go_at_call 25; refine (sUp_any _ _ _ _ _ _ (H.out.drewN _) hl (by omega) (by omega)).mono ?_; rintro e w' ⟨rfl, rfl⟩)
        go_round
        case rel => exact ⟨k + 1, by omega, by rw [E.out], by go_num⟩
        case measure => simp [intOf]; omega
      · have E := Lib.hid (add_stop (m := m.toNat) (by omega : Biz.add xs n k < 0) (by omega) (by rcases hbd with e | ⟨x, y, _⟩ <;> omega))
        clear hbd
        go_wp2_with fail
        go_ret
        exact ⟨ret_int E.out, _, rfl⟩
    · obtain ⟨j, rfl⟩ : ∃ j : Nat, m = j := ⟨m.toNat, by omega⟩
      obtain rfl : k = j := by omega
      clear hbd
      go_wp2_with fail
      go_ret
      exact ⟨ret_int (by simp), _, rfl⟩
theorem sAddB_any (w : World) (B : Nat) (a : Option Addr) (cap : Nat) (xs : List Int) (n m : Int) (h : Ints w B a xs) (hl : xs.length ≤ 1048576) :
    Calls Try.prog 13 #[.slice a xs.length cap, .int .i64 n, .int .i64 m] w fun e w' => e = .returned (.int .i64 (addBV xs n m)) ∧ ∃ q, w' = w.drewN q := by
  by_cases hc : Biz.holB xs = true ∧ btw n 0 36524 = true ∧ btw m 0 30 = true
  · obtain ⟨h1, h2, h3⟩ := hc
    rw [addBV_t h1 h2 h3]; exact sAddB_yes w B a cap xs n m h hl h1 h2 h3
  · have hn : Biz.holB xs = false ∨ btw n 0 36524 = false ∨ btw m 0 30 = false := by
      cases h1 : Biz.holB xs <;> cases h2 : btw n 0 36524 <;> cases h3 : btw m 0 30 <;> simp_all
    rw [addBV_f hn]; exact sAddB_no w B a cap xs n m h hl hn
set_option maxHeartbeats 400000 in
theorem iAddB_no (w : World) (B : Nat) (a : Option Addr) (cap : Nat) (xs : List Int) (n m : Int) (h : Ints w B a xs) (hB : B ≤ w.heap.size) (hl : xs.length ≤ 1048576) (hn : Biz.holB xs = false ∨ btw n 0 36524 = false ∨ btw m 0 30 = false) :
    Calls Try.prog 9 #[.slice a xs.length cap, .int .i64 n, .int .i64 m] w fun e w' => e = .returned (.int .i64 (-1)) ∧ Below w.heap.size w w' := by
  have H := Lib.hid h; clear h
  cases h1 : Biz.holB xs <;> cases h2 : btw n 0 36524 <;> cases h3 : btw m 0 30
  case true.true.true => rw [h1, h2, h3] at hn; simp at hn
  all_goals
    clear hn
    have H1 := Lib.hid h1
    clear h1
    go_enter Try.func9, Try.ntmps9
    go_wp2_with (first | (go_at_call 14; refine (hol_no _ _ _ _ _ H.out hB hl H1.out).mono ?_; rintro e w1 ⟨rfl, hb1⟩) | (go_at_call 14; refine (hol_yes _ _ _ _ _ H.out hB hl H1.out).mono ?_; rintro e w1 ⟨b, k, rfl, hs, hb1⟩) | (go_at_call 15; refine (vday_any _ _).mono ?_; rintro e w' ⟨rfl, rfl⟩) | (go_at_call 17; refine (between_any _ _ _ _).mono ?_; rintro e w' ⟨rfl, rfl⟩))
    go_ret
    exact ⟨rfl, hb1⟩
set_option maxHeartbeats 800000 in
theorem iAddB_yes (w : World) (B : Nat) (a : Option Addr) (cap : Nat) (xs : List Int) (n m : Int) (h : Ints w B a xs) (hB : B ≤ w.heap.size) (hl : xs.length ≤ 1048576) (h1 : Biz.holB xs = true) (h2 : btw n 0 36524 = true) (h3 : btw m 0 30 = true) :
    Calls Try.prog 9 #[.slice a xs.length cap, .int .i64 n, .int .i64 m] w fun e w' => e = .returned (.int .i64 (Biz.add xs n m.toNat)) ∧ Below w.heap.size w w' := by
  have H := Lib.hid h; clear h
  obtain ⟨n0, n1⟩ := btw_iff.1 h2
  obtain ⟨m0, m1⟩ := btw_iff.1 h3
  have H1 := Lib.hid h1; clear h1
  go_enter Try.func9, Try.ntmps9
  go_wp2_with (first | (go_at_call 14; refine (hol_yes _ _ _ _ _ H.out hB hl H1.out).mono ?_; rintro e w1 ⟨b, p, rfl, hs, hb1⟩; replace hs := Lib.hid hs) | (go_at_call 15; refine (vday_any _ _).mono ?_; rintro e w' ⟨rfl, rfl⟩) | (go_at_call 17; refine (between_any _ _ _ _).mono ?_; rintro e w' ⟨rfl, rfl⟩) | (go_at_call 18; refine (iUp_any _ _ _ _ _ hs.out (by omega) (by omega)).mono ?_; rintro e w' ⟨rfl, rfl⟩))
  clear h2 h3
  go_loop [9, 10] (fun d i => ∃ k : Nat, (k : Int) ≤ m ∧ d = .int .i64 (Biz.add xs n k) ∧ i = .int .i64 k) (fun _ i => 31 - (intOf i).toNat)
  case atStart => exact ⟨0, by omega, rfl, rfl⟩
  case round =>
    obtain ⟨k, hk, rfl, rfl⟩ := hrel
    have hbd := Biz.add_bd xs n0 k
    by_cases hlt : (k : Int) < m
    · by_cases hneg : 0 ≤ Biz.add xs n k
      · have hbd2 : n ≤ Biz.add xs n k ∧ Biz.add xs n k ≤ 36524 := by
          rcases hbd with e | ⟨x, y, _⟩
          · omega
          · exact ⟨x, y⟩
        obtain ⟨b0, b1⟩ := hbd2
        have E := Lib.hid (add_step hneg)
        clear hbd
        go_wp2_with (go_at_call 18; refine (iUp_any _ _ _ _ _ hs.out (by omega) (by omega)).mono ?_; rintro e w' ⟨rfl, rfl⟩)
        go_round
        case rel => exact ⟨k + 1, by omega, by rw [E.out], by go_num⟩
        case measure => simp [intOf]; omega
      · have E := Lib.hid (add_stop (m := m.toNat) (by omega : Biz.add xs n k < 0) (by omega) (by rcases hbd with e | ⟨x, y, _⟩ <;> omega))
        clear hbd
        go_wp2_with fail
        go_ret
        exact ⟨ret_int E.out, hb1⟩
    · obtain ⟨j, rfl⟩ : ∃ j : Nat, m = j := ⟨m.toNat, by omega⟩
      obtain rfl : k = j := by omega
      clear hbd
      go_wp2_with fail
      go_ret
      exact ⟨ret_int (by simp), hb1⟩
theorem iAddB_any (w : World) (B : Nat) (a : Option Addr) (cap : Nat) (xs : List Int) (n m : Int) (h : Ints w B a xs) (hB : B ≤ w.heap.size) (hl : xs.length ≤ 1048576) :
    Calls Try.prog 9 #[.slice a xs.length cap, .int .i64 n, .int .i64 m] w fun e w' => e = .returned (.int .i64 (addBV xs n m)) ∧ Below w.heap.size w w' := by
  by_cases hc : Biz.holB xs = true ∧ btw n 0 36524 = true ∧ btw m 0 30 = true
  · obtain ⟨h1, h2, h3⟩ := hc
    rw [addBV_t h1 h2 h3]; exact iAddB_yes w B a cap xs n m h hB hl h1 h2 h3
  · have hn : Biz.holB xs = false ∨ btw n 0 36524 = false ∨ btw m 0 30 = false := by
      cases h1 : Biz.holB xs <;> cases h2 : btw n 0 36524 <;> cases h3 : btw m 0 30 <;> simp_all
    rw [addBV_f hn]; exact iAddB_no w B a cap xs n m h hB hl hn
/-- Two days in order, near each other. -/
def Span (x y : Int) : Prop := 0 ≤ x ∧ x ≤ y ∧ y ≤ 36524 ∧ y ≤ x + 4000
def spanB (x y : Int) : Bool := decide (0 ≤ x ∧ x ≤ y ∧ y ≤ 36524 ∧ y ≤ x + 4000)
theorem spanB_iff {x y : Int} : spanB x y = true ↔ Span x y := by unfold spanB Span; simp
theorem spanB_iff_f {x y : Int} : spanB x y = false ↔ ¬ Span x y := by unfold spanB Span; rw [decide_eq_false_iff_not]
noncomputable def cntV (xs : List Int) (x y : Int) : Int := if Biz.holB xs = true ∧ spanB x y = true then Biz.cnt xs x (y - x).toNat else -1
theorem cntV_t {xs : List Int} {x y : Int} (a : Biz.holB xs = true) (b : spanB x y = true) : cntV xs x y = Biz.cnt xs x (y - x).toNat := by unfold cntV; rw [if_pos ⟨a, b⟩]
theorem cntV_f {xs : List Int} {x y : Int} (a : Biz.holB xs = false ∨ spanB x y = false) : cntV xs x y = -1 := by
  unfold cntV; rw [if_neg]; rintro ⟨p, q⟩; rcases a with h | h <;> simp_all
theorem cnt_t {xs : List Int} {x : Int} {k : Nat} (h : Biz.biz xs (x + k) = true) : Biz.cnt xs x (k + 1) = Biz.cnt xs x k + 1 := by
  show Biz.cnt xs x k + (if Biz.biz xs (x + k) = true then 1 else 0) = _
  rw [if_pos h]
theorem cnt_f {xs : List Int} {x : Int} {k : Nat} (h : Biz.biz xs (x + k) = false) : Biz.cnt xs x (k + 1) = Biz.cnt xs x k := by
  show Biz.cnt xs x k + (if Biz.biz xs (x + k) = true then 1 else 0) = _
  rw [if_neg (by rw [h]; decide)]; omega
theorem span_s1 {x y : Int} (h : btw x 0 36524 = true) (hs : x + 4000 ≤ 36524) : btw y x (x + 4000) = spanB x y := by
  have := btw_iff.1 h
  cases e : spanB x y with
  | true => have := spanB_iff.1 e; unfold Span at this; exact btw_t (by omega) (by omega)
  | false => have := spanB_iff_f.1 e; unfold Span at this; exact btw_f (by omega)
theorem span_s2 {x y : Int} (h : btw x 0 36524 = true) (hs : 36524 ≤ x + 4000) : btw y x 36524 = spanB x y := by
  have := btw_iff.1 h
  cases e : spanB x y with
  | true => have := spanB_iff.1 e; unfold Span at this; exact btw_t (by omega) (by omega)
  | false => have := spanB_iff_f.1 e; unfold Span at this; exact btw_f (by omega)
theorem span_0 {x y : Int} (h : btw x 0 36524 = false) : spanB x y = false := by
  have := btw_iff_f.1 h
  rw [spanB_iff_f]; unfold Span; omega
end Go.Proofs.Ytdmamojidefdaaa
