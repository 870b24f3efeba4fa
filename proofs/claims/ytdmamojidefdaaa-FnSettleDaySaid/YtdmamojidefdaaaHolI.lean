/- The walks of business days: the set of holidays, the search, the sign of a business day. -/
import Derived.Test.YtdmamojidefdaaaHolW
import Derived.Test.YtdmamojidefdaaaSet
namespace Go.Proofs.Ytdmamojidefdaaa
open Go.RowKit
abbrev DaySet (w : World) (b n : Nat) (xs : List Int) : Prop := IsSet w Try.prog 3 4 b n xs
theorem zeroBool (w : World) : (zeroValue 4).run Try.prog w = .ok (.bool false) w := by kernel_rfl
theorem makeHint (x : Int) (w : World) : (Instr.makeMap 33 (some (.int .i64 x))).run Try.prog w = .ok (.map (some w.heap.size)) (w.alloc (.map #[] 0)) := by
  simp [Instr.makeMap, run_underlying Try.underlying33, asInt]; rfl
theorem wf_day {x : Int} (h0 : 0 ≤ x) (h1 : x ≤ 36524) : (Lit.int .i64 x).wf = true := WalkArith.wf_i64 (by omega)
theorem look_day {w : World} {b n : Nat} {xs : List Int} (h : DaySet w b n xs) {x : Int} (h0 : 0 ≤ x) (h1 : x ≤ 36524) :
    (Instr.lookup 33 (.map (some b)) (.int .i64 x) false).run Try.prog w = .ok (.bool (decide (x ∈ xs))) w :=
  h.look Try.underlying3 Try.underlying33 Try.underlying4 (zeroBool w) x (wf_day h0 h1)
set_option maxHeartbeats 400000 in
theorem wday_any (n : Int) (w : World) (h0 : 0 ≤ n) (h1 : n ≤ 36524) : Calls Try.prog 27 #[.int .i64 n] w fun e w' => e = .returned (.int .i64 (n % 7)) ∧ w = w' := by
  have hb := btw_t h0 h1
  go_enter Try.func27, Try.ntmps27
  go_wp2_with (go_at_call 15; refine (vday_any _ _).mono ?_; rintro e w' ⟨rfl, rfl⟩)
  go_ret
  exact ⟨rfl, rfl⟩
/-- What holidaysOf leaves. -/
def HolPost (xs : List Int) (w : World) (e : Ending) (w' : World) : Prop :=
  Below w.heap.size w w' ∧ ((Biz.holB xs = true ∧ ∃ b n, e = .returned (.tuple #[.map (some b), .bool true]) ∧ DaySet w' b n xs ∧ w.heap.size ≤ b) ∨ (Biz.holB xs = false ∧ e = .returned (.tuple #[.map none, .bool false])))
theorem holB_f3 {xs : List Int} {k : Nat} (hk : k < xs.length) (h : xs.getD k 0 < 0 ∨ 36524 < xs.getD k 0) : Biz.holB xs = false := Biz.holB_iff_f.2 (fun hA => by have := hA.2.2 k hk; omega)
theorem take_snocD {xs : List Int} {k : Nat} (hk : k < xs.length) : xs.take (k + 1) = xs.take k ++ [xs.getD k 0] := by
  rw [List.take_succ_eq_append_getElem hk, List.getD_eq_getElem?_getD, List.getElem?_eq_getElem hk]; rfl
set_option maxHeartbeats 1000000 in
theorem hol_any (w : World) (B : Nat) (a : Option Addr) (cap : Nat) (xs : List Int) (h : Ints w B a xs) (hB : B ≤ w.heap.size) (hl : xs.length ≤ 1048576) :
    Calls Try.prog 14 #[.slice a xs.length cap] w (HolPost xs w) := by
  have hr : R1o w (.slice a xs.length cap) xs := ⟨⟨_, _, rfl⟩, fun h0 => by
    obtain ⟨b, off, rfl, hb, hc⟩ := h h0
    exact ⟨b, off, cap, rfl, by omega, hc⟩⟩
  have AS := Lib.hid (asc_any w _ xs 12 hr (by omega))
  rw [Ed.hol] at AS
  have H := Lib.hid h; clear h hr
  have hm : (xs.length : Int) ≤ 1048576 := by omega
  cases hv : Biz.holB xs with
  | false =>
    rw [hv] at AS
    have HV := Lib.hid hv; clear hv
    go_enter Try.func14, Try.ntmps14
    go_wp2_with fail
    refine AS.out.mono ?_
    rintro e w1 ⟨rfl, hb1⟩
    go_wp2_with fail
    go_ret2
    exact ⟨hb1, .inr ⟨HV.out, rfl⟩⟩
  | true =>
    rw [hv] at AS
    have HV := Lib.hid hv; clear hv
    have HG := Lib.hid (fun i (hi : i < xs.length) => (Biz.holB_iff.1 HV.out).2.2 i hi)
    have hmk := makeHint
    go_enter Try.func14, Try.ntmps14
    go_wp2_with fail
    refine AS.out.mono ?_
    rintro e w1 ⟨rfl, hb1⟩
    have hsz := hb1.size
    have HB0 := Lib.hid (hb1.alloc hb1.size (.map #[] 0))
    clear hb1
    go_wp2_with fail
    clear hmk
    go_loopw [15] (fun i wr => ∃ k : Nat, k ≤ xs.length ∧ i = .int .i64 k ∧ Hid (DaySet wr w1.heap.size k (xs.take k)) ∧ Hid (Below w.heap.size w wr)) (fun i _ => xs.length - (intOf i).toNat)
    case atStart => exact ⟨0, Nat.zero_le _, rfl, Lib.hid (isSet_made _ _ _ _), HB0⟩
    case round =>
      obtain ⟨k, hk, rfl, HS, HN⟩ := hrel
      by_cases hlt : k < xs.length
      · obtain ⟨b, off, rfl, hb, hc⟩ := H.out (by omega)
        have hck : wr.cell? ⟨b, off + k, none⟩ = some (.int .i64 (xs.getD k 0)) := (HN.out.cell (p := ⟨b, off + k, none⟩) (by show b < w.heap.size; omega)).trans (hc k hlt)
        clear hc
        have HE := Lib.hid (HG.out k hlt)
        have hk1 : (k : Int) < xs.length := by omega
        have HT := Lib.hid (take_snocD hlt)
        generalize xs.getD k 0 = x at hck HE HT
        go_wp2_with (at_mapUpdate; refine wpList_mapUpdate_set _ rfl _ _ _ 33 rfl 3 4 Try.underlying3 Try.underlying33 Try.underlying4 w1.heap.size k _ rfl HS.out (by unfold maxLen; omega) _ rfl rfl (wf_day HE.out.1 HE.out.2) ?_; intro w2 hset2 hg2; replace hset2 := Lib.hid hset2; replace hg2 := Lib.hid hg2)
        go_roundw
        case rel =>
          refine ⟨k + 1, by omega, by go_num, ?_, Lib.hid (HN.out.grown hg2.out HN.out.size (fun j hj => by injection hj with hj; omega))⟩
          rw [HT.out]; exact hset2
        case measure => simp [intOf]; omega
      · go_wp2_with fail
        go_ret2
        refine ⟨HN.out, .inl ⟨HV.out, w1.heap.size, k, rfl, ?_, hsz⟩⟩
        have := HS.out
        rw [List.take_of_length_le (by omega)] at this
        exact this
/-- Where the holidays are valid. -/
def HolYes (xs : List Int) (w : World) (e : Ending) (w' : World) : Prop := ∃ b n, e = .returned (.tuple #[.map (some b), .bool true]) ∧ DaySet w' b n xs ∧ Below w.heap.size w w'
theorem hol_yes (w : World) (B : Nat) (a : Option Addr) (cap : Nat) (xs : List Int) (h : Ints w B a xs) (hB : B ≤ w.heap.size) (hl : xs.length ≤ 1048576) (hv : Biz.holB xs = true) :
    Calls Try.prog 14 #[.slice a xs.length cap] w (HolYes xs w) :=
  (hol_any w B a cap xs h hB hl).mono fun e w' ⟨hb, h⟩ => by
    rcases h with ⟨_, b, n, h1, h2, _⟩ | ⟨h1, _⟩
    · exact ⟨b, n, h1, h2, hb⟩
    · rw [hv] at h1; cases h1
theorem hol_no (w : World) (B : Nat) (a : Option Addr) (cap : Nat) (xs : List Int) (h : Ints w B a xs) (hB : B ≤ w.heap.size) (hl : xs.length ≤ 1048576) (hv : Biz.holB xs = false) :
    Calls Try.prog 14 #[.slice a xs.length cap] w fun e w' => e = .returned (.tuple #[.map none, .bool false]) ∧ Below w.heap.size w w' :=
  (hol_any w B a cap xs h hB hl).mono fun e w' ⟨hb, h⟩ => by
    rcases h with ⟨h1, _⟩ | ⟨_, h1⟩
    · rw [hv] at h1; cases h1
    · exact ⟨h1, hb⟩
set_option maxHeartbeats 400000 in
theorem open_any (w : World) (b k : Nat) (xs : List Int) (n : Int) (hs : DaySet w b k xs) (h0 : 0 ≤ n) (h1 : n ≤ 36524) :
    Calls Try.prog 16 #[.map (some b), .int .i64 n] w fun e w' => e = .returned (.bool (Biz.biz xs n)) ∧ w = w' := by
  have hlook := look_day hs h0 h1
  clear hs
  by_cases q : n % 7 < 5
  · have q1 := decide_eq_true q
    have E := Lib.hid (biz_at (xs := xs) q)
    clear q
    go_enter Try.func16, Try.ntmps16
    go_wp2_with (go_at_call 27; refine (wday_any _ _ h0 h1).mono ?_; rintro e w' ⟨rfl, rfl⟩)
    go_ret
    exact ⟨ret_bool E.out.symm, rfl⟩
  · have q1 := decide_eq_false q
    have E := Lib.hid (Biz.biz_f1 (xs := xs) q)
    clear q
    go_enter Try.func16, Try.ntmps16
    go_wp2_with (go_at_call 27; refine (wday_any _ _ h0 h1).mono ?_; rintro e w' ⟨rfl, rfl⟩)
    go_ret
    exact ⟨ret_bool E.out.symm, rfl⟩
set_option maxHeartbeats 400000 in
theorem iUp_any (w : World) (b m : Nat) (xs : List Int) (n : Int) (h : DaySet w b m xs) (n0 : 0 ≤ n) (n1 : n ≤ 36525) :
    Calls Try.prog 18 #[.map (some b), .int .i64 n, .int .i64 1] w fun e w' => e = .returned (.int .i64 (Biz.up xs n)) ∧ w = w' := by
  have H := Lib.hid h; clear h
  go_enter Try.func18, Try.ntmps18
  go_wp2_with fail
  go_loop [1] (fun i => ∃ k : Int, n ≤ k ∧ k ≤ 36525 ∧ i = .int .i64 k ∧ Hid (Biz.up xs k = Biz.up xs n)) (fun i => 36525 - (intOf i).toNat)
  case atStart => exact ⟨n, by omega, n1, rfl, Lib.hid rfl⟩
  case round =>
    obtain ⟨k, hk1, hk2, rfl, hn⟩ := hrel
    by_cases hlt : k ≤ 36524
    · have hbt : btw k 0 36524 = true := btw_t (by omega) hlt
      cases hbz : Biz.biz xs k with
      | true =>
        have E := Lib.hid (Biz.up_hit (by omega) hlt hbz)
        go_wp2_with (first | (go_at_call 15; refine (vday_any _ _).mono ?_; rintro e w' ⟨rfl, rfl⟩) | (go_at_call 16; refine (open_any _ _ _ _ _ H.out (by omega) (by omega)).mono ?_; rintro e w' ⟨rfl, rfl⟩))
        go_ret
        exact ⟨ret_int (E.out.symm.trans hn.out), rfl⟩
      | false =>
        have E := Lib.hid (Biz.up_miss (by omega) hbz)
        go_wp2_with (first | (go_at_call 15; refine (vday_any _ _).mono ?_; rintro e w' ⟨rfl, rfl⟩) | (go_at_call 16; refine (open_any _ _ _ _ _ H.out (by omega) (by omega)).mono ?_; rintro e w' ⟨rfl, rfl⟩))
        go_round
        case rel => exact ⟨k + 1, by omega, by omega, rfl, Lib.hid (E.out.trans hn.out)⟩
        case measure => simp [intOf]; omega
    · have hbt : btw k 0 36524 = false := btw_f (by omega)
      have E := Lib.hid (Biz.up_out (xs := xs) (n := k) (by omega))
      go_wp2_with (first | (go_at_call 15; refine (vday_any _ _).mono ?_; rintro e w' ⟨rfl, rfl⟩))
      go_ret
      exact ⟨ret_int (E.out.symm.trans hn.out), rfl⟩
set_option maxHeartbeats 400000 in
theorem iDn_any (w : World) (b m : Nat) (xs : List Int) (n : Int) (h : DaySet w b m xs) (n0 : -1 ≤ n) (n1 : n ≤ 36524) :
    Calls Try.prog 18 #[.map (some b), .int .i64 n, .int .i64 (-1)] w fun e w' => e = .returned (.int .i64 (Biz.dn xs n)) ∧ w = w' := by
  have H := Lib.hid h; clear h
  go_enter Try.func18, Try.ntmps18
  go_wp2_with fail
  go_loop [1] (fun i => ∃ k : Int, -1 ≤ k ∧ k ≤ n ∧ i = .int .i64 k ∧ Hid (Biz.dn xs k = Biz.dn xs n)) (fun i => (intOf i + 1).toNat)
  case atStart => exact ⟨n, n0, by omega, rfl, Lib.hid rfl⟩
  case round =>
    obtain ⟨k, hk1, hk2, rfl, hn⟩ := hrel
    by_cases hlt : 0 ≤ k
    · have hbt : btw k 0 36524 = true := btw_t hlt (by omega)
      cases hbz : Biz.biz xs k with
      | true =>
        have E := Lib.hid (Biz.dn_hit hlt hbz)
        go_wp2_with (first | (go_at_call 15; refine (vday_any _ _).mono ?_; rintro e w' ⟨rfl, rfl⟩) | (go_at_call 16; refine (open_any _ _ _ _ _ H.out (by omega) (by omega)).mono ?_; rintro e w' ⟨rfl, rfl⟩))
        go_ret
        exact ⟨ret_int (E.out.symm.trans hn.out), rfl⟩
      | false =>
        have E := Lib.hid (Biz.dn_miss hbz)
        go_wp2_with (first | (go_at_call 15; refine (vday_any _ _).mono ?_; rintro e w' ⟨rfl, rfl⟩) | (go_at_call 16; refine (open_any _ _ _ _ _ H.out (by omega) (by omega)).mono ?_; rintro e w' ⟨rfl, rfl⟩))
        go_round
        case rel => exact ⟨k - 1, by omega, by omega, rfl, Lib.hid (E.out.trans hn.out)⟩
        case measure => simp [intOf]; omega
    · have hbt : btw k 0 36524 = false := btw_f (by omega)
      have E := Lib.hid (Biz.dn_out (xs := xs) (n := k) (by omega))
      go_wp2_with (first | (go_at_call 15; refine (vday_any _ _).mono ?_; rintro e w' ⟨rfl, rfl⟩))
      go_ret
      exact ⟨ret_int (E.out.symm.trans hn.out), rfl⟩
set_option maxHeartbeats 400000 in
theorem isBiz_any (w : World) (B : Nat) (a : Option Addr) (cap : Nat) (xs : List Int) (n : Int) (h : Ints w B a xs) (hB : B ≤ w.heap.size) (hl : xs.length ≤ 1048576) :
    Calls Try.prog 8 #[.slice a xs.length cap, .int .i64 n] w fun e w' => e = .returned (.bool (isBizV xs n)) ∧ Below w.heap.size w w' := by
  have H := Lib.hid h; clear h
  cases hv : Biz.holB xs with
  | false =>
    have E := Lib.hid (isBizV_f1 (n := n) hv)
    have HV := Lib.hid hv; clear hv
    go_enter Try.func8, Try.ntmps8
    go_wp2_with (go_at_call 14; refine (hol_no _ _ _ _ _ H.out hB hl HV.out).mono ?_; rintro e w1 ⟨rfl, hb1⟩)
    go_ret
    exact ⟨ret_bool E.out.symm, hb1⟩
  | true =>
    cases hb : btw n 0 36524 with
    | false =>
      have E := Lib.hid (isBizV_f2 (xs := xs) hb)
      have HV := Lib.hid hv; clear hv
      go_enter Try.func8, Try.ntmps8
      go_wp2_with (first | (go_at_call 14; refine (hol_yes _ _ _ _ _ H.out hB hl HV.out).mono ?_; rintro e w1 ⟨b, k, rfl, hs, hb1⟩) | (go_at_call 15; refine (vday_any _ _).mono ?_; rintro e w' ⟨rfl, rfl⟩))
      go_ret
      exact ⟨ret_bool E.out.symm, hb1⟩
    | true =>
      have E := Lib.hid (isBizV_t hv hb)
      have bb := btw_iff.1 hb
      obtain ⟨b0, b1⟩ := bb
      have HV := Lib.hid hv; clear hv
      go_enter Try.func8, Try.ntmps8
      go_wp2_with (first | (go_at_call 14; refine (hol_yes _ _ _ _ _ H.out hB hl HV.out).mono ?_; rintro e w1 ⟨b, k, rfl, hs, hb1⟩; replace hs := Lib.hid hs) | (go_at_call 15; refine (vday_any _ _).mono ?_; rintro e w' ⟨rfl, rfl⟩) | (go_at_call 16; refine (open_any _ _ _ _ _ hs.out b0 b1).mono ?_; rintro e w' ⟨rfl, rfl⟩))
      go_ret
      exact ⟨ret_bool E.out.symm, hb1⟩
end Go.Proofs.Ytdmamojidefdaaa
