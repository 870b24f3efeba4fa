/- Prices in 64ths: in hundredths, on both sides; drawn; and the laws of hundredths. -/
import Derived.Test.YtoledkecgfhdbaaRpB
namespace Go.Proofs.Ytoledkecgfhdbaa
open Go.RowKit
/-- A price in hundredths. -/
def Qc.val (n : Int) : Int := if btw n 0 19200 = true then (2 * (100 * n) + 64) / 128 else -1
theorem Qc.no {n : Int} (h : btw n 0 19200 = false) : Qc.val n = -1 := if_neg (by rw [h]; simp)
theorem Qc.yes {n : Int} (h : btw n 0 19200 = true) : Qc.val n = (2 * (100 * n) + 64) / 128 := if_pos h
theorem vquote_any (n : Int) (w : World) : Calls Try.prog 40 #[.int .i64 n] w fun e w' => e = .returned (.bool (btw n 0 19200)) ∧ w = w' := by
  go_enter Try.func40, Try.ntmps40
  go_wp2_with fail
  refine (between_any _ _ _ _).mono ?_
  rintro e w' ⟨rfl, rfl⟩
  go_wp2_with fail
  go_ret
  exact ⟨rfl, rfl⟩
set_option maxHeartbeats 400000 in
theorem qround_any (a : Int) (w : World) (h0 : 0 ≤ a) (h1 : a ≤ 10000000) :
    Calls Try.prog 41 #[.int .i64 a, .int .i64 64] w fun e w' => e = .returned (.int .i64 ((2 * a + 64) / 128)) ∧ w = w' := by
  go_enter Try.func41, Try.ntmps41
  go_wp2_with fail
  refine (floored_any _ _ _ (by omega) (by omega) (by omega) (by omega)).mono ?_
  rintro e w2 ⟨rfl, rfl⟩
  go_wp2_with fail
  go_ret
  exact ⟨rfl, rfl⟩
set_option maxHeartbeats 400000 in
theorem snear_any (a : Int) (w : World) (h0 : 0 ≤ a) (h1 : a ≤ 10000000) :
    Calls Try.prog 42 #[.int .i64 a, .int .i64 64] w fun e w' => e = .returned (.int .i64 ((2 * a + 64) / 128)) ∧ w = w' := by
  go_enter Try.func42, Try.ntmps42
  go_wp2_with fail
  refine (sFloored_any _ _ _ (by omega) (by omega) (by omega) (by omega)).mono ?_
  rintro e w2 ⟨rfl, rfl⟩
  go_wp2_with fail
  go_ret
  exact ⟨rfl, rfl⟩
set_option maxHeartbeats 400000 in
theorem qcents_any (n : Int) (w : World) : Calls Try.prog 23 #[.int .i64 n] w fun e w' => e = .returned (.int .i64 (Qc.val n)) ∧ w = w' := by
  cases h : btw n 0 19200 with
  | false =>
    have E := Lib.hid (Qc.no h)
    have H := Lib.hid h; clear h
    go_enter Try.func23, Try.ntmps23
    go_wp2_with fail
    refine (vquote_any _ _).mono ?_
    rintro e w' ⟨rfl, rfl⟩
    rw [H.out]
    go_wp2_with fail
    go_ret
    exact ⟨ret_int E.out.symm, rfl⟩
  | true =>
    have E := Lib.hid (Qc.yes h)
    obtain ⟨n0, n1⟩ := btw_iff.1 h
    have H := Lib.hid h; clear h
    go_enter Try.func23, Try.ntmps23
    go_wp2_with fail
    refine (vquote_any _ _).mono ?_
    rintro e w' ⟨rfl, rfl⟩
    rw [H.out]
    go_wp2_with fail
    refine (qround_any _ _ (by omega) (by omega)).mono ?_
    rintro e w' ⟨rfl, rfl⟩
    go_wp2_with fail
    go_ret
    exact ⟨ret_int E.out.symm, rfl⟩
set_option maxHeartbeats 400000 in
theorem sqcents_any (n : Int) (w : World) : Calls Try.prog 24 #[.int .i64 n] w fun e w' => e = .returned (.int .i64 (Qc.val n)) ∧ w = w' := by
  cases h : btw n 0 19200 with
  | false =>
    have E := Lib.hid (Qc.no h)
    have H := Lib.hid h; clear h
    go_enter Try.func24, Try.ntmps24
    go_wp2_with fail
    refine (inRange_any _ _ _ _).mono ?_
    rintro e w' ⟨rfl, rfl⟩
    rw [H.out]
    go_wp2_with fail
    go_ret
    exact ⟨ret_int E.out.symm, rfl⟩
  | true =>
    have E := Lib.hid (Qc.yes h)
    obtain ⟨n0, n1⟩ := btw_iff.1 h
    have H := Lib.hid h; clear h
    go_enter Try.func24, Try.ntmps24
    go_wp2_with fail
    refine (inRange_any _ _ _ _).mono ?_
    rintro e w' ⟨rfl, rfl⟩
    rw [H.out]
    go_wp2_with fail
    refine (snear_any _ _ (by omega) (by omega)).mono ?_
    rintro e w' ⟨rfl, rfl⟩
    go_wp2_with fail
    go_ret
    exact ⟨ret_int E.out.symm, rfl⟩
set_option maxHeartbeats 1000000 in
theorem anyQuote_any (w : World) (g p : Nat) (h : Rdr w g p) (hp : p ≤ 800000) :
    Calls Try.prog 39 #[.pointer (some ⟨g, 0, none⟩)] w (Drawn (-1) 19201 3 w g p) := by
  have hgl := h.lt
  go_enter Try.func39, Try.ntmps39
  go_wp2_with fail
  refine (pick_any _ _ _ _ h (by omega) (by omega) (by omega)).mono ?_
  rintro e w1 ⟨v, rfl, ⟨hv, _⟩, hr, hg⟩
  obtain ⟨v0, v1⟩ := hv (by omega)
  have hgl1 := hr.lt
  clear hv
  go_wp2_with fail
  refine (pick_any _ _ _ _ hr (by omega) (by omega) (by omega)).mono ?_
  rintro e w2 ⟨u, rfl, ⟨hu, _⟩, hr2, hg2⟩
  obtain ⟨u0, u1⟩ := hu (by omega)
  have hgl2 := hr2.lt
  clear hu
  replace hg := grown_trans hg hg2
  have OK : Hid (okInts (-1) 19201 #[.int .i64 6400, .int .i64 6433, .int .i64 6369, .int .i64 0, .int .i64 1, .int .i64 63, .int .i64 64, .int .i64 19200, .int .i64 19201, .int .i64 (-1), .int .i64 (v * 76), .int .i64 u] = true) := Lib.hid (by simp [okInts, okInt]; omega)
  have W1 : IntKind.i64.wrap (v * 76) = v * 76 := IntWalk.i64_in _ (by omega)
  go_wp2_with fail
  refine (one_any (-1) 19201 _ g _ w2.heap.size _ _ (hr2.alloc _) (by omega) (heap_alloc_new w2 _) (by omega) (by simp) (by simp) OK.out 12 12 (by rfl)).mono ?_
  rintro e w3 ⟨x, rfl, hx, hr3, hg3⟩
  replace hg := grown_trans (grown_alloc hg _) hg3
  go_wp2_with fail
  go_ret
  exact ⟨x, rfl, hx, hr3, hg⟩
set_option maxHeartbeats 400000 in
theorem drawQC_any (w : World) (a : Option Addr) (len cap : Nat) (zs : List Int) (h : IsRow .u8 w a len cap zs) :
    Calls Try.prog 22 #[.slice a len cap] w (Drawn1 (-1) 19201 w) := by
  have H := Lib.hid h; clear h
  go_enter Try.func22, Try.ntmps22
  go_wp2_with fail
  refine (newReader_any _ _ _ _ _ H.out).mono ?_
  rintro e w1 ⟨g, rfl, hg, hr, hb⟩
  go_wp2_with fail
  refine (anyQuote_any _ _ _ hr (by omega)).mono ?_
  rintro e w2 ⟨x, rfl, hx, -, hg2⟩
  go_wp2_with fail
  go_ret
  exact ⟨x, rfl, hx, below_grown hb hg2 hg⟩
theorem absol_any (n : Int) (w : World) (h0 : -1000000000 ≤ n) (h1 : n ≤ 1000000000) : Calls Try.prog 25 #[.int .i64 n] w fun e w' => e = .returned (.int .i64 (if n < 0 then -n else n)) ∧ w = w' := by
  by_cases h : n < 0
  · rw [if_pos h]
    go_enter Try.func25, Try.ntmps25
    go_wp2_with fail
    go_ret
    exact ⟨rfl, rfl⟩
  · rw [if_neg h]
    have h' := decide_eq_false h
    go_enter Try.func25, Try.ntmps25
    go_wp2_with fail
    go_ret
    exact ⟨rfl, rfl⟩
set_option maxHeartbeats 1000000 in
theorem exQuoteCents (n : Int) (w : World) :
    Calls Try.prog 12 #[.int .i64 n] w fun e w' => e = .returned (.bool true) ∧ Below w.heap.size w w' := by
  have Q : (Qc.val n != Qc.val n) = false := by simp
  go_enter Try.func12, Try.ntmps12
  go_wp2_with fail
  refine (sqcents_any _ _).mono ?_
  rintro e w1 ⟨rfl, rfl⟩
  go_wp2_with fail
  refine (qcents_any _ _).mono ?_
  rintro e w1 ⟨rfl, rfl⟩
  go_wp2_with fail
  go_ret
  exact ⟨rfl, Below.refl _ _⟩
set_option maxHeartbeats 4000000 in
theorem lawQuoteCents (a : Option Addr) (len cap : Nat) (zs : List Int) (w : World) (h : IsRow .u8 w a len cap zs) :
    Calls Try.prog 7 #[.slice a len cap] w fun e w' => e = .returned (.bool true) ∧ Below w.heap.size w w' := by
  have H := Lib.hid h; clear h
  by_cases hl : 1048576 < (len : Int)
  · go_enter Try.func7, Try.ntmps7
    go_wp2_with fail
    go_ret
    exact ⟨rfl, Below.refl _ _⟩
  · have hl' := decide_eq_false hl
    clear hl
    go_enter Try.func7, Try.ntmps7
    go_wp2_with fail
    refine (drawQC_any _ _ _ _ _ H.out).mono ?_
    rintro e w1 ⟨n, rfl, ⟨n0, n1⟩, hb⟩
    cases h : btw n 0 19200 with
    | false =>
      have E := Lib.hid (Qc.no h); clear h
      go_wp2_with fail
      refine (qcents_any _ _).mono ?_
      rw [E.out]
      rintro e w2 ⟨rfl, rfl⟩
      go_wp2_with fail
      refine (sqcents_any _ _).mono ?_
      rw [E.out]
      rintro e w2 ⟨rfl, rfl⟩
      go_wp2_with fail
      refine (sqcents_any _ _).mono ?_
      rw [E.out]
      rintro e w2 ⟨rfl, rfl⟩
      go_wp2_with fail
      go_ret
      exact ⟨rfl, hb⟩
    | true =>
      have E0 := Qc.yes h
      obtain ⟨c, hc⟩ : ∃ c, c = (2 * (100 * n) + 64) / 128 := ⟨_, rfl⟩
      have E := Lib.hid (E0.trans hc.symm)
      obtain ⟨m0, m1⟩ := btw_iff.1 h
      have c0 : 0 ≤ c ∧ c ≤ 30000 := by omega
      obtain ⟨d, hd⟩ : ∃ d, d = (if 64 * c - 100 * n < 0 then -(64 * c - 100 * n) else 64 * c - 100 * n) := ⟨_, rfl⟩
      have HD := Lib.hid hd
      have d0 : d ≤ 32 := by rw [hd]; split <;> omega
      have d1 : decide (d ≤ 32) = true := decide_eq_true d0
      have hz : n % 64 = 0 → c = n / 64 * 100 := by omega
      have hcn : ¬ c < 0 := by omega
      have b0 : -1000000000 ≤ 64 * c - 100 * n := by omega
      have b1 : 64 * c - 100 * n ≤ 1000000000 := by omega
      have Q1 : (c != c) = false := by simp
      clear E0 h hc hd d0
      by_cases hm : n % 64 = 0
      · have f1 : (n % 64 != 0) = false := by simp [hm]
        have f2 : (c == n / 64 * 100) = true := by simp [hz hm]
        clear hm hz
        go_wp2_with fail
        refine (qcents_any _ _).mono ?_
        rw [E.out]
        rintro e w2 ⟨rfl, rfl⟩
        go_wp2_with fail
        refine (sqcents_any _ _).mono ?_
        rw [E.out]
        rintro e w2 ⟨rfl, rfl⟩
        go_wp2_with fail
        refine (absol_any _ _ b0 b1).mono ?_
        rw [← HD.out]
        rintro e w2 ⟨rfl, rfl⟩
        go_wp2_with fail
        go_ret
        exact ⟨rfl, hb⟩
      · have f1 : (n % 64 != 0) = true := by simp [hm]
        clear hm hz
        go_wp2_with fail
        refine (qcents_any _ _).mono ?_
        rw [E.out]
        rintro e w2 ⟨rfl, rfl⟩
        go_wp2_with fail
        refine (sqcents_any _ _).mono ?_
        rw [E.out]
        rintro e w2 ⟨rfl, rfl⟩
        go_wp2_with fail
        refine (absol_any _ _ b0 b1).mono ?_
        rw [← HD.out]
        rintro e w2 ⟨rfl, rfl⟩
        go_wp2_with fail
        go_ret
        exact ⟨rfl, hb⟩
set_option maxHeartbeats 4000000 in
theorem lawQuoteOrder (a : Option Addr) (len cap : Nat) (zs : List Int) (w : World) (h : IsRow .u8 w a len cap zs) :
    Calls Try.prog 8 #[.slice a len cap] w fun e w' => e = .returned (.bool true) ∧ Below w.heap.size w w' := by
  have H := Lib.hid h; clear h
  by_cases hl : 1048576 < (len : Int)
  · go_enter Try.func8, Try.ntmps8
    go_wp2_with fail
    go_ret
    exact ⟨rfl, Below.refl _ _⟩
  · have hl' := decide_eq_false hl
    clear hl
    go_enter Try.func8, Try.ntmps8
    go_wp2_with fail
    refine (drawQC_any _ _ _ _ _ H.out).mono ?_
    rintro e w1 ⟨n, rfl, ⟨n0, n1⟩, hb⟩
    cases h : btw n 0 19200 with
    | false =>
      have E := Lib.hid (Qc.no h); clear h
      go_wp2_with fail
      refine (qcents_any _ _).mono ?_
      rw [E.out]
      rintro e w2 ⟨rfl, rfl⟩
      go_wp2_with fail
      refine (sqcents_any _ _).mono ?_
      rw [E.out]
      rintro e w2 ⟨rfl, rfl⟩
      go_wp2_with fail
      refine (sqcents_any _ _).mono ?_
      rw [E.out]
      rintro e w2 ⟨rfl, rfl⟩
      go_wp2_with fail
      go_ret
      exact ⟨rfl, hb⟩
    | true =>
      obtain ⟨m0, m1⟩ := btw_iff.1 h
      by_cases h64 : n + 64 ≤ 19200
      · obtain ⟨c, hc⟩ : ∃ c, c = (2 * (100 * n) + 64) / 128 := ⟨_, rfl⟩
        have E := Lib.hid ((Qc.yes h).trans hc.symm)
        obtain ⟨d, hd⟩ : ∃ d, d = (2 * (100 * (n + 1)) + 64) / 128 := ⟨_, rfl⟩
        have E1 := Lib.hid ((Qc.yes (n := n + 1) (btw_t (by omega) (by omega))).trans hd.symm)
        have E2 := Lib.hid ((Qc.yes (n := n + 64) (btw_t (by omega) (by omega))).trans (show (2 * (100 * (n + 64)) + 64) / 128 = c + 100 by omega))
        have c0 : 0 ≤ c ∧ c ≤ 30000 := by omega
        have hcn : ¬ c < 0 := by omega
        have f0 : decide (19200 < n + 64) = false := decide_eq_false (by omega)
        have f1 : decide (c ≤ d) = true := decide_eq_true (by omega)
        have Q1 : (c != c) = false := by simp
        have Q2 : (c + 100 == c + 100) = true := by simp
        clear h hc hd h64
        go_wp2_with fail
        refine (qcents_any _ _).mono ?_
        rw [E.out]
        rintro e w2 ⟨rfl, rfl⟩
        go_wp2_with fail
        refine (sqcents_any _ _).mono ?_
        rw [E.out]
        rintro e w2 ⟨rfl, rfl⟩
        go_wp2_with fail
        refine (qcents_any _ _).mono ?_
        rw [E1.out]
        rintro e w2 ⟨rfl, rfl⟩
        go_wp2_with fail
        refine (qcents_any _ _).mono ?_
        rw [E2.out]
        rintro e w2 ⟨rfl, rfl⟩
        go_wp2_with fail
        go_ret
        exact ⟨rfl, hb⟩
      · obtain ⟨c, hc⟩ : ∃ c, c = (2 * (100 * n) + 64) / 128 := ⟨_, rfl⟩
        have E := Lib.hid ((Qc.yes h).trans hc.symm)
        have c0 : 0 ≤ c ∧ c ≤ 30000 := by omega
        have hcn : ¬ c < 0 := by omega
        have f0 : decide (19200 < n + 64) = true := decide_eq_true (by omega)
        have Q1 : (c != c) = false := by simp
        have Q2 : (c == c) = true := by simp
        clear h hc h64
        go_wp2_with fail
        refine (qcents_any _ _).mono ?_
        rw [E.out]
        rintro e w2 ⟨rfl, rfl⟩
        go_wp2_with fail
        refine (sqcents_any _ _).mono ?_
        rw [E.out]
        rintro e w2 ⟨rfl, rfl⟩
        go_wp2_with fail
        refine (sqcents_any _ _).mono ?_
        rw [E.out]
        rintro e w2 ⟨rfl, rfl⟩
        go_wp2_with fail
        go_ret
        exact ⟨rfl, hb⟩
end Go.Proofs.Ytoledkecgfhdbaa
