/- The law of the period that has a day. -/
import Derived.Test.YtpbcfffhhdojmaaSchD
import Derived.Test.YtpbcfffhhdojmaaPat
import Derived.Outline
namespace Go.Proofs.Ytpbcfffhhdojmaa
open Go.RowKit
/-- A schedule and a day drawn. -/
def DPa (w : World) (x : Ending) (w' : World) : Prop :=
  ∃ (s e m d : Int) (v : Value), x = .returned (.tuple #[v, .int .i64 d]) ∧ (-1000000 ≤ d ∧ d ≤ 1000000) ∧ Rd w' v (Sc.sch s e m) ∧ (v = .slice none 0 0 ↔ Sc.sch s e m = []) ∧ Below w.heap.size w w'
set_option maxHeartbeats 1000000 in
theorem drawPat_any (w : World) (a : Option Addr) (len cap : Nat) (zs : List Int) (h : IsRow .u8 w a len cap zs) :
    Calls Try.prog 5 #[.slice a len cap] w (DPa w) := by
  have H := Lib.hid h; clear h
  go_enter Try.func5, Try.ntmps5
  go_wp2_with fail
  refine (newReader_any _ _ _ _ _ H.out).mono ?_
  rintro x w1 ⟨g, rfl, hg, hr, hb⟩
  have H1 := Lib.hid (isRow_below' H.out hb)
  go_wp2_with fail
  refine (drawSch_any _ _ _ _ _ H1.out).mono ?_
  rintro x w2 ⟨s, e, m, rfl, hs, he, hm, hb2⟩
  have hr2 := hr.below hb2 hr.lt
  go_wp2_with fail
  refine (sSchedule_any s e m _).mono ?_
  rintro x w3 ⟨v, rfl, hv, hn, hb3⟩
  have hr3 := hr2.below hb3 hr2.lt
  have hv2 := hv.lower (Nat.le_refl _)
  clear hv
  have HN := Lib.hid hn; clear hn
  go_wp2_with fail
  refine (pick_any _ _ _ _ hr3 (by omega) (by omega) (by omega)).mono ?_
  rintro x w4 ⟨u, rfl, ⟨hu, -⟩, hr4, hg4⟩
  obtain ⟨u0, u1⟩ := hu (by omega)
  go_wp2_with fail
  have ht : -3 ≤ (s + e).tdiv 2 ∧ (s + e).tdiv 2 ≤ 100000 := by
    rcases Int.lt_or_le (s + e) 0 with c | c
    · have : s + e = -1 ∨ s + e = -2 ∨ s + e = -3 := by omega
      rcases this with h | h | h <;> rw [h] <;> decide
    · rw [Int.tdiv_eq_ediv_of_nonneg c]; omega
  refine (one_any (-3) 100000 _ g (0 + 1) w4.heap.size _ _ (hr4.alloc _) (by omega) (heap_alloc_new w4 _) (by have := hr4.lt; omega) (by simp) (by simp) (by simp [okInts, okInt]; omega) 6 6 (by rfl)).mono ?_
  rintro x w5 ⟨d, rfl, ⟨d0, d1⟩, hr5, hg5⟩
  have hG := grown_trans (grown_alloc hg4 _) hg5
  have C3 : Below w.heap.size w w3 := hb.trans ((hb2.trans (hb3.mono hb2.size)).mono hb.size)
  have C5 := below_grown C3 hG hg
  have hv5 := hv2.kept hG (fun j hj => by injection hj with hj; subst hj; exact hr2.lt)
  go_wp2_with fail
  go_ret2
  exact ⟨s, e, m, d, v, rfl, by omega, hv5.rd, HN.out, C5⟩
/-- What is known of the period that has a day. -/
theorem pat_facts {s e m d : Int} (h : Sc.sch s e m ≠ []) :
    ∃ n : Nat, (Sc.sch s e m).length = n ∧ (1 ≤ n ∧ n ≤ 40) ∧ ((Sc.sch s e m).getD 0 p0).1 = s ∧ ((Sc.sch s e m).getD (n - 1) p0).2.1 = e ∧
      ((patV (Sc.sch s e m) d = -1 ∧ ¬ (s ≤ d ∧ d < e)) ∨ ∃ i : Nat, patV (Sc.sch s e m) d = i ∧ i < n ∧ s ≤ d ∧ d < e ∧ ((Sc.sch s e m).getD i p0).1 ≤ d ∧ d < ((Sc.sch s e m).getD i p0).2.1) := by
  obtain ⟨ok, hN, hall⟩ := Sc.sch_pos h
  have n1 := (Sc.isN ok).n1
  have hl : (Sc.sch s e m).length = Sc.N s e m := by rw [hall, Sc.all_len]
  have hf : ∀ i, i < Sc.N s e m → ∃ f t : Int, ∃ b : Bool, (Sc.sch s e m).getD i p0 = (f, t, b) ∧ f < t ∧ (i = 0 → f = s) ∧ (i + 1 = Sc.N s e m → t = e) ∧ (0 < i → f = ((Sc.sch s e m).getD (i - 1) p0).2.1) := fun i hi => by
    obtain ⟨f, t, b, hg, hlt, -, -, -, h0, h1, h2⟩ := Sc.all_facts ok hN hi
    rw [hall]
    exact ⟨f, t, b, hg, hlt, h0, h1, fun q => (h2 q).2⟩
  obtain ⟨n, hn⟩ : ∃ n, n = Sc.N s e m := ⟨_, rfl⟩
  rw [← hn] at hN n1 hl hf
  generalize hp : Sc.sch s e m = ps at hl hf ⊢
  have k0 : (ps.getD 0 p0).1 = s := by
    obtain ⟨f, t, b, hg, -, h0, -⟩ := hf 0 (by omega)
    rw [hg]; exact h0 rfl
  have k1 : (ps.getD (n - 1) p0).2.1 = e := by
    obtain ⟨f, t, b, hg, -, -, h1, -⟩ := hf (n - 1) (by omega)
    rw [hg]; exact h1 (by omega)
  have lt : ∀ i, i < n → (ps.getD i p0).1 < (ps.getD i p0).2.1 := fun i hi => by
    obtain ⟨f, t, b, hg, h0, -⟩ := hf i hi
    rw [hg]; exact h0
  have co : ∀ i, i + 1 < n → (ps.getD (i + 1) p0).1 = (ps.getD i p0).2.1 := fun i hi => by
    obtain ⟨f, t, b, hg, -, -, -, h0⟩ := hf (i + 1) hi
    have := h0 (by omega)
    rw [hg]; exact this
  have up : ∀ i, i < n → s ≤ (ps.getD i p0).1 := by
    intro i
    induction i with
    | zero => intro _; omega
    | succ i ih => intro hi; have := ih (by omega); have := lt i (by omega); have := co i hi; omega
  have dn : ∀ j, j < n → (ps.getD (n - 1 - j) p0).2.1 ≤ e := by
    intro j
    induction j with
    | zero => intro _; rw [Nat.sub_zero]; omega
    | succ j ih =>
      intro hj
      have := ih (by omega)
      have a := lt (n - 1 - j) (by omega)
      have b := co (n - 1 - (j + 1)) (by omega)
      rw [show n - 1 - (j + 1) + 1 = n - 1 - j by omega] at b
      omega
  have ex : ∀ k, k < n → s ≤ d → d < (ps.getD k p0).2.1 → ∃ j, j ≤ k ∧ hit ps d j := by
    intro k
    induction k with
    | zero => intro _ h1 h2; exact ⟨0, by omega, by unfold hit; omega⟩
    | succ k ih =>
      intro hk h1 h2
      by_cases c : d < (ps.getD k p0).2.1
      · obtain ⟨j, hj, hh⟩ := ih (by omega) h1 c
        exact ⟨j, by omega, hh⟩
      · have := co k hk
        exact ⟨k + 1, by omega, by unfold hit; omega⟩
  refine ⟨n, hl, ⟨n1, hN⟩, k0, k1, ?_⟩
  have hv : patV ps d = idx ps d := if_neg (by omega)
  rw [hv]
  rcases isAt_idx ps d with ⟨h1, h2⟩ | ⟨i, h1, h2, h3, -⟩
  · refine .inl ⟨h1, fun hc => ?_⟩
    obtain ⟨j, hj, hh⟩ := ex (n - 1) (by omega) hc.1 (by omega)
    exact h2 j (by omega) hh
  · have a := up i (by omega)
    have b := dn (n - 1 - i) (by omega)
    rw [show n - 1 - (n - 1 - i) = i by omega] at b
    unfold hit at h3
    exact .inr ⟨i, h1, by omega, by omega, by omega, h3.1, h3.2⟩
set_option maxHeartbeats 4000000 in
theorem lawPeriodAt (a : Option Addr) (len cap : Nat) (zs : List Int) (w : World) (h : IsRow .u8 w a len cap zs) :
    Calls Try.prog 3 #[.slice a len cap] w fun e w' => e = .returned (.bool true) ∧ Below w.heap.size w w' := by
  have H := Lib.hid h; clear h
  by_cases hl : 1048576 < (len : Int)
  · go_enter Try.func3, Try.ntmps3
    go_wp2_with fail
    go_ret
    exact ⟨rfl, Below.refl _ _⟩
  · have hl' := decide_eq_false hl
    clear hl
    go_enter Try.func3, Try.ntmps3
    go_wp2_with fail
    refine (drawPat_any _ _ _ _ _ H.out).mono ?_
    rintro x w0 ⟨s, e, m, d, v, rfl, ⟨d0, d1⟩, hr, hn, hB0⟩
    have hlen := Sc.sch_len s e m
    have HR := Lib.hid hr; clear hr
    have HN := Lib.hid hn; clear hn
    have B0 := Lib.hid hB0
    have HFF := Lib.hid (@pat_facts s e m d)
    obtain ⟨ps, hps⟩ : ∃ ps, ps = Sc.sch s e m := ⟨_, rfl⟩
    rw [← hps] at hlen HR HN HFF
    clear hps
    have HI := Lib.hid (fun W hv => periodAt_any W v ps d hv (by omega))
    have HS := Lib.hid (fun W hv => sPeriodAt_any W v ps d hv (by omega))
    obtain ⟨k, hk⟩ : ∃ k, k = patV ps d := ⟨_, rfl⟩
    rw [← hk] at HFF HI HS
    clear hk
    have kk : (k != k) = false := by simp
    have kk2 : (k == k) = true := by simp
    by_cases hz : ps = []
    · have z1 := HN.out.2 hz
      subst z1
      go_wp2_with fail
      refine (HI.out _ HR.out).mono ?_
      rintro x w1 ⟨rfl, hb1⟩
      have HR1 := Lib.hid (HR.out.below hb1 (Nat.le_refl _))
      have B1 := Lib.hid (B0.out.trans (hb1.mono B0.out.size))
      clear hb1
      go_wp2_with fail
      refine (HS.out _ HR1.out).mono ?_
      rintro x w2 ⟨rfl, rfl⟩
      go_wp2_with fail
      refine (HS.out _ HR1.out).mono ?_
      rintro x w2 ⟨rfl, rfl⟩
      go_wp2_with fail
      go_ret
      exact ⟨rfl, B1.out⟩
    · obtain ⟨n, hn, ⟨n1, n40⟩, g0, ge, hcase⟩ := HFF.out hz
      obtain ⟨b, c, rfl, hbl, hc⟩ := HR.out.2 (by omega)
      have HC := Lib.hid hc; clear hc
      have HNN := Lib.hid hn
      clear hz
      rw [hn] at HR HI HS ⊢
      clear hn
      have nz : ((n : Int) == 0) = false := by simp; omega
      go_wp2_with fail
      refine (HI.out _ HR.out).mono ?_
      rintro x w1 ⟨rfl, hb1⟩
      have HR1 := Lib.hid (HR.out.below hb1 (Nat.le_refl _))
      have B1 := Lib.hid (B0.out.trans (hb1.mono B0.out.size))
      obtain ⟨c0, -, -⟩ := HC.out 0 (by rw [HNN.out]; omega)
      obtain ⟨-, c1, -⟩ := HC.out (n - 1) (by rw [HNN.out]; omega)
      rw [g0] at c0
      rw [ge] at c1
      replace c0 := (hb1.cell (p := ⟨b, 0 * 3, none⟩) hbl).trans c0
      replace c1 := (hb1.cell (p := ⟨b, (n - 1) * 3 + 1, none⟩) hbl).trans c1
      simp only [Nat.zero_mul] at c0
      go_wp2_with fail
      refine (HS.out _ HR1.out).mono ?_
      rintro x w2 ⟨rfl, rfl⟩
      rcases hcase with ⟨rfl, hno⟩ | ⟨i, rfl, hi, h1, h2, h3, h4⟩
      · by_cases s1 : s ≤ d
        · have s2 : decide (d < e) = false := decide_eq_false (fun h => hno ⟨s1, h⟩)
          have s1' := decide_eq_true s1
          clear hno s1
          go_wp2_with fail
          go_ret
          exact ⟨ret_bool (by simp), B1.out⟩
        · have s1' := decide_eq_false s1
          clear hno s1
          go_wp2_with fail
          go_ret
          exact ⟨ret_bool (by simp), B1.out⟩
      · obtain ⟨e0, e1, -⟩ := HC.out i (by rw [HNN.out]; omega)
        replace e0 := (hb1.cell (p := ⟨b, i * 3, none⟩) hbl).trans e0
        replace e1 := (hb1.cell (p := ⟨b, i * 3 + 1, none⟩) hbl).trans e1
        generalize (ps.getD i p0).1 = p at e0 h3
        generalize (ps.getD i p0).2.1 = q at e1 h4
        have s1' := decide_eq_true h1
        have s2' := decide_eq_true h2
        have s3' := decide_eq_true h3
        have s4' := decide_eq_true h4
        have ni : decide ((i : Int) < 0) = false := decide_eq_false (by omega)
        have ni2 : decide ((0 : Int) ≤ (i : Int)) = true := decide_eq_true (by omega)
        have ni3 : decide ((i : Int) < (n : Int)) = true := decide_eq_true (by omega)
        have ni4 : decide (i < n) = true := decide_eq_true hi
        clear h1 h2 h3 h4
        go_wp2_with fail
        go_ret
        exact ⟨ret_bool (by simp), B1.out⟩
end Go.Proofs.Ytpbcfffhhdojmaa
