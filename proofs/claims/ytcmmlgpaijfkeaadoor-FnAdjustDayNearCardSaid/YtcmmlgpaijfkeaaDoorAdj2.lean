/- Adjusted days: the model's walk, draws, the exact law. -/
import Derived.Test.YtcmmlgpaijfkeaaDoorAdj
namespace Go.Proofs.YtcmmlgpaijfkeaaDoor
open Go.RowKit
theorem monV_t {xs : List Int} {n : Int} (h1 : Biz.holB xs = true) (n0 : 0 ≤ n) (hu : 0 ≤ Biz.up xs n) (hM : Cal.M (Biz.up xs n) = Cal.M n) : monV xs n = Biz.up xs n := by
  unfold monV
  rcases Biz.up_bd xs n0 with e | ⟨a, b, _⟩
  · omega
  · have hy := month_near n0 a b (Biz.up_near (Biz.holB_iff.1 h1).1 a) hM.symm
    rw [if_pos (by unfold smB; simp; exact ⟨hu, hy, hM.symm⟩)]
theorem monV_f1 {xs : List Int} {n : Int} (hu : Biz.up xs n < 0) : monV xs n = Biz.dn xs n := by
  unfold monV; rw [if_neg (by unfold smB; simp; omega)]
theorem monV_f2 {xs : List Int} {n : Int} (hM : Cal.M (Biz.up xs n) ≠ Cal.M n) : monV xs n = Biz.dn xs n := by
  unfold monV; rw [if_neg (by unfold smB; simp; intro _ _ h; exact hM h.symm)]
theorem field_month (x y z : Int) (w : World) : (Instr.field 30 (.agg #[.int .i64 x, .int .i64 y, .int .i64 z]) 1).run Tryd.prog w = .ok (.int .i64 y) w := by kernel_rfl
set_option maxHeartbeats 800000 in
theorem sAdjust_3 (w : World) (B : Nat) (a : Option Addr) (cap : Nat) (xs : List Int) (n : Int) (h : Ints w B a xs) (hB : B ≤ w.heap.size) (hl : xs.length ≤ 1048576) (hv : Biz.holB xs = true) (n0 : 0 ≤ n) (n1 : n ≤ 36524) :
    Calls Tryd.prog 30 #[.slice a xs.length cap, .int .i64 n, .int .i64 3] w fun e w' => e = .returned (.int .i64 (monV xs n)) ∧ Below w.heap.size w w' := by
  have H := Lib.hid h; clear h
  obtain ⟨u0, u1⟩ := up_bd2 xs n0
  by_cases hu : Biz.up xs n < 0
  · have E := Lib.hid (monV_f1 hu)
    go_enter Tryd.func30, Tryd.ntmps30
    go_wp2_with fail
    refine (sUp_any _ _ _ _ _ _ H.out hl n0 (by omega)).mono ?_
    rintro e w' ⟨rfl, rfl⟩
    go_wp2_with fail
    refine (sDn_any _ _ _ _ _ _ H.out hl (by omega) n1).mono ?_
    rintro e w' ⟨rfl, rfl⟩
    go_wp2_with fail
    go_ret
    exact ⟨ret_int E.out.symm, Below.refl _ _⟩
  · by_cases hM : Cal.M (Biz.up xs n) = Cal.M n
    · have E := Lib.hid (monV_t hv n0 (by omega) hM)
      have q : (Cal.M (Biz.up xs n) == Cal.M n) = true := by simp [hM]
      have HQ := Lib.hid q; clear q hM
      go_enter Tryd.func30, Tryd.ntmps30
      go_wp2_with fail
      refine (sUp_any _ _ _ _ _ _ H.out hl n0 (by omega)).mono ?_
      rintro e w' ⟨rfl, rfl⟩
      go_wp2_with fail
      refine (sDateOf_any _ _ (by omega) u1).mono ?_
      rintro e w1 ⟨rfl, hb1⟩
      have hfm := field_month
      go_wp2_with fail
      refine (sDateOf_any _ _ n0 n1).mono ?_
      rintro e w2 ⟨rfl, hb2⟩
      have q := HQ.out
      go_wp2_with fail
      go_ret
      exact ⟨ret_int E.out.symm, hb1.trans (hb2.mono hb1.size)⟩
    · have E := Lib.hid (monV_f2 hM)
      have q : (Cal.M (Biz.up xs n) == Cal.M n) = false := by simp [hM]
      have HQ := Lib.hid q; clear q hM
      go_enter Tryd.func30, Tryd.ntmps30
      go_wp2_with fail
      refine (sUp_any _ _ _ _ _ _ H.out hl n0 (by omega)).mono ?_
      rintro e w' ⟨rfl, rfl⟩
      go_wp2_with fail
      refine (sDateOf_any _ _ (by omega) u1).mono ?_
      rintro e w1 ⟨rfl, hb1⟩
      have hfm := field_month
      go_wp2_with fail
      refine (sDateOf_any _ _ n0 n1).mono ?_
      rintro e w2 ⟨rfl, hb2⟩
      have q := HQ.out
      go_wp2_with fail
      refine (sDn_any _ _ _ _ _ _ ((H.out.below hb1 hB).below hb2 (Nat.le_trans hB hb1.size)) hl (by omega) n1).mono ?_
      rintro e w' ⟨rfl, rfl⟩
      go_wp2_with fail
      go_ret
      exact ⟨ret_int E.out.symm, hb1.trans (hb2.mono hb1.size)⟩
set_option maxHeartbeats 800000 in
theorem sAdjust_any (w : World) (B : Nat) (a : Option Addr) (cap : Nat) (xs : List Int) (n r : Int) (h : Ints w B a xs) (hB : B ≤ w.heap.size) (hl : xs.length ≤ 1048576) (hv : Biz.holB xs = true) (hb : btw n 0 36524 = true) (hr : btw r 0 3 = true) :
    Calls Tryd.prog 30 #[.slice a xs.length cap, .int .i64 n, .int .i64 r] w fun e w' => e = .returned (.int .i64 (adjV xs n r)) ∧ Below w.heap.size w w' := by
  obtain ⟨n0, n1⟩ := btw_iff.1 hb
  obtain ⟨r0, r1⟩ := btw_iff.1 hr
  have H := Lib.hid h
  obtain rfl | rfl | rfl | rfl : r = 0 ∨ r = 1 ∨ r = 2 ∨ r = 3 := by omega
  · rw [adjV_0 hv hb]
    clear hv hb hr h
    go_enter Tryd.func30, Tryd.ntmps30
    go_wp2_with fail
    go_ret
    exact ⟨rfl, Below.refl _ _⟩
  · rw [adjV_1 hv hb]
    clear hv hb hr h
    go_enter Tryd.func30, Tryd.ntmps30
    go_wp2_with fail
    refine (sUp_any _ _ _ _ _ _ H.out hl n0 (by omega)).mono ?_
    rintro e w' ⟨rfl, rfl⟩
    go_wp2_with fail
    go_ret
    exact ⟨rfl, Below.refl _ _⟩
  · rw [adjV_2 hv hb]
    clear hv hb hr h
    go_enter Tryd.func30, Tryd.ntmps30
    go_wp2_with fail
    refine (sDn_any _ _ _ _ _ _ H.out hl (by omega) n1).mono ?_
    rintro e w' ⟨rfl, rfl⟩
    go_wp2_with fail
    go_ret
    exact ⟨rfl, Below.refl _ _⟩
  · rw [adjV_3 hv hb]
    exact sAdjust_3 w B a cap xs n h hB hl hv n0 n1
set_option maxHeartbeats 400000 in
theorem sAdj_any (w : World) (B : Nat) (a : Option Addr) (cap : Nat) (xs : List Int) (n r : Int) (h : Ints w B a xs) (hB : B ≤ w.heap.size) (hl : xs.length ≤ 1048576) :
    Calls Tryd.prog 10 #[.slice a xs.length cap, .int .i64 n, .int .i64 r] w fun e w' => e = .returned (.int .i64 (adjV xs n r)) ∧ Below w.heap.size w w' := by
  have H := Lib.hid h; clear h
  cases h1 : Biz.holB xs <;> cases h2 : btw n 0 36524 <;> cases h3 : btw r 0 3
  case true.true.true =>
    have H1 := Lib.hid h1
    have H2 := Lib.hid h2
    have H3 := Lib.hid h3
    go_enter Tryd.func10, Tryd.ntmps10
    go_wp2_with (first | (go_at_call 28; refine (sValidHol_any _ _ _ _ _ H.out hl).mono ?_; rintro e w' ⟨rfl, m, rfl⟩) | (go_at_call 29; refine (inRange_any _ _ _ _).mono ?_; rintro e w' ⟨rfl, rfl⟩))
    refine (sAdjust_any _ _ _ _ _ _ _ (H.out.drewN _) hB hl H1.out H2.out H3.out).mono ?_
    rintro e w2 ⟨rfl, hb2⟩
    go_wp2_with fail
    go_ret
    exact ⟨rfl, (below_drewN (Below.refl _ w) _).trans hb2⟩
  all_goals
    have E := Lib.hid (show adjV xs n r = -1 from by
      first
        | exact adjV_f (.inl h1)
        | exact adjV_f (.inr h2)
        | exact adjV_o (by have := btw_iff_f.1 h3; omega))
    go_enter Tryd.func10, Tryd.ntmps10
    go_wp2_with (first | (go_at_call 28; refine (sValidHol_any _ _ _ _ _ H.out hl).mono ?_; rintro e w' ⟨rfl, m, rfl⟩) | (go_at_call 29; refine (inRange_any _ _ _ _).mono ?_; rintro e w' ⟨rfl, rfl⟩))
    go_ret
    exact ⟨ret_int E.out.symm, below_drewN (Below.refl _ w) _⟩
set_option maxHeartbeats 400000 in
theorem drawAdj_any (w : World) (a : Option Addr) (len cap : Nat) (zs : List Int) (h : IsRow .u8 w a len cap zs) :
    Calls Tryd.prog 8 #[.slice a len cap] w (DHol2 w) := by
  have H := Lib.hid h; clear h
  go_enter Tryd.func8, Tryd.ntmps8
  go_wp2_with fail
  refine (newReader_any _ _ _ _ _ H.out).mono ?_
  rintro e w1 ⟨g, rfl, hg, hr, hb⟩
  go_wp2_with fail
  refine (anyDay_any _ _ _ hr (by omega)).mono ?_
  rintro e w2 ⟨n, rfl, ⟨n0, n1⟩, hr2, hk⟩
  go_wp2_with fail
  refine (pick_any _ _ _ _ hr2 (by omega) (by omega) (by omega)).mono ?_
  rintro e w3 ⟨v, rfl, _, hr3, hk3⟩
  have hk3' := grown_trans hk hk3
  by_cases c0 : v = 0
  · subst c0
    go_wp2_with fail
    refine (one_any 0 36524 _ g _ w3.heap.size _ _ (hr3.alloc _) (by omega) (heap_alloc_new w3 _) (by have := hr3.lt; omega) (by decide) (by decide) (by decide) 8 8 (by rfl)).mono ?_
    rintro e w4 ⟨m, rfl, ⟨m0, m1⟩, hr4, hk4⟩
    have hk4' := grown_trans (grown_alloc hk3' _) hk4
    go_wp2_with fail
    refine (anyHol_any _ _ _ _ hr4 (by omega) (by omega) (by omega)).mono ?_
    rintro e w5 ⟨a3, c3, xs, rfl, hi, hl, hc, hr5, hk5⟩
    have HI := Lib.hid hi; clear hi hc
    go_wp2_with fail
    refine (one_any (-1) 4 _ g _ w5.heap.size _ _ (hr5.alloc _) (by omega) (heap_alloc_new w5 _) (by have := hr5.lt; omega) (by decide) (by decide) (by decide) 7 7 (by rfl)).mono ?_
    rintro e w6 ⟨r, rfl, hm, hr6, hk6⟩
    have HI4 := Lib.hid ((HI.out.alloc _).kept hk6)
    go_wp2_with fail
    go_ret3
    exact ⟨a3, c3, xs, m, r, rfl, HI4.out.ints, hl, by omega, by omega, below_grown hb (grown_trans (grown_trans hk4' hk5) (grown_trans (grown_alloc (grown_refl _ _) _) hk6)) hg⟩
  · have e0 : (v == 0) = false := by simp [c0]
    go_wp2_with fail
    refine (anyHol_any _ _ _ _ hr3 (by omega) (by omega) (by omega)).mono ?_
    rintro e w5 ⟨a3, c3, xs, rfl, hi, hl, hc, hr5, hk5⟩
    have HI := Lib.hid hi; clear hi hc
    go_wp2_with fail
    refine (one_any (-1) 4 _ g _ w5.heap.size _ _ (hr5.alloc _) (by omega) (heap_alloc_new w5 _) (by have := hr5.lt; omega) (by decide) (by decide) (by decide) 7 7 (by rfl)).mono ?_
    rintro e w6 ⟨r, rfl, hm, hr6, hk6⟩
    have HI4 := Lib.hid ((HI.out.alloc _).kept hk6)
    go_wp2_with fail
    go_ret3
    exact ⟨a3, c3, xs, n, r, rfl, HI4.out.ints, hl, by omega, by omega, below_grown hb (grown_trans (grown_trans hk3' hk5) (grown_trans (grown_alloc (grown_refl _ _) _) hk6)) hg⟩
set_option maxHeartbeats 1000000 in
theorem exAdjustDay (a : Option Addr) (len cap : Nat) (zs : List Int) (n : Int) (r : Int) (w : World) (h : IsRow .i64 w a len cap zs) (hT : Tab w) :
    Calls Tryd.prog 7 #[.slice a len cap, .int .i64 n, .int .i64 r] w fun e w' => e = .returned (.bool true) ∧ Below w.heap.size w w' := by
  obtain ⟨hlen, hI⟩ := ints_of_row h
  have HT := Lib.hid hT
  clear h hT
  generalize zs.take len = xs at hlen hI
  obtain rfl : len = xs.length := hlen.symm
  clear hlen
  have HI := Lib.hid hI; clear hI
  by_cases hbig : 1048576 < (xs.length : Int)
  · go_enter Tryd.func7, Tryd.ntmps7
    go_wp2_with fail
    go_ret
    exact ⟨rfl, Below.refl _ _⟩
  · have hl : xs.length ≤ 1048576 := by omega
    have hne : (adjV xs n r != adjV xs n r) = false := by simp
    have HN := Lib.hid hne; clear hne
    go_enter Tryd.func7, Tryd.ntmps7
    go_wp2_with fail
    refine (toIntS_any _ _ _ _ _ HI.out (Nat.le_refl _) hl).mono ?_
    rintro e w1 ⟨b1, c1, rfl, hi1, hb1⟩
    have HI1 := Lib.hid hi1; clear hi1
    have hs1 := hb1.size
    go_wp2_with fail
    refine (sAdj_any _ _ _ _ _ _ _ HI1.out (Nat.le_refl _) hl).mono ?_
    rintro e w2 ⟨rfl, hb2'⟩
    have hb2 := hb1.trans (hb2'.mono hs1)
    have hs2 := hb2.size
    go_wp2_with fail
    refine (toIntS_any _ _ _ _ _ (HI.out.below hb2 (Nat.le_refl _)) hs2 hl).mono ?_
    rintro e w3 ⟨b3, c3, rfl, hi3, hb3⟩
    have HI3 := Lib.hid hi3; clear hi3
    have hs3 := hb3.size
    have hb4 := hb2.trans (hb3.mono hs2)
    go_wp2_with fail
    refine (iAdj_any _ _ _ _ _ _ _ HI3.out (HT.out.below hb4 HT.out.pos) (Nat.le_refl _) hl).mono ?_
    rintro e w5 ⟨rfl, hb5⟩
    have hs4 : w.heap.size ≤ w3.heap.size := hb4.size
    have hs5 := hb5.size
    have hb6 := hb4.trans (hb5.mono hs4)
    have HI5 := Lib.hid (HI3.out.below hb5 (Nat.le_refl _))
    have hne := HN.out
    go_wp2_with fail
    refine (toIntS_any _ _ _ _ _ (HI.out.below hb6 (Nat.le_refl _)) (by omega) hl).mono ?_
    rintro e w7 ⟨b7, c7, rfl, hi7, hb7⟩
    have HI7 := Lib.hid hi7; clear hi7
    clear hne
    go_wp2_with fail
    refine (eqIntS_same _ _ _ _ _ _ _ _ (HI5.out.below hb7 hs5) HI7.out hl).mono ?_
    rintro e w8 ⟨rfl, q, rfl⟩
    go_wp2_with fail
    go_ret
    exact ⟨rfl, below_drewN' (hb6.trans (hb7.mono (by omega))) q⟩
end Go.Proofs.YtcmmlgpaijfkeaaDoor
