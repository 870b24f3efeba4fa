/- The law of the next payment. -/
import Derived.Test.YtojhiclkaedplaaDoorNxt
namespace Go.Proofs.YtojhiclkaedplaaDoor
open Go.RowKit
set_option maxRecDepth 8000 in
set_option maxHeartbeats 4000000 in
theorem lawNextFlow (a : Option Addr) (len cap : Nat) (zs : List Int) (w : World) (h : IsRow .u8 w a len cap zs) (hT : Tab w) :
    Calls Tryd.prog 6 #[.slice a len cap] w fun e w' => e = .returned (.bool true) ∧ Below w.heap.size w w' := by
  have H := Lib.hid h; clear h
  have HT := Lib.hid hT; clear hT
  by_cases hl : 1048576 < (len : Int)
  · go_enter Tryd.func6, Tryd.ntmps6
    go_wp2_with fail
    go_ret
    exact ⟨rfl, Below.refl _ _⟩
  · have hl' := decide_eq_false hl
    clear hl
    go_enter Tryd.func6, Tryd.ntmps6
    go_wp2_with fail
    refine (drawNext_any _ _ _ _ _ H.out).mono ?_
    rintro x w0 ⟨s, e, m, r, d, rfl, hs, he, hm, hr, hd, hB0⟩
    have hi := nextFlow_any s e m r d
    have hss := sNextFlow_any s e m r d
    have HA := Lib.hid (flowsOf_any s e m r)
    have hl40 : (floL s e m r).length ≤ 40 := by rw [floL_len]; exact perL_len s e m r
    have HSO := Lib.hid (fun i i0 hi => flo_sorted (s := s) (e := e) (m := m) (r := r) i i0 hi)
    have HTL := Lib.hid (aft_tail d (floL s e m r) (fun i i0 hi => flo_sorted i i0 hi))
    have HT0 := Lib.hid (HT.out.below hB0 HT.out.pos)
    have HB := Lib.hid (hB0.alloc hB0.size (.cells #[.int .i64 s, .int .i64 e, .int .i64 m, .int .i64 r] 24))
    have KB := Lib.hid (Blk.new w0 #[.int .i64 s, .int .i64 e, .int .i64 m, .int .i64 r] 24)
    have HTA := Lib.hid (HT0.out.alloc (.cells #[.int .i64 s, .int .i64 e, .int .i64 m, .int .i64 r] 24))
    generalize floL s e m r = fs at hi hss HA hl40 HTL HSO
    obtain ⟨k, hk, hE, hle, hgt⟩ := HTL.out
    have HP : Hid (nxtP (aftL fs d) = fs.getD k f0) := Lib.hid (by
      unfold nxtP
      rw [hE, List.getD_eq_getElem?_getD, List.getD_eq_getElem?_getD, List.getElem?_drop]; rfl)
    have HQ : Hid (nxtB (aftL fs d) = decide (k < fs.length)) := Lib.hid (by
      unfold nxtB
      rw [hE, List.length_drop]
      by_cases c : k < fs.length
      · rw [decide_eq_true c, decide_eq_true (by omega)]
      · rw [decide_eq_false c, decide_eq_false (by omega)])
    unfold nxtV at hi hss
    rw [HP.out, HQ.out] at hi hss
    have HG : Hid (∀ i, i < fs.length → k < fs.length → (i < k → (fs.getD i f0).1 ≤ d ∧ (fs.getD i f0).1 ≠ (fs.getD k f0).1) ∧ (k < i → d < (fs.getD i f0).1 ∧ (fs.getD k f0).1 ≤ (fs.getD i f0).1)) := Lib.hid (by
      have mono : ∀ (j i : Nat), i + j < fs.length → (fs.getD i f0).1 ≤ (fs.getD (i + j) f0).1 := by
        intro j
        induction j with
        | zero => intro i _; exact Int.le_refl _
        | succ j ih =>
          intro i h
          have h1 := ih i (by omega)
          have h2 := HSO.out (i + j + 1) (by omega) (by omega)
          simp only [Nat.add_sub_cancel] at h2
          rw [show i + (j + 1) = i + j + 1 by omega]
          omega
      refine fun i hi q => ⟨fun c => ⟨hle i c, fun hc => ?_⟩, fun c => ⟨hgt i (by omega) hi, ?_⟩⟩
      · have h1 := hle i c
        have h2 := hgt k (Nat.le_refl _) q
        omega
      · have := mono (i - k) k (by omega)
        rwa [show k + (i - k) = i by omega] at this)
    have HGK : Hid (k < fs.length → d < (fs.getD k f0).1) := Lib.hid (fun q => hgt k (Nat.le_refl _) q)
    have HI := Lib.hid hi
    have HS := Lib.hid hss
    obtain ⟨n, hn⟩ : ∃ n, n = fs.length := ⟨_, rfl⟩
    rw [← hn] at HI HS HG HGK hl40 hk
    have HN := Lib.hid hn
    clear hi hss hle hgt hE HTL HP HQ HSO hn
    obtain ⟨p, hp⟩ : ∃ p, p = fs.getD k f0 := ⟨_, rfl⟩
    rw [← hp] at HI HS HG HGK
    have HPP := Lib.hid hp
    clear hp
    obtain ⟨D, A⟩ := p
    dsimp only at HI HS HG HGK
    obtain ⟨c0, c1, c2, c3⟩ := KB.out.four
    go_wp2_with fail
    refine (HI.out _ HTA.out).mono ?_
    rintro x w1 ⟨rfl, hb1⟩
    have K1 := Lib.hid (KB.out.below hb1 KB.out.lt)
    have HB1 := Lib.hid (HB.out.trans (hb1.mono HB.out.size))
    clear hb1 c0 c1 c2 c3
    have KF := Lib.hid (Blk.new w1 #[.int .i64 D, .int .i64 A] 33)
    have K1a := Lib.hid (K1.out.alloc (.cells #[.int .i64 D, .int .i64 A] 33))
    have HB1a := Lib.hid (HB1.out.alloc HB1.out.size (.cells #[.int .i64 D, .int .i64 A] 33))
    obtain ⟨c0, c1, c2, c3⟩ := K1a.out.four
    go_wp2_with fail
    refine (HS.out _).mono ?_
    rintro x w2 ⟨rfl, hb2⟩
    have K2 := Lib.hid (K1a.out.below hb2 K1a.out.lt)
    have KF2 := Lib.hid (KF.out.below hb2 KF.out.lt)
    have HB2 := Lib.hid (HB1a.out.trans (hb2.mono HB1a.out.size))
    clear hb2 c0 c1 c2 c3
    have KW := Lib.hid (Blk.new w2 #[.int .i64 D, .int .i64 A] 33)
    have K2a := Lib.hid (K2.out.alloc (.cells #[.int .i64 D, .int .i64 A] 33))
    have KF2a := Lib.hid (KF2.out.alloc (.cells #[.int .i64 D, .int .i64 A] 33))
    have HB2a := Lib.hid (HB2.out.alloc HB2.out.size (.cells #[.int .i64 D, .int .i64 A] 33))
    obtain ⟨c0, c1, c2, c3⟩ := K2a.out.four
    obtain ⟨⟨g0, g1⟩, -⟩ := KF2a.out.two
    obtain ⟨⟨v0, v1⟩, -⟩ := KW.out.two
    by_cases hz : k < n
    · simp only [decide_eq_true hz]
      go_wp2_with fail
      refine (HA.out _ (HT.out.below HB2a.out HT.out.pos)).mono ?_
      rintro x w3 ⟨v3, rfl, hr3, -, hb3⟩
      have K3 := Lib.hid (KF2a.out.below hb3 KF2a.out.lt)
      have HB3 := Lib.hid (HB2a.out.trans (hb3.mono HB2a.out.size))
      obtain ⟨b, c, rfl, hBb, hbl, ⟨hcap, hcm⟩, hcell, hfz⟩ := hr3.form (by have := HN.out; omega)
      rw [← HN.out] at hcell ⊢
      have HC := Lib.hid hcell
      clear hr3 hcell hfz hcap hcm g0 g1 v0 v1 c0 c1 c2 c3
      have HGK2 := HGK.out hz
      have HGG := Lib.hid (fun i hi => HG.out i hi hz)
      clear HGK HG
      go_wp2_with fail
      go_loopw [10, 11] (fun x y wr => ∃ i : Nat, i ≤ n ∧ x = .bool (decide (k < i)) ∧ y = .int .i64 i ∧ Below w3.heap.size w3 wr) (fun _ y _ => n - (intOf y).toNat)
      case atStart => exact ⟨0, Nat.zero_le _, by simp, rfl, Below.refl _ _⟩
      case round =>
        obtain ⟨i, hi, rfl, rfl, hb⟩ := hrel
        obtain ⟨⟨g0, g1⟩, -⟩ := (K3.out.below hb K3.out.lt).two
        have hsz := hb.size
        by_cases hlt : i < n
        · obtain ⟨d0, d1⟩ := HC.out i hlt
          replace d0 := (hb.cell (p := ⟨b, i * 2, none⟩) hbl).trans d0
          replace d1 := (hb.cell (p := ⟨b, i * 2 + 1, none⟩) hbl).trans d1
          obtain ⟨ha, hbk⟩ := HGG.out i hlt
          rcases Nat.lt_trichotomy i k with c | c | c
          · obtain ⟨f1, f2⟩ := ha c
            clear ha hbk
            generalize fs.getD i f0 = p at d0 d1 f1 f2
            obtain ⟨D1, A1⟩ := p
            dsimp only at d0 d1 f1 f2
            have e1 : (D1 == D) = false := by simpa using f2
            have e2 : decide (d < D1) = false := decide_eq_false (by omega)
            have e3 : decide (k < i) = false := decide_eq_false (by omega)
            have e4 : decide (k < i + 1) = false := decide_eq_false (by omega)
            simp only [e3]
            clear f2
            go_wp2_with fail
            go_quiet (fail)
            go_wp2_with fail
            go_quiet (fail)
            go_wp2_with fail
            go_roundw
            case rel => exact ⟨i + 1, by omega, by first | rw [e4] | simp [e4], by go_num, below_drewN hb _⟩
            case measure => simp [intOf] <;> omega
          · subst c
            rw [← HPP.out] at d0 d1
            dsimp only at d0 d1
            clear ha hbk
            have e2 : decide (d < D) = true := decide_eq_true HGK2
            have e3 : decide (i < i) = false := decide_eq_false (by omega)
            have e4 : decide (i < i + 1) = true := decide_eq_true (by omega)
            have e5 : decide (D < D) = false := decide_eq_false (by omega)
            simp only [e3]
            go_wp2_with fail
            go_quiet (fail)
            go_wp2_with fail
            go_quiet (fail)
            go_wp2_with fail
            go_roundw
            case rel => exact ⟨i + 1, by omega, by first | rw [e4] | simp [e4], by go_num, below_drewN hb _⟩
            case measure => simp [intOf] <;> omega
          · obtain ⟨f1, f2⟩ := hbk c
            clear ha hbk
            generalize fs.getD i f0 = p at d0 d1 f1 f2
            obtain ⟨D1, A1⟩ := p
            dsimp only at d0 d1 f1 f2
            have e2 : decide (d < D1) = true := decide_eq_true f1
            have e3 : decide (k < i) = true := decide_eq_true c
            have e4 : decide (k < i + 1) = true := decide_eq_true (by omega)
            have e5 : decide (D1 < D) = false := decide_eq_false (by omega)
            simp only [e3]
            go_wp2_with fail
            go_quiet (fail)
            go_wp2_with fail
            go_quiet (fail)
            go_wp2_with fail
            go_roundw
            case rel => exact ⟨i + 1, by omega, by first | rw [e4] | simp [e4], by go_num, below_drewN hb _⟩
            case measure => simp [intOf] <;> omega
        · obtain rfl : i = n := by omega
          have e3 : decide (k < i) = true := decide_eq_true hz
          have e4 : decide (d < D) = true := decide_eq_true HGK2
          simp only [e3]
          go_wp2_with fail
          go_ret
          exact ⟨rfl, HB3.out.trans (hb.mono HB3.out.size)⟩
    · simp only [decide_eq_false hz]
      go_wp2_with fail
      go_ret
      exact ⟨rfl, HB2a.out⟩
end Go.Proofs.YtojhiclkaedplaaDoor
