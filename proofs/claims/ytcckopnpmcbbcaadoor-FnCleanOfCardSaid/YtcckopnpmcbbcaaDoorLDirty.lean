/- The law of dirty prices. -/
import Derived.Test.YtcckopnpmcbbcaaDoorDrawDay
import Derived.Test.YtcckopnpmcbbcaaDoorAccB
import Derived.Outline
namespace Go.Proofs.YtcckopnpmcbbcaaDoor
open Go.RowKit
def DDirty (w : World) (x : Ending) (w' : World) : Prop :=
  ∃ s e m r d c : Int, x = .returned (.tuple #[boV s e m r, .int .i64 d, .int .i64 c]) ∧ (0 ≤ s ∧ s ≤ 20000) ∧ (-2 ≤ e ∧ e ≤ 60000) ∧ (0 ≤ m ∧ m ≤ 12) ∧ (-1 ≤ r ∧ r ≤ 3001) ∧ (-5 ≤ d ∧ d ≤ 20000000) ∧ (-1 ≤ c ∧ c ≤ 50001) ∧ Below w.heap.size w w'
set_option maxRecDepth 8000 in
set_option maxHeartbeats 2000000 in
theorem drawDirty_any (w : World) (a : Option Addr) (len cap : Nat) (zs : List Int) (h : IsRow .u8 w a len cap zs) :
    Calls Tryd.prog 37 #[.slice a len cap] w (DDirty w) := by
  have H := Lib.hid h; clear h
  have HB0 := Lib.hid ((Below.refl w.heap.size w).alloc (Nat.le_refl _) (.cells #[.int .i64 0, .int .i64 0, .int .i64 0, .int .i64 0] 24))
  have KR0 := Lib.hid (Blk.new w #[.int .i64 0, .int .i64 0, .int .i64 0, .int .i64 0] 24)
  have H1 := Lib.hid (isRow_below' H.out HB0.out)
  go_enter Tryd.func37, Tryd.ntmps37
  go_wp2_with fail
  refine (newReader_any _ _ _ _ _ H1.out).mono ?_
  rintro x w1 ⟨g, rfl, hg, hr, hb⟩
  have KR1 := Lib.hid (KR0.out.below hb KR0.out.lt)
  have HB1 := Lib.hid (HB0.out.trans (hb.mono HB0.out.size))
  have hg0 : w.heap.size < g := Nat.lt_of_lt_of_le KR0.out.lt hg
  clear hb
  go_wp2_with fail
  refine (bondDay_any _ _ _ hr (by omega)).mono ?_
  rintro x w2 ⟨s, e, m, r, d, rfl, hs, he, hm, hr', hd, hrd, hg2⟩
  have hgl := hrd.lt
  have HD := Lib.hid (hrd.alloc (.cells #[.int .i64 s, .int .i64 e, .int .i64 m, .int .i64 r] 24))
  have HR2 := Lib.hid ((KR1.out.grown hg2 (by omega)).alloc (.cells #[.int .i64 s, .int .i64 e, .int .i64 m, .int .i64 r] 24))
  have HB := HB1.out.grown hg2 HB1.out.size (fun j hj => by injection hj with hj; omega)
  have HBD := Lib.hid (HB.alloc HB.size (.cells #[.int .i64 s, .int .i64 e, .int .i64 m, .int .i64 r] 24))
  have HB2 := Lib.hid (Blk.new w2 #[.int .i64 s, .int .i64 e, .int .i64 m, .int .i64 r] 24)
  have hne : w.heap.size ≠ w2.heap.size := by have := (KR1.out.grown hg2 (by omega)).lt; omega
  clear hg2 hr hrd HB
  go_wp2_with fail
  generalize w2.alloc (.cells #[.int .i64 s, .int .i64 e, .int .i64 m, .int .i64 r] 24) = W0 at HD HR2 HBD HB2 ⊢
  go_region_held3 (S4 w2.heap.size s e m r) (first | with_reducible exact s4Of (blkDrew' HB2.out) | with_reducible exact s4Of k3 | with_reducible exact s4Of ((((k3.setO (by dsimp only; omega) _).setO (by dsimp only; omega) _).setO (by dsimp only; omega) _).setO (by dsimp only; omega) _)) (first | (go_at_call 63; refine (anyPrice_any _ g (0 + 30) ?_ (by omega)).mono ?_; (exact Rdr.drewD HD.out); rintro x w3 ⟨c, rfl, ⟨c0, c1⟩, hg3⟩; have k3 := Blk.grown (blkDrew' HB2.out) hg3 (by omega); have kR3 := Blk.grown (blkDrew' HR2.out) hg3 (by omega); obtain ⟨x0, x1, x2, x3⟩ := kR3.four; obtain ⟨z0, z1, z2, z3⟩ := fourFz kR3; have hb3 := HBD.out.drew.grown hg3 HBD.out.drew.size (fun j hj => by injection hj with hj; omega)))
  all_goals go_wp2_with fail
  all_goals
    have k2 := put4_blk kR3 s e m r
    obtain ⟨r0', r1', r2', r3'⟩ := k2.four
    unfold put4 at r0' r1' r2' r3'
    refine bodyPost_ret (v := .tuple #[boV s e m r, .int .i64 d, .int .i64 c]) (by simp [results, Tryd.results37, go_sem, r0', r1', r2', r3']) rfl ⟨s, e, m, r, d, c, rfl, hs, he, hm, hr', hd, ⟨c0, c1⟩, ?_⟩
    repeat (refine Below.setCell ?_ (by simp) _)
    exact hb3
theorem dir_yes {s e m r d c : Int} (h : 0 ≤ dirV s e m r d c) : runB s e m r d = true ∧ dirV s e m r d c = c + accV s e m r d ∧ cleV s e m r d (dirV s e m r d c) = .tuple #[.int .i64 c, .bool true] ∧ 0 ≤ c ∧ c ≤ 50000 := by
  unfold dirV at h ⊢
  split at h
  · rename_i k
    obtain ⟨k1, k2⟩ := k
    rw [if_pos ⟨k1, k2⟩]
    obtain ⟨c0, c1⟩ := btw_iff.1 k2
    refine ⟨k1, rfl, ?_, c0, c1⟩
    unfold cleV cleB
    rw [if_pos (by rw [k1, btw_t (by omega) (by omega)]; rfl), show c + accV s e m r d - accV s e m r d = c by omega]
  · omega
theorem dir_no {s e m r d c : Int} (h : dirV s e m r d c < 0) : dirV s e m r d c = -1 := by
  unfold dirV at h ⊢
  split
  · rename_i k
    rw [if_pos k] at h
    have := acc_bd k.1
    have := btw_iff.1 k.2
    omega
  · rfl
set_option maxRecDepth 8000 in
set_option maxHeartbeats 4000000 in
theorem lawDirtyOf (a : Option Addr) (len cap : Nat) (zs : List Int) (w : World) (h : IsRow .u8 w a len cap zs) (hT : Tab w) :
    Calls Tryd.prog 12 #[.slice a len cap] w fun e w' => e = .returned (.bool true) ∧ Below w.heap.size w w' := by
  have H := Lib.hid h; clear h
  have HT := Lib.hid hT; clear hT
  by_cases hl : 1048576 < (len : Int)
  · go_enter Tryd.func12, Tryd.ntmps12
    go_wp2_with fail
    go_ret
    exact ⟨rfl, Below.refl _ _⟩
  · have hl' := decide_eq_false hl
    clear hl
    go_enter Tryd.func12, Tryd.ntmps12
    go_wp2_with fail
    refine (drawDirty_any _ _ _ _ _ H.out).mono ?_
    rintro x w1 ⟨s, e, m, r, d, c, rfl, hs, he, hm, hr, hd, hc, hbA⟩
    have HI := Lib.hid (dirtyOf_any s e m r d c)
    have HS := Lib.hid (sDirtyOf_any s e m r d c)
    have HAC := Lib.hid (accruedOf_any s e m r d)
    have kB := Blk.new w1 #[.int .i64 s, .int .i64 e, .int .i64 m, .int .i64 r] 24
    replace hbA := hbA.alloc hbA.size (.cells #[.int .i64 s, .int .i64 e, .int .i64 m, .int .i64 r] 24)
    by_cases hn : dirV s e m r d c < 0
    · rw [dir_no hn] at HI HS
      clear hn
      go_wp2_with fail
      refine (HI.out _ (HT.out.below hbA HT.out.pos)).mono ?_
      rintro x w2 ⟨rfl, hb2⟩
      replace kB := kB.below hb2 kB.lt
      replace hbA := hbA.trans (hb2.mono hbA.size)
      obtain ⟨c0, c1, c2, c3⟩ := kB.four
      go_wp2_with fail
      refine (HS.out _).mono ?_
      rintro x w3 ⟨rfl, hb3⟩
      replace kB := kB.below hb3 kB.lt
      replace hbA := hbA.trans (hb3.mono hbA.size)
      clear c0 c1 c2 c3
      obtain ⟨c0, c1, c2, c3⟩ := kB.four
      go_wp2_with fail
      refine (HS.out _).mono ?_
      rintro x w4 ⟨rfl, hb4⟩
      replace hbA := hbA.trans (hb4.mono hbA.size)
      go_wp2_with fail
      go_ret
      exact ⟨ret_bool (by simp), hbA⟩
    · obtain ⟨hR, hv, hcl, hc0, hc1⟩ := dir_yes (s := s) (e := e) (m := m) (r := r) (d := d) (c := c) (by omega)
      have HC := Lib.hid (cleanOf_any s e m r d (dirV s e m r d c))
      rw [hcl] at HC
      obtain ⟨ac0, ac1⟩ := acc_bd hR
      rw [hv] at HI HS HC
      clear hn hv hcl hR
      generalize accV s e m r d = A at *
      have d0 : decide (c + A < 0) = false := decide_eq_false (by omega)
      have d1 : (c + A != c + A) = false := by simp
      have d2 : (c + A - c == A) = true := by simp; omega
      go_wp2_with fail
      refine (HI.out _ (HT.out.below hbA HT.out.pos)).mono ?_
      rintro x w2 ⟨rfl, hb2⟩
      replace kB := kB.below hb2 kB.lt
      replace hbA := hbA.trans (hb2.mono hbA.size)
      obtain ⟨c0, c1, c2, c3⟩ := kB.four
      go_wp2_with fail
      refine (HS.out _).mono ?_
      rintro x w3 ⟨rfl, hb3⟩
      replace kB := kB.below hb3 kB.lt
      replace hbA := hbA.trans (hb3.mono hbA.size)
      clear c0 c1 c2 c3
      obtain ⟨c0, c1, c2, c3⟩ := kB.four
      go_wp2_with fail
      refine (HC.out _ (HT.out.below hbA HT.out.pos)).mono ?_
      rintro x w4 ⟨rfl, hb4⟩
      replace kB := kB.below hb4 kB.lt
      replace hbA := hbA.trans (hb4.mono hbA.size)
      clear c0 c1 c2 c3
      obtain ⟨c0, c1, c2, c3⟩ := kB.four
      go_wp2_with fail
      refine (HAC.out _ (HT.out.below hbA HT.out.pos)).mono ?_
      rintro x w5 ⟨rfl, hb5⟩
      replace hbA := hbA.trans (hb5.mono hbA.size)
      go_wp2_with fail
      go_ret
      exact ⟨ret_bool (by simp), hbA⟩
end Go.Proofs.YtcckopnpmcbbcaaDoor
