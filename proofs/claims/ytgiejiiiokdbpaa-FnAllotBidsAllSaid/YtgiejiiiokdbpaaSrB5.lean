/- The yield at which an auction stops: the program's loop. -/
import Derived.Test.YtgiejiiiokdbpaaSrB4
namespace Go.Proofs.Ytgiejiiiokdbpaa
open Go.RowKit
theorem Bd.run_at {qs : List Pr} {i : Nat} (hi : i < qs.length) (n : Int) : Bd.run (qs.drop i) n = if n - (qs.getD i pr0).2 ≤ 0 then (qs.getD i pr0).1 else Bd.run (qs.drop (i + 1)) (n - (qs.getD i pr0).2) := by
  rw [List.drop_eq_getElem_cons hi, Bd.getD_get hi]
  rfl
set_option maxRecDepth 8000 in
set_option maxHeartbeats 4000000 in
theorem stopYield_any (w : World) (v : Value) (ps : List Pr) (n : Int) (hv : R2o w v ps) (hm : ps.length ≤ 9223372036854775807) :
    Calls Try.prog 61 #[v, .int .i64 n] w fun e w' => e = .returned (.int .i64 (Bd.val ps n)) ∧ Below w.heap.size w w' := by
  have AU := Lib.hid (auction_any w v ps n hv hm)
  have HV := Lib.hid hv
  obtain ⟨⟨a, cap, rfl⟩, -⟩ := hv
  cases h : Bd.auc ps n with
  | false =>
    have E := Lib.hid (Bd.val_no h)
    have H := Lib.hid h; clear h
    go_enter Try.func61, Try.ntmps61
    go_wp2_with fail
    refine AU.out.mono ?_
    rw [H.out]
    rintro e w1 ⟨rfl, hb1⟩
    go_wp2_with fail
    go_ret
    exact ⟨ret_int E.out.symm, hb1⟩
  | true =>
    obtain ⟨hok, hn⟩ := (Bool.and_eq_true _ _).mp (show (Bd.ok ps && btw n 1 1000000000) = true from h)
    obtain ⟨n0, n1⟩ := btw_iff.1 hn
    obtain ⟨hl, hall⟩ := Bd.parts hok
    have E := Lib.hid ((Bd.val_yes h).trans (Bd.run_stop (Bs.all_perm ps) (Bs.all_asc ps) (fun p hp => by have := Bd.one_iff.1 (List.all_eq_true.1 hall p hp); omega) n0).symm)
    have HA := Lib.hid (fun i (hi : i < (Bs.all ps).length) => Bd.one_iff.1 (List.all_eq_true.1 hall _ ((Bs.all_perm ps).mem_iff.1 (Bd.mem_at hi))))
    have HLn := Lib.hid (Bs.all_len ps)
    have H := Lib.hid h; clear h hok hn hall
    have BF := Lib.hid (fun W (hb : Below w.heap.size w W) => best_any W _ ps (HV.out.below hb (Nat.le_refl _)) hl)
    go_enter Try.func61, Try.ntmps61
    go_wp2_with fail
    refine AU.out.mono ?_
    rw [H.out]
    rintro e w1 ⟨rfl, hb1⟩
    have HB1 := Lib.hid hb1; clear hb1
    go_wp2_with fail
    refine (BF.out _ HB1.out).mono ?_
    rintro e w2 ⟨v2, rfl, hF, hb2⟩
    have HB2 := Lib.hid (HB1.out.trans (hb2.mono HB1.out.size)); clear hb2
    have HR := Lib.hid hF.r2; clear hF
    generalize Bs.all ps = qs at E HA HLn HR
    have hql : qs.length ≤ 8 := by rw [HLn.out]; exact hl
    obtain ⟨⟨a2, c2, rfl⟩, -⟩ := HR.out
    have hsz := HB2.out.size
    have HE := Lib.hid (show ∀ m : Int, Bd.run (qs.drop qs.length) m = -1 from fun m => by rw [List.drop_length]; rfl)
    have HRA := Lib.hid (fun i (hi : i < qs.length) m => Bd.run_at hi m)
    have HS := Lib.hid (show Bd.run (qs.drop 0) n = Bd.val ps n by rw [List.drop_zero]; exact E.out.symm)
    obtain ⟨m, hmm⟩ : ∃ m, m = qs.length := ⟨_, rfl⟩
    rw [← hmm] at hql HR ⊢
    have HN := Lib.hid hmm; clear hmm
    go_wp2_with fail
    go_loopw [5, 16] (fun x y wr => ∃ (i : Nat) (r : Int), i ≤ m ∧ y = .int .i64 i ∧ x = .int .i64 r ∧ (1 ≤ r ∧ r ≤ 1000000000) ∧ Hid (Bd.run (qs.drop i) r = Bd.val ps n) ∧ Below w2.heap.size w2 wr) (fun _ y _ => m - (intOf y).toNat)
    case atStart => exact ⟨0, n, Nat.zero_le _, rfl, rfl, ⟨n0, n1⟩, HS, Below.refl _ _⟩
    case round =>
      obtain ⟨i, r, hi, rfl, rfl, ⟨r0, r1⟩, HRn, hb⟩ := hrel
      by_cases hlt : i < m
      · obtain ⟨b, d', e, hbl, hc⟩ := HR.out.2 (by rw [← HN.out]; omega)
        rw [← HN.out] at e
        simp only [Value.slice.injEq, true_and] at e
        obtain ⟨rfl, rfl⟩ := e
        obtain ⟨c0, c1⟩ := hc i (by rw [← HN.out]; exact hlt)
        replace c0 := (hb.cell (p := ⟨b, i * 2, none⟩) hbl).trans c0
        replace c1 := (hb.cell (p := ⟨b, i * 2 + 1, none⟩) hbl).trans c1
        clear hc
        obtain ⟨⟨a0, a1⟩, a2, a3⟩ := HA.out i (by rw [← HN.out]; exact hlt)
        have hra := (HRA.out i (by rw [← HN.out]; exact hlt) r).symm.trans HRn.out
        generalize qs.getD i pr0 = p at c0 c1 a0 a1 a2 a3 hra
        obtain ⟨x, y⟩ := p
        simp only at c0 c1 a0 a1 a2 a3 hra
        have hsr := hb.size
        by_cases c : r - y ≤ 0
        · rw [if_pos c] at hra
          have HX := Lib.hid hra; clear hra HRn
          go_wp2_with fail
          go_ret
          exact ⟨ret_int HX.out, HB2.out.trans ((hb.mono hsz).alloc (by omega) _)⟩
        · rw [if_neg c] at hra
          have HX := Lib.hid hra; clear hra HRn
          go_wp2_with fail
          go_roundw
          case rel => exact ⟨i + 1, r - y, by omega, by go_num, rfl, ⟨by omega, by omega⟩, HX, hb.alloc hsr _⟩
          case measure => simp [intOf]; omega
      · obtain rfl : i = m := by omega
        have HX : Hid (-1 = Bd.val ps n) := Lib.hid (by rw [← HRn.out, HN.out, HE.out])
        clear HRn
        go_wp2_with fail
        go_ret
        exact ⟨ret_int HX.out, HB2.out.trans (hb.mono hsz)⟩
end Go.Proofs.Ytgiejiiiokdbpaa
