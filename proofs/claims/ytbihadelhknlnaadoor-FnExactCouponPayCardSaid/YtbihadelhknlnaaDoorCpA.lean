/- What holders get when a bond pays: the program. -/
import Derived.Test.YtbihadelhknlnaaDoorCpM
import Derived.Test.YtbihadelhknlnaaDoorZE
namespace Go.Proofs.YtbihadelhknlnaaDoor
open Go.RowKit
set_option maxRecDepth 8000 in
set_option maxHeartbeats 4000000 in
theorem paidOn_any (s e m r d : Int) (w : World) (hT : Tab w) :
    Calls Tryd.prog 23 #[.agg #[.int .i64 s, .int .i64 e, .int .i64 m, .int .i64 r], .int .i64 d] w fun x w' => x = .returned (.int .i64 (Cp.P s e m r d)) ∧ Below w.heap.size w w' := by
  have HF := Lib.hid (fun W hW => flowsOf_any s e m r W hW)
  have HT1 := Lib.hid (hT.alloc (.cells #[.int .i64 s, .int .i64 e, .int .i64 m, .int .i64 r] 24))
  have kB := Blk.new w #[.int .i64 s, .int .i64 e, .int .i64 m, .int .i64 r] 24
  have hB := (Below.refl w.heap.size w).alloc (Nat.le_refl _) (.cells #[.int .i64 s, .int .i64 e, .int .i64 m, .int .i64 r] 24)
  have HB0 := Lib.hid hB
  have hl40 : (floL s e m r).length ≤ 40 := by rw [floL_len]; exact perL_len s e m r
  have HHit := Lib.hid (fun k hk hj h => Cp.hit d (floL s e m r) k hk hj h)
  have HMiss := Lib.hid (fun h => (Cp.miss d (floL s e m r) h).1)
  unfold Cp.P
  obtain ⟨c0, c1, c2, c3⟩ := kB.four
  unfold CollF at HF
  clear hT kB hB
  generalize floL s e m r = fs at HF hl40 HHit HMiss ⊢
  obtain ⟨V, hV⟩ : ∃ V, V = Cp.pay d fs := ⟨_, rfl⟩
  rw [← hV] at HHit HMiss ⊢
  clear hV
  go_enter Tryd.func23, Tryd.ntmps23
  go_wp2_with fail
  refine (HF.out _ HT1.out).mono ?_
  rintro x w1 ⟨v, rfl, hr, -, hb⟩
  have HB1 := Lib.hid (HB0.out.trans (hb.mono HB0.out.size))
  obtain ⟨⟨a, c, rfl⟩, hcell⟩ := hr.rd
  have HC := Lib.hid hcell
  clear c0 c1 c2 c3 hr hb hcell
  obtain ⟨n, hn⟩ : ∃ n, n = fs.length := ⟨_, rfl⟩
  rw [← hn] at hl40 ⊢
  have HN := Lib.hid hn
  clear hn
  go_wp2_with fail
  go_loopw [10] (fun x wr => ∃ k : Nat, k ≤ n ∧ x = .int .i64 k ∧ Hid (∀ j, j < k → (fs.getD j f0).1 ≠ d) ∧ Hid (Below w1.heap.size w1 wr)) (fun x _ => n - (intOf x).toNat)
  case atStart => exact ⟨0, Nat.zero_le _, rfl, Lib.hid (fun j hj => by omega), Lib.hid (Below.refl _ _)⟩
  case round =>
    obtain ⟨k, hk, rfl, HJ, HB⟩ := hrel
    by_cases hlt : k < n
    · obtain ⟨b, c', e', hbl, hc⟩ := HC.out (by rw [← HN.out]; omega)
      rw [← HN.out] at e'
      simp only [Value.slice.injEq, true_and] at e'
      obtain ⟨rfl, rfl⟩ := e'
      obtain ⟨q0, q1⟩ := hc k (by rw [← HN.out]; exact hlt)
      replace q0 := (HB.out.cell (p := ⟨b, k * 2, none⟩) hbl).trans q0
      replace q1 := (HB.out.cell (p := ⟨b, k * 2 + 1, none⟩) hbl).trans q1
      clear hc
      have HK := Lib.hid (HHit.out k (by rw [← HN.out]; exact hlt) HJ.out)
      have HJ2 := Lib.hid (fun (h : (fs.getD k f0).1 ≠ d) => (show ∀ j, j < k + 1 → (fs.getD j f0).1 ≠ d from fun j hj => by
        by_cases e2 : j = k
        · rw [e2]; exact h
        · exact HJ.out j (by omega)))
      generalize fs.getD k f0 = p at q0 q1 HK HJ2
      obtain ⟨D, A⟩ := p
      simp only at q0 q1 HK HJ2
      have hi0 : (0 : Int) ≤ k := by omega
      have hi1 : (k : Int) < n := by omega
      by_cases hd : D = d
      · have he : (D == d) = true := by simp [hd]
        have HV := Lib.hid (HK.out hd)
        have HB2 := Lib.hid (HB1.out.trans ((HB.out.alloc HB.out.size (.cells #[.int .i64 D, .int .i64 A] 33)).mono HB1.out.size))
        clear hd
        go_wp2_with fail
        go_ret
        exact ⟨ret_int HV.out.symm, HB2.out⟩
      · have he : (D == d) = false := by simp [hd]
        have HJ3 := Lib.hid (HJ2.out hd)
        clear hd
        go_wp2_with fail
        go_roundw
        case rel => exact ⟨k + 1, by omega, by go_num, HJ3, Lib.hid (HB.out.alloc HB.out.size _)⟩
        case measure => simp [intOf]; omega
    · obtain rfl : k = n := by omega
      have HV := Lib.hid (HMiss.out (by rw [← HN.out]; exact HJ.out))
      go_wp2_with fail
      go_ret
      exact ⟨ret_int HV.out.symm, HB1.out.trans (HB.out.mono HB1.out.size)⟩
theorem Cp.val_no {s e m r d : Int} {hs : List Int} (h : vbB s e m r = false ∨ Ho.ok hs = false) : Cp.val s e m r hs d = [] := if_neg (fun k => by rcases h with h | h <;> simp [h] at k)
theorem Cp.val_yes {s e m r d : Int} {hs : List Int} (h : vbB s e m r = true) (h2 : Ho.ok hs = true) : Cp.val s e m r hs d = hs.map (· * Cp.P s e m r d) := if_pos ⟨h, h2⟩
theorem Cp.at {hs : List Int} {P : Int} {k : Nat} (hk : k < hs.length) : (hs.map (· * P)).getD k 0 = hs.getD k 0 * P := by
  rw [List.getD_eq_getElem?_getD, List.getElem?_map, List.getElem?_eq_getElem hk, List.getD_eq_getElem?_getD, List.getElem?_eq_getElem hk]; rfl
set_option maxRecDepth 8000 in
set_option maxHeartbeats 4000000 in
theorem couponPay_any (s e m r d : Int) (w : World) (hT : Tab w) (v : Value) (hs : List Int) (hv : R1o w v hs) (hm : hs.length ≤ 9223372036854775807) :
    Calls Tryd.prog 6 #[.agg #[.int .i64 s, .int .i64 e, .int .i64 m, .int .i64 r], v, .int .i64 d] w fun x w' => ∃ u, x = .returned u ∧ IRow w' w.heap.size u (Cp.val s e m r hs d) ∧ Below w.heap.size w w' := by
  have HT := Lib.hid (fun W (hW : Below w.heap.size w W) => hT.below hW hT.pos)
  have HB0 := Lib.hid ((Below.refl w.heap.size w).alloc (Nat.le_refl _) (.cells #[.int .i64 s, .int .i64 e, .int .i64 m, .int .i64 r] 24))
  have KB := Lib.hid (Blk.new w #[.int .i64 s, .int .i64 e, .int .i64 m, .int .i64 r] 24)
  have HV := Lib.hid (fun W (hW : Below w.heap.size w W) => hv.below hW (Nat.le_refl _))
  have VB := Lib.hid (fun W hW => validBond_any s e m r W hW)
  have VH := Lib.hid (fun W (hW : Below w.heap.size w W) => hold_any W v hs (HV.out W hW) hm)
  have PD := Lib.hid (fun W hW => paidOn_any s e m r d W hW)
  obtain ⟨⟨a, cap, rfl⟩, -⟩ := hv
  obtain ⟨c0, c1, c2, c3⟩ := KB.out.four
  clear hT
  cases hb : vbB s e m r with
  | false =>
    have HE := Lib.hid (Cp.val_no (s := s) (e := e) (m := m) (r := r) (d := d) (hs := hs) (.inl hb))
    rw [hb] at VB
    clear hb
    go_enter Tryd.func6, Tryd.ntmps6
    go_wp2_with fail
    refine (VB.out _ (HT.out _ HB0.out)).mono ?_
    rintro x w1 ⟨rfl, hb1⟩
    go_wp2_with fail
    go_ret
    rw [HE.out]
    exact ⟨_, rfl, IRow.nil _ _, HB0.out.trans (hb1.mono HB0.out.size)⟩
  | true =>
    rw [hb] at VB
    cases hh : Ho.ok hs with
    | false =>
      have HE := Lib.hid (Cp.val_no (s := s) (e := e) (m := m) (r := r) (d := d) (hs := hs) (.inr hh))
      rw [hh] at VH
      clear hb hh
      go_enter Tryd.func6, Tryd.ntmps6
      go_wp2_with fail
      refine (VB.out _ (HT.out _ HB0.out)).mono ?_
      rintro x w1 ⟨rfl, hb1⟩
      have HB1 := Lib.hid (HB0.out.trans (hb1.mono HB0.out.size))
      clear hb1 c0 c1 c2 c3
      go_wp2_with fail
      refine (VH.out _ HB1.out).mono ?_
      rintro x w2 ⟨rfl, hb2⟩
      go_wp2_with fail
      go_ret
      rw [HE.out]
      exact ⟨_, rfl, IRow.nil _ _, HB1.out.trans (hb2.mono HB1.out.size)⟩
    | true =>
      have HE := Lib.hid (Cp.val_yes (d := d) hb hh)
      rw [hh] at VH
      obtain ⟨l0, l1, hall⟩ := Ho.parts hh
      have HAt := Lib.hid (fun i (hi : i < hs.length) => Ho.at hall hi)
      obtain ⟨p0, p1⟩ := Cp.P_bd s e m r d
      have HQa := Lib.hid (fun k (hk : k < hs.length) => Cp.at (P := Cp.P s e m r d) hk)
      have HQl := Lib.hid (show (hs.map (· * Cp.P s e m r d)).length = hs.length from List.length_map _)
      clear hb hh hall
      obtain ⟨i0, hi, hz0, hz1, hz2⟩ := info_parts infoInt
      go_enter Tryd.func6, Tryd.ntmps6
      go_wp2_with fail
      refine (VB.out _ (HT.out _ HB0.out)).mono ?_
      rintro x w1 ⟨rfl, hb1⟩
      have HB1 := Lib.hid (HB0.out.trans (hb1.mono HB0.out.size))
      obtain ⟨d0, d1, d2, d3⟩ := (KB.out.below hb1 KB.out.lt).four
      have KB1 := Lib.hid (KB.out.below hb1 KB.out.lt)
      clear hb1 c0 c1 c2 c3
      go_wp2_with fail
      refine (VH.out _ HB1.out).mono ?_
      rintro x w2 ⟨rfl, hb2⟩
      have HB2 := Lib.hid (HB1.out.trans (hb2.mono HB1.out.size))
      obtain ⟨e0, e1, e2, e3⟩ := (KB1.out.below hb2 KB1.out.lt).four
      clear hb2 d0 d1 d2 d3
      go_wp2_with fail
      refine (PD.out _ (HT.out _ HB2.out)).mono ?_
      rintro x w3 ⟨rfl, hb3⟩
      have HB3 := Lib.hid (HB2.out.trans (hb3.mono HB2.out.size))
      clear hb3 e0 e1 e2 e3 VB VH PD
      generalize Cp.P s e m r d = P at *
      obtain ⟨qs, hqs⟩ : ∃ qs, qs = hs.map (· * P) := ⟨_, rfl⟩
      rw [← hqs] at HE HQa HQl
      clear hqs
      go_wp2_with (at_make; refine wpList_make_full _ rfl _ _ 25 rfl w3.heap.size 3 i0 (.int .i64 0) 1 Tryd.underlying25 hi hz0 hz1 .i64 .i64 _ _ hs.length rfl rfl rfl rfl (by rw [hz2]; omega) (by unfold maxLen; omega) (by omega) ?_; intro w4 hown hgrow)
      rw [made_ints1] at hown
      have HO : Hid (IRow w4 w3.heap.size (.slice (some ⟨w3.heap.size, 0, none⟩) (qs.take 0 ++ List.replicate (qs.length - 0) 0).length hs.length) (qs.take 0 ++ List.replicate (qs.length - 0) 0)) := Lib.hid (by unfold IRow; simpa [HQl.out] using hown)
      have HB4 := Lib.hid ((Below.refl w3.heap.size w3).grown hgrow (Nat.le_refl _) (fun j hj => by cases hj))
      have HV3 := Lib.hid (HV.out _ HB3.out)
      clear hown hgrow HV HT
      go_loopw [27] (fun x wr => ∃ k : Nat, k ≤ hs.length ∧ x = .int .i64 k ∧ Hid (IRow wr w3.heap.size (.slice (some ⟨w3.heap.size, 0, none⟩) (qs.take k ++ List.replicate (qs.length - k) 0).length hs.length) (qs.take k ++ List.replicate (qs.length - k) 0)) ∧ Hid (Below w3.heap.size w3 wr)) (fun x _ => hs.length - (intOf x).toNat)
      case atStart => exact ⟨0, Nat.zero_le _, rfl, HO, HB4⟩
      case round =>
        obtain ⟨k, hk, rfl, HK, HB⟩ := hrel
        by_cases hlt : k < hs.length
        · obtain ⟨b, off, c, e', hbb, hc⟩ := HV3.out.2 (by omega)
          simp only [Value.slice.injEq, true_and] at e'
          obtain ⟨rfl, rfl⟩ := e'
          have c0 := (HB.out.cell (p := ⟨b, off + k, none⟩) hbb).trans (hc k hlt)
          clear hc
          obtain ⟨h0, h1⟩ := HAt.out k hlt
          have HY := Lib.hid (HQa.out k hlt)
          have hlen : (qs.take k ++ List.replicate (qs.length - k) 0).length = hs.length := by rw [List.length_append, List.length_take, List.length_replicate, HQl.out]; omega
          obtain ⟨b4, cap4, e4, -, hbl4, -, hc4, hf4⟩ := HK.out.form (by rw [hlen]; omega)
          simp only [Value.slice.injEq, true_and, Option.some.injEq, Addr.mk.injEq, and_true] at e4
          obtain ⟨rfl, -⟩ := e4
          have d0 := hc4 k (by rw [hlen]; exact hlt)
          have g0 := hf4 k
          clear hc4 hf4
          have HS := Lib.hid (HK.out.store k (qs.getD k 0)).1
          rw [copy_int (by rw [HQl.out]; exact hlt), HY.out] at HS
          generalize List.getD (qs.take k ++ List.replicate (qs.length - k) 0) k 0 = y at d0
          generalize hs.getD k 0 = x at c0 HS h0 h1
          have u0 : 0 ≤ x * P := Int.mul_nonneg h0 p0
          have u1 : x * P ≤ 9999 * 130000000 := Int.mul_le_mul h1 p1 p0 (by decide)
          have W1 : IntKind.i64.wrap (x * P) = x * P := IntWalk.i64_in _ (by omega)
          go_wp2_with fail
          go_roundw
          case rel => exact ⟨k + 1, by omega, by go_num, HS, Lib.hid (HB.out.setCell (Nat.le_refl _) _)⟩
          case measure => simp [intOf]; omega
        · go_wp2_with fail
          go_ret
          have := HK.out
          rw [List.take_of_length_le (by rw [HQl.out]; omega), show qs.length - k = 0 by rw [HQl.out]; omega] at this
          simp only [List.replicate_zero, List.append_nil] at this
          rw [HQl.out] at this
          rw [HE.out]
          exact ⟨_, rfl, this.lower HB3.out.size, HB3.out.trans (HB.out.mono HB3.out.size)⟩
end Go.Proofs.YtbihadelhknlnaaDoor
