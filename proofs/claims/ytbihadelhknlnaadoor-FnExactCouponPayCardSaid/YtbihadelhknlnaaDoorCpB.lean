/- What holders get when a bond pays: the model. -/
import Derived.Test.YtbihadelhknlnaaDoorCpA
import Derived.Deep.RegionHeldLaw
namespace Go.Proofs.YtbihadelhknlnaaDoor
open Go.RowKit
theorem toIntC_any (b : Bool) (w : World) : Calls Tryd.prog 27 #[.bool b] w fun e w' => e = .returned (.int .i64 (if b = true then 1 else 0)) ∧ w = w' := by
  cases b <;>
  · go_enter Tryd.func27, Tryd.ntmps27
    go_wp2_with fail
    go_ret
    exact ⟨rfl, rfl⟩
theorem Cp.one_mul {d D A : Int} : A * (if (D == d) = true then 1 else 0) = Cp.one d (D, A) := by
  unfold Cp.one
  by_cases h : D = d
  · rw [if_pos (by simp [h]), if_pos h]; show A * 1 = A; omega
  · rw [if_neg (by simp [h]), if_neg h]; omega
theorem Cp.snocI {hs : List Int} {P : Int} {k : Nat} (hk : k < hs.length) : (hs.take (k + 1)).map (· * P) = (hs.take k).map (· * P) ++ [hs.getD k 0 * P] := by
  rw [take_snoc1 hk, List.map_append]; rfl
set_option maxRecDepth 8000 in
set_option maxHeartbeats 4000000 in
theorem scouponPay_any (s e m r d : Int) (w : World) (v : Value) (hs : List Int) (hv : R1o w v hs) (hm : hs.length ≤ 9223372036854775807) :
    Calls Tryd.prog 8 #[.agg #[.int .i64 s, .int .i64 e, .int .i64 m, .int .i64 r], v, .int .i64 d] w fun x w' => ∃ u, x = .returned u ∧ IRow w' w.heap.size u (Cp.val s e m r hs d) ∧ Below w.heap.size w w' := by
  have HV := Lib.hid (fun W (hW : Below w.heap.size w W) => hv.below hW (Nat.le_refl _))
  have VB := Lib.hid (fun W => sVBond_any s e m r W)
  have VH := Lib.hid (fun W (hW : Below w.heap.size w W) => sholders_any W v hs (HV.out W hW) hm)
  have HV0 := Lib.hid hv
  obtain ⟨⟨a, cap, rfl⟩, -⟩ := hv
  have HB0 := Lib.hid (((Below.refl w.heap.size w).alloc (Nat.le_refl _) (.cells #[.int .i64 s, .int .i64 e, .int .i64 m, .int .i64 r] 24)).alloc (by simp) (.cells #[] 3))
  have KB := Lib.hid ((Blk.new w #[.int .i64 s, .int .i64 e, .int .i64 m, .int .i64 r] 24).alloc (.cells #[] 3))
  have HO0 := Lib.hid (show Own _ (w.heap.size + 1) (.slice (some ⟨w.heap.size + 1, 0, none⟩) 0 0) [] by
    have h := own_new (w.alloc (.cells #[.int .i64 s, .int .i64 e, .int .i64 m, .int .i64 r] 24))
    rw [World.size_alloc] at h
    exact h)
  cases hb : vbB s e m r with
  | false =>
    have HE := Lib.hid (Cp.val_no (s := s) (e := e) (m := m) (r := r) (d := d) (hs := hs) (.inl hb))
    rw [hb] at VB
    clear hb
    go_enter Tryd.func8, Tryd.ntmps8
    go_wp2_with fail
    refine (VB.out _).mono ?_
    rintro x w1 ⟨rfl, hb1⟩
    go_wp2_with fail
    go_ret
    rw [HE.out]
    exact ⟨_, rfl, IRow.nil _ _, HB0.out.trans (hb1.mono HB0.out.size)⟩
  | true =>
    have hz : perL s e m r ≠ [] := fun h => by
      unfold vbB at hb
      rw [h] at hb
      simp at hb
    rw [hb] at VB
    cases hh : Ho.ok hs with
    | false =>
      have HE := Lib.hid (Cp.val_no (s := s) (e := e) (m := m) (r := r) (d := d) (hs := hs) (.inr hh))
      rw [hh] at VH
      clear hb hh hz
      go_enter Tryd.func8, Tryd.ntmps8
      go_wp2_with fail
      refine (VB.out _).mono ?_
      rintro x w1 ⟨rfl, hb1⟩
      have HB1 := Lib.hid (HB0.out.trans (hb1.mono HB0.out.size))
      clear hb1
      go_wp2_with fail
      refine (VH.out _ HB1.out).mono ?_
      rintro x w2 ⟨rfl, rfl⟩
      go_wp2_with fail
      go_ret
      rw [HE.out]
      exact ⟨_, rfl, IRow.nil _ _, HB1.out⟩
    | true =>
      have HE := Lib.hid (Cp.val_yes (d := d) hb hh)
      rw [hh] at VH
      obtain ⟨l0, l1, hall⟩ := Ho.parts hh
      have HAt := Lib.hid (fun i (hi : i < hs.length) => Ho.at hall hi)
      obtain ⟨p0, p1⟩ := Cp.P_bd s e m r d
      have HSum := Lib.hid (Cp.P_sum s e m r d)
      have HFl := Lib.hid (fun W => sFlows_any s e m r W hz)
      have hl40 : (floL s e m r).length ≤ 40 := by rw [floL_len]; exact perL_len s e m r
      have HBd := Lib.hid (fun i (hi : i < (floL s e m r).length) => flo_bd s e m r hi)
      have HSb := Lib.hid (fun k hk => Cp.sum_bd (d := d) (fun i hi => flo_bd s e m r (i := i) hi) k hk)
      have HSt := Lib.hid (fun k (hk : k < (floL s e m r).length) => Cp.sum_take (d := d) hk)
      unfold FlowsL at HFl
      clear hb hh hall hz
      generalize floL s e m r = fs at HFl hl40 HBd HSb HSt HSum
      generalize Cp.P s e m r d = P at *
      go_enter Tryd.func8, Tryd.ntmps8
      go_wp2_with fail
      refine (VB.out _).mono ?_
      rintro x w1 ⟨rfl, hb1⟩
      have HB1 := Lib.hid (HB0.out.trans (hb1.mono HB0.out.size))
      have HO1 := Lib.hid (HO0.out.below hb1)
      obtain ⟨d0, d1, d2, d3⟩ := (KB.out.below hb1 KB.out.lt).four
      clear hb1 HO0 HB0 KB
      go_wp2_with fail
      refine (VH.out _ HB1.out).mono ?_
      rintro x w2 ⟨rfl, rfl⟩
      go_wp2_with fail
      refine (HFl.out _).mono ?_
      rintro x w3 ⟨u, rfl, hu, hb3⟩
      have HB3 := Lib.hid (HB1.out.trans (hb3.mono HB1.out.size))
      have HO3 := Lib.hid (HO1.out.below hb3)
      obtain ⟨⟨a3, cap3, rfl⟩, hcell⟩ := hu.1.rd
      have HC := Lib.hid hcell
      clear d0 d1 d2 d3 hu hb3 hcell HO1 HB1 VB VH HFl
      obtain ⟨n, hn⟩ : ∃ n, n = fs.length := ⟨_, rfl⟩
      rw [← hn] at hl40 ⊢
      have HN := Lib.hid hn
      clear hn
      have TI := Lib.hid (fun b W => toIntC_any b W)
      go_wp2_with fail
      go_loopw [8, 10] (fun o x wr => ∃ k q : Nat, k ≤ n ∧ x = .int .i64 k ∧ o = .int .i64 (Cp.sum d (fs.take k)) ∧ wr = w3.drewN q) (fun _ x _ => n - (intOf x).toNat)
      case atStart => exact ⟨0, 0, Nat.zero_le _, rfl, by simp [Cp.sum], rfl⟩
      case round =>
        obtain ⟨k, q, hk, rfl, rfl, rfl⟩ := hrel
        by_cases hlt : k < n
        · obtain ⟨b, c', e', hbl, hc⟩ := HC.out (by rw [← HN.out]; omega)
          rw [← HN.out] at e'
          simp only [Value.slice.injEq, true_and] at e'
          obtain ⟨rfl, rfl⟩ := e'
          obtain ⟨q0, q1⟩ := hc k (by rw [← HN.out]; exact hlt)
          clear hc
          have HW := Lib.hid (fun n => World.drewN_drewN w3 q n)
          replace q0 : (w3.drewN q).cell? ⟨b, k * 2, none⟩ = _ := q0
          replace q1 : (w3.drewN q).cell? ⟨b, k * 2 + 1, none⟩ = _ := q1
          obtain ⟨a0, a1⟩ := HBd.out k (by rw [← HN.out]; exact hlt)
          obtain ⟨s0, s1⟩ := HSb.out k (by rw [← HN.out]; omega)
          have HSk := Lib.hid (HSt.out k (by rw [← HN.out]; exact hlt))
          generalize fs.getD k f0 = p at q0 q1 a0 a1 HSk
          obtain ⟨D, A⟩ := p
          simp only at q0 q1 a0 a1
          generalize hWq : w3.drewN q = W at HW q0 q1 ⊢
          have HWq := Lib.hid hWq
          clear hWq
          rw [← Cp.one_mul] at HSk
          have T1 := Lib.hid (TI.out (D == d) W)
          have HTI := Lib.hid (fun W => TI.out (D == d) W)
          obtain ⟨t0', t1'⟩ : 0 ≤ (if (D == d) = true then (1 : Int) else 0) ∧ (if (D == d) = true then (1 : Int) else 0) ≤ 1 := by split <;> omega
          generalize (if (D == d) = true then (1 : Int) else 0) = t at HSk HTI t0' t1'
          have u0 : 0 ≤ A * t := Int.mul_nonneg a0 t0'
          have u1 : A * t ≤ 130000000 * 1 := Int.mul_le_mul a1 t1' t0' (by decide)
          obtain ⟨S, hS⟩ : ∃ S, S = Cp.sum d (fs.take k) := ⟨_, rfl⟩
          rw [← hS] at s0 s1 HSk ⊢
          clear hS T1
          have W1 : IntKind.i64.wrap (A * t) = A * t := IntWalk.i64_in _ (by omega)
          have W2 : IntKind.i64.wrap (S + A * t) = S + A * t := IntWalk.i64_in _ (by omega)
          have hi0 : (0 : Int) ≤ k := by omega
          have hi1 : (k : Int) < n := by omega
          go_wp2_with fail
          go_quiet ((go_at_call 27; with_reducible exact quietP (HTI.out _)))
          go_wp2_with fail
          go_roundw
          case rel => exact ⟨k + 1, _, by omega, by go_num, by rw [HSk.out], HW.out _⟩
          case measure => simp [intOf]; omega
        · obtain rfl : k = n := by omega
          have HOW := Lib.hid (show Own (w3.drewN q) (w.heap.size + 1) _ [] from HO3.out)
          have HBW := Lib.hid (belowN HB3.out q)
          have HVW := HV0
          have htk : fs.take k = fs := List.take_of_length_le (by rw [← HN.out]; omega)
          rw [htk, HSum.out]
          clear htk HB3 HO3 HC HBd HSb HSt HSum HV TI HN
          generalize w3.drewN q = W0 at HOW HBW HVW ⊢
          go_wp2_with fail
          go_loopw [7, 11] (fun o x wr => ∃ i : Nat, i ≤ hs.length ∧ x = .int .i64 i ∧ Hid (Own wr (w.heap.size + 1) o ((hs.take i).map (· * P))) ∧ Hid (Below w.heap.size w wr)) (fun _ x _ => hs.length - (intOf x).toNat)
          case atStart => exact ⟨0, Nat.zero_le _, rfl, by simpa using HOW, HBW⟩
          case round =>
            obtain ⟨i, hi, rfl, HO, HB⟩ := hrel
            by_cases hlt2 : i < hs.length
            · obtain ⟨b, off, c, e', hbb0, hc⟩ := HVW.out.2 (by omega)
              simp only [Value.slice.injEq, true_and] at e'
              obtain ⟨rfl, rfl⟩ := e'
              have c0 := (HB.out.cell (p := ⟨b, off + i, none⟩) (Nat.lt_of_lt_of_le hbb0 (Nat.le_refl _))).trans (hc i hlt2)
              clear hc
              obtain ⟨h0, h1⟩ := HAt.out i hlt2
              have HSn := Lib.hid (Cp.snocI (P := P) hlt2)
              generalize hs.getD i 0 = y at c0 h0 h1 HSn
              have u0 : 0 ≤ y * P := Int.mul_nonneg h0 p0
              have u1 : y * P ≤ 9999 * 130000000 := Int.mul_le_mul h1 p1 p0 (by decide)
              have W1 : IntKind.i64.wrap (y * P) = y * P := IntWalk.i64_in _ (by omega)
              have hi0 : (0 : Int) ≤ i := by omega
              have hi1 : (i : Int) < hs.length := by omega
              have hxl : ((hs.take i).map (· * P)).length + 1 ≤ 1000000 := by rw [List.length_map, List.length_take]; omega
              obtain ⟨ob, oc, rfl, hob, -⟩ := HO.out.form
              have hKN := (Blk.new wr #[.int .i64 (y * P)] 3).one0
              have HBa := Lib.hid (HB.out.alloc HB.out.size (.cells #[.int .i64 (y * P)] 3))
              have HOa := Lib.hid (HO.out.alloc (.cells #[.int .i64 (y * P)] 3))
              go_wp2_with (at_builtin; refine wpList_pushI _ rfl _ _ rfl (w.heap.size + 1) _ ((hs.take i).map (· * P)) rfl HOa.out wr.heap.size _ (y * P) rfl hKN hxl (by simp; have := HB.out.size; omega) ?_; intro v6 w6 hown6 hg6 hv6)
              rw [← HSn.out] at hown6
              refine ⟨⟨i + 1, by omega, by go_num, Lib.hid hown6, Lib.hid (HBa.out.grown hg6 HBa.out.size (fun j hj => by have hj2 : some ob = some j := hj; injection hj2 with hj2; omega))⟩, ?_⟩
              simp [intOf]; omega
            · obtain rfl : i = hs.length := by omega
              have htk : hs.take hs.length = hs := List.take_of_length_le (Nat.le_refl _)
              rw [htk] at HO
              go_wp2_with fail
              go_ret
              rw [HE.out]
              exact ⟨_, rfl, IRow.lower HO.out.1 (by omega), HB.out⟩
end Go.Proofs.YtbihadelhknlnaaDoor
