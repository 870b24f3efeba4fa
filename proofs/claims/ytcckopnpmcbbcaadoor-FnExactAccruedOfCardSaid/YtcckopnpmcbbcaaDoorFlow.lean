/- The payments of a bond, the program's side. -/
import Derived.Test.YtcckopnpmcbbcaaDoorFlR
import Derived.Test.YtcckopnpmcbbcaaDoorSchD
import Derived.RegionTactic
import Derived.Deep.RegionHeld3
import Derived.Tactics2
import Derived.StillTactics
namespace Go.Proofs.YtcckopnpmcbbcaaDoor
open Go.RowKit
theorem infoF : (Tryd.prog.info? 34).map (fun i => (i.zero, i.size, i.bytes)) = some (some (.agg #[.int .i64 0, .int .i64 0]), 2, 16) := by kernel_rfl
theorem made_flows (n : Nat) : (madeCells (Value.agg #[.int .i64 0, .int .i64 0]).cells (n * 2)).toList = (List.replicate n f0).flatMap fc := by
  show (madeCells #[.int .i64 0, .int .i64 0] (n * 2)).toList = _
  have e : (List.replicate n f0).flatMap fc = List.replicate (n * 2) (Value.int .i64 0) := by
    induction n with
    | zero => rfl
    | succ n ih => rw [List.replicate_succ, List.flatMap_cons, ih, Nat.add_mul]; simp [fc, f0, List.replicate_succ]
  rw [e]
  apply List.ext_getElem?
  intro i
  by_cases h : i < n * 2
  · have h2 : i % 2 = 0 ∨ i % 2 = 1 := by omega
    rcases h2 with h2 | h2 <;> simp [madeCells, h, h2]
  · simp [madeCells, h]
/-- What is known of a bond's periods. -/
theorem per_facts {s e m r : Int} (h : perL s e m r ≠ []) :
    (1 ≤ m ∧ m ≤ 12) ∧ (0 ≤ r ∧ r ≤ 3000) ∧ (perL s e m r).length ≤ 40 ∧ ∀ i, i < (perL s e m r).length → ∃ f t : Int, ∃ z : Bool, (perL s e m r).getD i p0 = (f, t, z) ∧ 0 ≤ f ∧ f < t ∧ t ≤ 36524 ∧ addV t (-m) < t := by
  have hr : btw r 0 3000 = true := by
    unfold perL at h
    by_cases c : btw r 0 3000 = true
    · exact c
    · rw [if_neg c] at h; exact absurd rfl h
  have hp : perL s e m r = Sc.sch s e m := by unfold perL; rw [if_pos hr]
  rw [hp] at h ⊢
  obtain ⟨ok, hN, hall⟩ := Sc.sch_pos h
  obtain ⟨⟨s0, se, e1⟩, hm⟩ := Sc.okB_iff.1 ok
  refine ⟨Sc.mon_bd hm, btw_iff.1 hr, Sc.sch_len s e m, fun i hi => ?_⟩
  rw [hall, Sc.all_len] at hi
  obtain ⟨f, t, z, hg, hft, ⟨fa, fb⟩, ⟨ta, tb⟩, -, h0, -, hpre⟩ := Sc.all_facts ok hN hi
  have hf : 0 ≤ f := by
    rcases Nat.eq_zero_or_pos i with c | c
    · rw [h0 c]; omega
    · obtain ⟨-, hq⟩ := hpre c
      obtain ⟨f', t', z', hg', hft', ⟨fa', fb'⟩, -⟩ := Sc.all_facts ok hN (i := i - 1) (by omega)
      rw [hg'] at hq
      have hq : f = t' := hq
      omega
  exact ⟨f, t, z, by rw [hall]; exact hg, hf, hft, by omega, addV_less (Sc.mon_bd hm).1 (by omega) (by omega)⟩
def CollF (fs : List Flo) (w : World) (x : Ending) (w' : World) : Prop := ∃ v, x = .returned v ∧ FRow w' w.heap.size v fs ∧ (v = .slice none 0 0 ↔ fs = []) ∧ Below w.heap.size w w'
set_option maxRecDepth 8000 in
set_option maxHeartbeats 4000000 in
theorem flowsOf_any (s e m r : Int) (w : World) (hT : Tab w) :
    Calls Tryd.prog 20 #[.agg #[.int .i64 s, .int .i64 e, .int .i64 m, .int .i64 r]] w (CollF (floL s e m r) w) := by
  have HT := Lib.hid hT; clear hT
  have kB := Blk.new w #[.int .i64 s, .int .i64 e, .int .i64 m, .int .i64 r] 24
  have HKB := Lib.hid kB
  have hB := (Below.refl w.heap.size w).alloc (Nat.le_refl _) (.cells #[.int .i64 s, .int .i64 e, .int .i64 m, .int .i64 r] 24)
  obtain ⟨c0, c1, c2, c3⟩ := kB.four
  clear kB
  have HT1 := Lib.hid (HT.out.alloc (.cells #[.int .i64 s, .int .i64 e, .int .i64 m, .int .i64 r] 24))
  have HB := Lib.hid hB
  clear hB
  have HSZ := Lib.hid (show w.heap.size < (w.alloc (.cells #[.int .i64 s, .int .i64 e, .int .i64 m, .int .i64 r] 24)).heap.size by simp)
  have HPF := Lib.hid (@per_facts s e m r)
  have HPR := Lib.hid (periods_any s e m r)
  have HCL := Lib.hid (show cpnL s e m r = (perL s e m r).map fun p => (p.2.1, cpnV m r p.1 p.2.1 p.2.2) from rfl)
  have HFL := Lib.hid (show floL s e m r = faced (cpnL s e m r) from rfl)
  obtain ⟨ps, hps⟩ : ∃ ps, ps = perL s e m r := ⟨_, rfl⟩
  rw [← hps] at HPF HPR HCL
  have HCL2 : Hid ((perL s e m r).length = ps.length) := Lib.hid (by rw [hps])
  clear hps
  by_cases hz : ps = []
  · have E : floL s e m r = [] := by rw [HFL.out, HCL.out, hz]; rfl
    have HE := Lib.hid E; clear E
    subst hz
    go_enter Tryd.func20, Tryd.ntmps20
    go_wp2_with fail
    refine (HPR.out _ HT1.out).mono ?_
    rintro x w1 ⟨v, rfl, hr, hn, hb⟩
    have hv := hn.2 rfl
    subst hv
    clear hn hr
    have HB1 := Lib.hid hb
    clear hb
    go_wp2_with fail
    go_ret
    exact ⟨_, rfl, by rw [HE.out]; exact FRow.nil _ _, by rw [HE.out]; simp, HB.out.trans (HB1.out.mono (Nat.le_of_lt HSZ.out))⟩
  · obtain ⟨⟨m0, m1⟩, ⟨r0, r1⟩, hl40, hpf⟩ := HPF.out hz
    have HP := Lib.hid hpf
    clear hpf
    obtain ⟨n, hn⟩ : ∃ n, n = ps.length := ⟨_, rfl⟩
    rw [← hn] at hl40
    have n1 : 1 ≤ n := by
      cases ps with
      | nil => exact absurd rfl hz
      | cons a l => rw [hn]; simp
    have HN := Lib.hid hn
    have nz : ((n : Int) == 0) = false := by simp; omega
    have HZ := Lib.hid hz
    clear hz
    obtain ⟨i0, hi, hz0, hz1, hz2⟩ := info_parts infoF
    go_enter Tryd.func20, Tryd.ntmps20
    go_wp2_with fail
    refine (HPR.out _ HT1.out).mono ?_
    rintro x w1 ⟨v, rfl, hr, hnil, hb⟩
    clear hnil
    have HR := Lib.hid hr.rd
    clear hr
    obtain ⟨pb, pc', rfl, hpb, hcells⟩ := HR.out.2 (by omega)
    rw [← hn] at hcells HR ⊢
    have HC := Lib.hid hcells
    have HB1 := Lib.hid hb
    clear hcells hb hn
    go_wp2_with (at_make; refine wpList_make_full _ rfl _ _ 27 rfl w1.heap.size 34 i0 (.agg #[.int .i64 0, .int .i64 0]) 2 Tryd.underlying27 hi hz0 hz1 .i64 .i64 _ _ n rfl rfl rfl rfl (by rw [hz2]; omega) (by unfold maxLen; omega) (by omega) ?_; intro w2 hown hgrow)
    rw [made_flows] at hown
    have hb2 : Below w1.heap.size w1 w2 := (Below.refl _ _).grown hgrow (Nat.le_refl _) (fun j hj => by cases hj)
    have HT2 := Lib.hid ((HT1.out.below HB1.out (by have := HT1.out.pos; exact this)))
    have hs1 := HB1.out.size
    have hBl : w.heap.size < w1.heap.size := Nat.lt_of_lt_of_le HSZ.out hs1
    obtain ⟨k0, k1, k2, k3⟩ := (HKB.out.below HB1.out HSZ.out).four
    have HK := Lib.hid (And.intro k0 (And.intro k1 (And.intro k2 k3)))
    have HO : Hid (FRow w2 w1.heap.size (.slice (some ⟨w1.heap.size, 0, none⟩) n n) (List.replicate n f0)) := Lib.hid (by unfold FRow; rw [List.length_replicate]; exact hown)
    clear hown hgrow k0 k1 k2 k3 hs1 c0 c1 c2 c3
    have HCP := Lib.hid (coupon_any s e m r)
    have HB2 := Lib.hid hb2
    clear hb2
    go_loopw [17] (fun x wr => ∃ (i : Nat) (qs : List Flo), i ≤ n ∧ x = .int .i64 i ∧ Hid (qs.length = n ∧ ∀ t, t < i → qs.getD t f0 = (cpnL s e m r).getD t f0) ∧ Hid (FRow wr w1.heap.size (.slice (some ⟨w1.heap.size, 0, none⟩) n n) qs) ∧ Hid (Below w1.heap.size w1 wr)) (fun x _ => n - (intOf x).toNat)
    case atStart => exact ⟨0, List.replicate n f0, Nat.zero_le _, rfl, Lib.hid ⟨by simp, fun t ht => by omega⟩, HO, HB2⟩
    case round =>
      obtain ⟨i, qs, hi', rfl, HQ, HF, HW⟩ := hrel
      by_cases hlt : i < n
      · obtain ⟨f, t, z, hg, f0', f1', t1', hA'⟩ := HP.out i (by rw [← HN.out]; exact hlt)
        obtain ⟨a0, a1, a2⟩ := HC.out i hlt
        rw [hg] at a0 a1 a2
        dsimp only at a0 a1 a2
        have hW := HW.out
        replace a0 := (hW.cell (p := ⟨pb, i * 3, none⟩) hpb).trans a0
        replace a1 := (hW.cell (p := ⟨pb, i * 3 + 1, none⟩) hpb).trans a1
        replace a2 := (hW.cell (p := ⟨pb, i * 3 + 2, none⟩) hpb).trans a2
        have hgl : (cpnL s e m r).getD i f0 = (t, cpnV m r f t z) := by rw [HCL.out, map_at _ ps p0 f0 (by rw [← HN.out]; exact hlt), hg]
        have HGL := Lib.hid hgl
        have hsz := hW.size
        have HF1 := Lib.hid (HF.out.alloc (.cells #[.int .i64 f, .int .i64 t, .bool z] 45))
        have HT3 := Lib.hid ((HT2.out.below hW HT2.out.pos).alloc (.cells #[.int .i64 f, .int .i64 t, .bool z] 45))
        have HW1 := Lib.hid (hW.alloc hsz (.cells #[.int .i64 f, .int .i64 t, .bool z] 45))
        have HSB : Hid (w.heap.size < (wr.alloc (.cells #[.int .i64 f, .int .i64 t, .bool z] 45)).heap.size) := Lib.hid (by simp <;> omega)
        have HSP : Hid (wr.heap.size < (wr.alloc (.cells #[.int .i64 f, .int .i64 t, .bool z] 45)).heap.size) := Lib.hid (by simp)
        have K0 : Hid (S8 w.heap.size wr.heap.size s e m r f t z (wr.alloc (.cells #[.int .i64 f, .int .i64 t, .bool z] 45))) := Lib.hid (by
          obtain ⟨k0, k1, k2, k3⟩ := HK.out
          obtain ⟨⟨x0, x1, x2⟩, -⟩ := (Blk.new wr #[.int .i64 f, .int .i64 t, .bool z] 45).three
          have hA := hW.alloc hsz (.cells #[.int .i64 f, .int .i64 t, .bool z] 45)
          exact ⟨(hA.cell (p := ⟨w.heap.size, 0, none⟩) hBl).trans k0, (hA.cell (p := ⟨w.heap.size, 1, none⟩) hBl).trans k1, (hA.cell (p := ⟨w.heap.size, 2, none⟩) hBl).trans k2, (hA.cell (p := ⟨w.heap.size, 3, none⟩) hBl).trans k3, x0, x1, x2⟩)
        have HC1 := Lib.hid (fun W h => HCP.out f t z W h m0 m1 r0 r1 f0' f1' t1' hA')
        have HQ1 := Lib.hid HQ.out.1
        have nB : w1.heap.size ≠ w.heap.size := by omega
        have nP : w1.heap.size < wr.heap.size := by
          obtain ⟨b', cap', e', -, hlt', -⟩ := HF.out.form (by rw [HQ.out.1]; omega)
          simp only [Value.slice.injEq, Option.some.injEq, Addr.mk.injEq, and_true] at e'
          obtain ⟨rfl, -, -⟩ := e'
          exact hlt'
        obtain ⟨C, hC⟩ : ∃ C, C = cpnV m r f t z := ⟨_, rfl⟩
        rw [← hC] at HGL HC1
        clear hW hgl hC hg
        go_wp2_with fail
        obtain ⟨P, hP⟩ : ∃ P, P = wr.heap.size := ⟨_, rfl⟩
        rw [← hP] at K0 HSP nP ⊢
        have nP' : w1.heap.size ≠ P := by omega
        generalize wr.alloc (.cells #[.int .i64 f, .int .i64 t, .bool z] 45) = W1 at K0 HF1 HT3 HW1 HSB HSP ⊢
        clear hP a0 a1 a2
        go_region_held3 (S8 w.heap.size P s e m r f t z) (first | exact k1 | exact K0.out | exact keep8s k1 _ _ _ _ nB nP')
          (first
            | (go_at_call 46; refine (HC1.out _ (by exact HT3.out)).mono ?_; rintro x wx ⟨rfl, hbx⟩; have k1 := keep8 (by exact K0.out) hbx (by exact HSB.out) (by exact HSP.out); have hFx := FRow.below (by exact HF1.out) hbx (Nat.le_refl _); obtain ⟨⟨d0, d1⟩, d2, d3⟩ := hFx.at_ HQ1.out hlt))
        all_goals
          go_wp2_with fail
          have hst := FRow.store (show FRow wx w1.heap.size (.slice (some ⟨w1.heap.size, 0, none⟩) qs.length n) qs by rw [HQ1.out]; exact hFx) i (by rw [HQ1.out]; exact hlt) t C
          rw [List.length_set, HQ1.out] at hst
          have hbw := HW1.out.drew.trans (hbx.mono HW1.out.size)
          refine ⟨⟨i + 1, qs.set i (t, C), by omega, by go_num, Lib.hid ⟨by rw [List.length_set]; exact HQ1.out, fun u hu => ?_⟩, Lib.hid hst.1, Lib.hid (hbw.grown hst.2 hbw.size (fun j hj => by injection hj with hj; omega))⟩, by simp [intOf] <;> omega⟩
          rw [set_at qs i u (t, C) (by rw [HQ1.out]; exact hlt)]
          by_cases c : u = i
          · rw [if_pos c, c, HGL.out]
          · rw [if_neg c]; exact HQ.out.2 u (by omega)
      · obtain rfl : i = n := by omega
        obtain ⟨⟨-, d1⟩, -, d2⟩ := HF.out.at_ HQ.out.1 (i := i - 1) (by omega)
        obtain ⟨A, hA⟩ : ∃ A, A = (qs.getD (i - 1) f0).2 := ⟨_, rfl⟩
        rw [← hA] at d1
        obtain ⟨A0, A1⟩ : 0 ≤ A ∧ A ≤ 120000000 := by
          obtain ⟨f, t, z, hg, f0', f1', t1', hA'⟩ := HP.out (i - 1) (by rw [← HN.out]; omega)
          rw [hA, HQ.out.2 (i - 1) (by omega), HCL.out, map_at _ ps p0 f0 (by rw [← HN.out]; omega), hg]
          exact cpn_bd z m0 m1 r0 r1 f0' f1' t1' hA'
        have HE : Hid (qs.set (i - 1) ((qs.getD (i - 1) f0).1, A + 10000) = floL s e m r) := Lib.hid (by
          have e1 : qs = cpnL s e m r := list_same (by rw [HQ.out.1, cpnL_len, HCL2.out]; exact HN.out) (fun t ht => HQ.out.2 t (by rw [← HQ.out.1]; exact ht))
          rw [HFL.out, ← e1, hA]
          unfold faced
          rw [HQ.out.1])
        have HFS := Lib.hid (FRow.store2 (show FRow wr w1.heap.size (.slice (some ⟨w1.heap.size, 0, none⟩) qs.length i) qs by rw [HQ.out.1]; exact HF.out) (i - 1) (by rw [HQ.out.1]; omega) (A + 10000))
        clear hA
        have w1' : IntKind.i64.wrap ((i : Int) - 1) = (i : Int) - 1 := IntWalk.i64_in _ (by omega)
        have w2' : ((i : Int) - 1).toNat = i - 1 := by omega
        have i2 : (0 : Int) ≤ (i : Int) - 1 := by omega
        have i3 : (i : Int) - 1 < i := by omega
        go_wp2_with fail
        go_ret
        obtain ⟨h1, h2⟩ := HFS.out
        rw [HE.out, HQ.out.1] at h1
        have hb := HW.out.grown h2 HW.out.size (fun j hj => by injection hj with hj; omega)
        have h3 := h1.lower (show w.heap.size ≤ w1.heap.size by omega)
        have e2 : (floL s e m r).length = i := by rw [← HE.out, List.length_set]; exact HQ.out.1
        have h4 : FRow (wr.setCell ⟨w1.heap.size, (i - 1) * 2 + 1, none⟩ (.int .i64 (A + 10000))) w.heap.size (.slice (some ⟨w1.heap.size, 0, none⟩) i i) (floL s e m r) := h3
        refine ⟨_, rfl, h4, ⟨fun h => by simp at h, fun h => by rw [h] at e2; simp at e2; omega⟩, ?_⟩
        exact (HB.out.trans (HB1.out.mono (Nat.le_of_lt HSZ.out))).trans (hb.mono (by omega))
end Go.Proofs.YtcckopnpmcbbcaaDoor
