/- The exact law of payments. -/
import Derived.Test.YtcckopnpmcbbcaaDoorFlowS
namespace Go.Proofs.YtcckopnpmcbbcaaDoor
open Go.RowKit
set_option maxRecDepth 8000 in
set_option maxHeartbeats 400000 in
theorem eqFlow_same (p : Flo) (w : World) :
    Calls Tryd.prog 54 #[.agg #[.int .i64 p.1, .int .i64 p.2], .agg #[.int .i64 p.1, .int .i64 p.2]] w fun e w' => e = .returned (.bool true) ∧ Below w.heap.size w w' := by
  obtain ⟨x, y⟩ := p
  have e1 : (x != x) = false := by simp
  have e2 : (y != y) = false := by simp
  go_enter Tryd.func54, Tryd.ntmps54
  go_wp2_with fail
  go_ret
  exact ⟨rfl, ((Below.refl _ _).alloc (Nat.le_refl _) _).alloc (by simp) _⟩
set_option maxRecDepth 8000 in
set_option maxHeartbeats 1000000 in
theorem eqFS_same (w : World) (v u : Value) (fs : List Flo) (hv : RdF w v fs) (hu : RdF w u fs) (hm : fs.length ≤ 1000) :
    Calls Tryd.prog 30 #[v, u] w fun e w' => e = .returned (.bool true) ∧ Below w.heap.size w w' := by
  obtain ⟨⟨a, c, rfl⟩, h1⟩ := hv
  obtain ⟨⟨a', c', rfl⟩, h2⟩ := hu
  have H1 := Lib.hid h1; clear h1
  have H2 := Lib.hid h2; clear h2
  obtain ⟨n, hn⟩ : ∃ n, n = fs.length := ⟨_, rfl⟩
  rw [← hn] at hm ⊢
  have HN := Lib.hid hn; clear hn
  go_enter Tryd.func30, Tryd.ntmps30
  go_wp2_with fail
  go_loopw [5] (fun x wr => ∃ i : Nat, i ≤ n ∧ x = .int .i64 i ∧ Below w.heap.size w wr) (fun x _ => n - (intOf x).toNat)
  case atStart => exact ⟨0, Nat.zero_le _, rfl, Below.refl _ _⟩
  case round =>
    obtain ⟨i, hi, rfl, hb⟩ := hrel
    by_cases hlt : i < n
    · obtain ⟨b, d, e, hbl, hc⟩ := H1.out (by rw [← HN.out]; omega)
      obtain ⟨b', d', e', hbl', hc'⟩ := H2.out (by rw [← HN.out]; omega)
      rw [← HN.out] at e e'
      simp only [Value.slice.injEq, true_and] at e e'
      obtain ⟨rfl, rfl⟩ := e
      obtain ⟨rfl, rfl⟩ := e'
      obtain ⟨c0, c1⟩ := hc i (by rw [← HN.out]; exact hlt)
      obtain ⟨g0, g1⟩ := hc' i (by rw [← HN.out]; exact hlt)
      replace c0 := (hb.cell (p := ⟨b, i * 2, none⟩) hbl).trans c0
      replace c1 := (hb.cell (p := ⟨b, i * 2 + 1, none⟩) hbl).trans c1
      replace g0 := (hb.cell (p := ⟨b', i * 2, none⟩) hbl').trans g0
      replace g1 := (hb.cell (p := ⟨b', i * 2 + 1, none⟩) hbl').trans g1
      clear hc hc'
      obtain ⟨p, hp⟩ : ∃ p, p = fs.getD i f0 := ⟨_, rfl⟩
      rw [← hp] at c0 c1 g0 g1
      clear hp
      have hE := Lib.hid (eqFlow_same p)
      have hsz := hb.size
      go_wp2_with fail
      refine still_tail 8 (by kernel_rfl) (by kernel_rfl) ?_
      simp only [List.take_succ_cons, List.take_zero, List.drop_succ_cons, List.drop_zero]
      repeat still_step
      refine wpStill_nil ?_
      go_wp2_with fail
      refine (hE.out _).mono ?_
      rintro e w2 ⟨rfl, hb2⟩
      go_wp2_with fail
      go_roundw
      case rel => exact ⟨i + 1, by omega, by go_num, hb.drew.trans (hb2.mono hsz)⟩
      case measure => simp [intOf]; omega
    · obtain rfl : i = n := by omega
      go_wp2_with fail
      go_ret
      exact ⟨rfl, hb⟩
def mkF (i : Nat) : Flo := (1 + 2 * i, 1 + 2 * i + 1)
def MkF (fs qs : List Flo) (i : Nat) : Prop := qs.length = fs.length ∧ ∀ t, t < i → qs.getD t f0 = mkF t
theorem mkF_step {fs qs : List Flo} {i : Nat} (h : MkF fs qs i) (hi : i < fs.length) : MkF fs (qs.set i (mkF i)) (i + 1) := by
  refine ⟨by rw [List.length_set]; exact h.1, fun t ht => ?_⟩
  rw [set_at qs i t _ (by rw [h.1]; exact hi)]
  by_cases c : t = i
  · rw [if_pos c, c]
  · rw [if_neg c]; exact h.2 t (by omega)
def MarkedF (w : World) (B b n cap : Nat) (x : Ending) (w' : World) : Prop := ∃ qs : List Flo, x = .returned (.int .i64 (2 * n + 1)) ∧ qs.length = n ∧ (∀ t, t < n → qs.getD t f0 = mkF t) ∧ FRow w' B (.slice (some ⟨b, 0, none⟩) n cap) qs ∧ w.grownBy w' (some b)
set_option maxRecDepth 8000 in
set_option maxHeartbeats 1000000 in
theorem markF_any (w : World) (B b n cap : Nat) (fs : List Flo) (h : FRow w B (.slice (some ⟨b, 0, none⟩) n cap) fs) (hn : fs.length = n) (hm : n ≤ 1000) :
    Calls Tryd.prog 31 #[.slice (some ⟨b, 0, none⟩) n cap, .int .i64 1] w (MarkedF w B b n cap) := by
  have H := Lib.hid h; clear h
  have HN := Lib.hid hn; clear hn
  go_enter Tryd.func31, Tryd.ntmps31
  go_wp2_with fail
  go_loopw [5, 1] (fun x k wr => ∃ (i : Nat) (qs : List Flo), i ≤ n ∧ x = .int .i64 i ∧ k = .int .i64 (2 * i + 1) ∧ Hid (MkF fs qs i) ∧ Hid (FRow wr B (.slice (some ⟨b, 0, none⟩) n cap) qs) ∧ w.grownBy wr (some b)) (fun x _ _ => n - (intOf x).toNat)
  case atStart => exact ⟨0, fs, by omega, rfl, by simp, Lib.hid ⟨rfl, fun t ht => by omega⟩, Lib.hid H.out, ⟨rfl, rfl, rfl, Nat.le_refl _, fun _ _ _ => rfl⟩⟩
  case round =>
    obtain ⟨i, qs, hi, rfl, rfl, HR, HQ, hg⟩ := hrel
    by_cases hlt : i < n
    · have hql : qs.length = n := HR.out.1.trans HN.out
      obtain ⟨⟨a0, a1⟩, fz0, fz1⟩ := HQ.out.at_ hql hlt
      have hst := FRow.store (show FRow wr B (.slice (some ⟨b, 0, none⟩) qs.length cap) qs by rw [hql]; exact HQ.out) i (by omega) (2 * i + 1) (2 * i + 1 + 1)
      have e5 : ((2 * (i : Int) + 1), (2 * (i : Int) + 1 + 1)) = mkF i := by
        unfold mkF
        exact Prod.ext (by show 2 * (i : Int) + 1 = 1 + 2 * (i : Int); omega) (by show 2 * (i : Int) + 1 + 1 = 1 + 2 * (i : Int) + 1; omega)
      rw [e5] at hst
      have HS := Lib.hid hst
      have HQL := Lib.hid hql
      clear hst e5 hql
      go_wp2_with fail
      go_roundw
      case rel =>
        refine ⟨i + 1, qs.set i (mkF i), by omega, by go_num, by congr 1 <;> omega, Lib.hid (mkF_step HR.out (by rw [HN.out]; exact hlt)), Lib.hid ?_, hg.trans HS.out.2⟩
        have := HS.out.1
        rw [List.length_set, HQL.out] at this
        exact this
      case measure => simp [intOf] <;> omega
    · obtain rfl : i = n := by omega
      go_wp2_with fail
      go_ret
      exact ⟨qs, rfl, HR.out.1.trans HN.out, HR.out.2, HQ.out, hg⟩
set_option maxRecDepth 8000 in
set_option maxHeartbeats 1000000 in
theorem heldF_any (w : World) (B b n cap : Nat) (qs : List Flo) (h : FRow w B (.slice (some ⟨b, 0, none⟩) n cap) qs) (hn : qs.length = n) (hm : n ≤ 1000) (hq : ∀ t, t < n → qs.getD t f0 = mkF t) :
    Calls Tryd.prog 32 #[.slice (some ⟨b, 0, none⟩) n cap, .int .i64 1] w fun x w' => x = .returned (.int .i64 (2 * n + 1)) ∧ w = w' := by
  have H := Lib.hid h; clear h
  have HN := Lib.hid hn; clear hn
  have HQ := Lib.hid hq; clear hq
  go_enter Tryd.func32, Tryd.ntmps32
  go_wp2_with fail
  go_loop [5, 1] (fun x k => ∃ i : Nat, i ≤ n ∧ x = .int .i64 i ∧ k = .int .i64 (2 * i + 1)) (fun x _ => n - (intOf x).toNat)
  case atStart => exact ⟨0, by omega, rfl, by simp⟩
  case round =>
    obtain ⟨i, hi, rfl, rfl⟩ := hrel
    by_cases hlt : i < n
    · obtain ⟨⟨a0, a1⟩, -, -⟩ := H.out.at_ HN.out hlt
      rw [HQ.out i hlt] at a0 a1
      have e0 : (mkF i).1 = 2 * i + 1 := by show 1 + 2 * (i : Int) = _; omega
      have e1 : (mkF i).2 = 2 * i + 1 + 1 := by show 1 + 2 * (i : Int) + 1 = _; omega
      rw [e0] at a0
      rw [e1] at a1
      clear e0 e1
      go_wp2_with fail
      go_round
      case rel => exact ⟨i + 1, by omega, by go_num, by congr 1 <;> omega⟩
      case measure => simp [intOf] <;> omega
    · obtain rfl : i = n := by omega
      go_wp2_with fail
      go_ret
      exact ⟨rfl, rfl⟩
set_option maxRecDepth 8000 in
set_option maxHeartbeats 400000 in
theorem markF_nil (w : World) : Calls Tryd.prog 31 #[.slice none 0 0, .int .i64 1] w fun x w' => x = .returned (.int .i64 1) ∧ w = w' := by
  go_enter Tryd.func31, Tryd.ntmps31
  go_wp2_with fail
  go_loop [5, 1] (fun x k => x = .int .i64 0 ∧ k = .int .i64 1) (fun _ _ => 0)
  case atStart => exact ⟨rfl, rfl⟩
  case round =>
    obtain ⟨rfl, rfl⟩ := hrel
    go_wp2_with fail
    go_ret
    exact ⟨rfl, rfl⟩
set_option maxRecDepth 8000 in
set_option maxHeartbeats 400000 in
theorem heldF_nil (w : World) : Calls Tryd.prog 32 #[.slice none 0 0, .int .i64 1] w fun x w' => x = .returned (.int .i64 1) ∧ w = w' := by
  go_enter Tryd.func32, Tryd.ntmps32
  go_wp2_with fail
  go_loop [5, 1] (fun x k => x = .int .i64 0 ∧ k = .int .i64 1) (fun _ _ => 0)
  case atStart => exact ⟨rfl, rfl⟩
  case round =>
    obtain ⟨rfl, rfl⟩ := hrel
    go_wp2_with fail
    go_ret
    exact ⟨rfl, rfl⟩
theorem below_of_grownF {w w' : World} {b B : Nat} (hg : w.grownBy w' (some b)) (hB : B ≤ b) (hs : B ≤ w.heap.size) : Below B w w' :=
  ⟨hg.os, hg.tape, hg.output, hg.size, fun k hk => hg.block k (by omega) (fun e => by injection e; omega)⟩
set_option maxRecDepth 8000 in
set_option maxHeartbeats 4000000 in
theorem exFlowsOf (s e m r : Int) (w : World) (hT : Tab w) :
    Calls Tryd.prog 8 #[.agg #[.int .i64 s, .int .i64 e, .int .i64 m, .int .i64 r]] w fun x w' => x = .returned (.bool true) ∧ Below w.heap.size w w' := by
  have HT := Lib.hid hT; clear hT
  have hlen : (floL s e m r).length ≤ 40 := by rw [floL_len]; exact perL_len s e m r
  have hi := flowsOf_any s e m r
  have hs := sFlowsOf_any s e m r
  generalize floL s e m r = ps at hlen hi hs
  have HI := Lib.hid hi; clear hi
  have HS := Lib.hid hs; clear hs
  have HTB := Lib.hid (toBond_any s e m r)
  have kB := Blk.new w #[.int .i64 s, .int .i64 e, .int .i64 m, .int .i64 r] 36
  have hB := (Below.refl w.heap.size w).alloc (Nat.le_refl _) (.cells #[.int .i64 s, .int .i64 e, .int .i64 m, .int .i64 r] 36)
  have KB := Lib.hid kB
  have HB := Lib.hid hB
  obtain ⟨c0, c1, c2, c3⟩ := kB.four
  clear kB hB
  go_enter Tryd.func8, Tryd.ntmps8
  go_wp2_with fail
  refine (HTB.out _).mono ?_
  rintro x wa ⟨rfl, hba⟩
  clear c0 c1 c2 c3
  have CA := Lib.hid (HB.out.trans (hba.mono HB.out.size))
  have KA := Lib.hid (KB.out.below hba KB.out.lt)
  clear hba
  go_wp2_with fail
  refine (HS.out _).mono ?_
  rintro x w1 ⟨v0, rfl, hr0, hn0, hb1'⟩
  have hb1 := CA.out.trans (hb1'.mono CA.out.size)
  have K1 := Lib.hid (KA.out.below hb1' KA.out.lt)
  have HR0 := Lib.hid hr0; clear hr0
  have HN0 := Lib.hid hn0; clear hn0
  clear hb1'
  have s1 := hb1.size
  obtain ⟨c0, c1, c2, c3⟩ := K1.out.four
  go_wp2_with fail
  refine (HTB.out _).mono ?_
  rintro x wb ⟨rfl, hbb⟩
  clear c0 c1 c2 c3
  have CB := Lib.hid (hb1.trans (hbb.mono s1))
  have KB2 := Lib.hid (K1.out.below hbb K1.out.lt)
  have sb := hbb.size
  go_wp2_with fail
  refine (HI.out _ (HT.out.below CB.out HT.out.pos)).mono ?_
  rintro x w2 ⟨v1, rfl, hr1, hn1, hb2'⟩
  have K2 := Lib.hid (KB2.out.below hb2' KB2.out.lt)
  have HR1 := Lib.hid (hr1.lower sb); clear hr1
  have HN1 := Lib.hid hn1; clear hn1
  have HD1 := Lib.hid (HR0.out.rd)
  have C2 := Lib.hid (hbb.trans (hb2'.mono sb))
  have s2 := C2.out.size
  clear hb2' hbb
  go_wp2_with fail
  refine (eqFS_same _ _ _ ps HR1.out.rd (HD1.out.below C2.out (Nat.le_refl _)) (by omega)).mono ?_
  rintro x w3 ⟨rfl, hb3⟩
  have C3 := Lib.hid (C2.out.trans (hb3.mono s2))
  have s3 := hb3.size
  have HR3 := Lib.hid (HR1.out.below hb3 (Nat.le_refl _))
  have K3 := Lib.hid (K2.out.below hb3 K2.out.lt)
  by_cases h0 : ps = []
  · have e0 := HN0.out.2 h0
    have e1 := HN1.out.2 h0
    subst e0
    subst e1
    go_wp2_with fail
    refine (markF_nil _).mono ?_
    rintro x w4 ⟨rfl, rfl⟩
    go_wp2_with fail
    refine (heldF_nil _).mono ?_
    rintro x w4 ⟨rfl, rfl⟩
    obtain ⟨c0, c1, c2, c3⟩ := K3.out.four
    go_wp2_with fail
    refine (HTB.out _).mono ?_
    rintro x wc ⟨rfl, hbc⟩
    clear c0 c1 c2 c3
    have CC := Lib.hid (C3.out.trans (hbc.mono (by omega)))
    have sc := hbc.size
    clear hbc
    go_wp2_with fail
    refine (HI.out _ (HT.out.below (hb1.trans (CC.out.mono s1)) HT.out.pos)).mono ?_
    rintro x w5 ⟨v2, rfl, hr2, _, hb5⟩
    have HR2 := Lib.hid hr2; clear hr2
    have C5 := Lib.hid (CC.out.trans (hb5.mono (by omega)))
    have s5 := hb5.size
    go_wp2_with fail
    refine (eqFS_same _ _ _ ps HR2.out.rd (HD1.out.below C5.out (Nat.le_refl _)) (by omega)).mono ?_
    rintro x w6 ⟨rfl, hb6⟩
    have C6 := Lib.hid (C5.out.trans (hb6.mono (by omega)))
    go_wp2_with fail
    refine (heldF_nil _).mono ?_
    rintro x w7 ⟨rfl, rfl⟩
    go_wp2_with fail
    go_ret
    exact ⟨rfl, hb1.trans (C6.out.mono s1)⟩
  · have hl : 0 < ps.length := List.length_pos_iff.2 h0
    obtain ⟨b, cap, rfl, hB, hblt, _⟩ := HR3.out.form hl
    obtain ⟨n, hn⟩ : ∃ n, n = ps.length := ⟨_, rfl⟩
    have HR4 := HR3.out
    rw [← hn] at HR4 hl hlen ⊢
    have HR5 := Lib.hid HR4; clear HR4
    have HN := Lib.hid hn; clear hn
    go_wp2_with fail
    refine (markF_any _ _ _ _ _ _ HR5.out HN.out.symm (by omega)).mono ?_
    rintro x w4 ⟨qs, rfl, hq1, hq2, hq3, hg4⟩
    have HQ1 := Lib.hid hq1
    have HQ2 := Lib.hid hq2
    have HQ3 := Lib.hid hq3
    clear hq1 hq2 hq3
    have hb4 : Below w1.heap.size w3 w4 := below_of_grownF hg4 hB (by omega)
    have C4 := Lib.hid (C3.out.trans hb4)
    have s4 := hb4.size
    have K4 := Lib.hid (K3.out.below hb4 K1.out.lt)
    clear hg4
    go_wp2_with fail
    refine (heldF_any _ _ _ _ _ qs HQ3.out HQ1.out (by omega) HQ2.out).mono ?_
    rintro x w5 ⟨rfl, rfl⟩
    have c9 : ¬ 2 * (n : Int) + 1 < 0 := by omega
    obtain ⟨c0, c1, c2, c3⟩ := K4.out.four
    go_wp2_with fail
    refine (HTB.out _).mono ?_
    rintro x wc ⟨rfl, hbc⟩
    clear c0 c1 c2 c3
    have CC := Lib.hid (C4.out.trans (hbc.mono (by omega)))
    have HQc := Lib.hid (HQ3.out.below hbc (Nat.le_refl _))
    have sc := hbc.size
    clear hbc
    go_wp2_with fail
    refine (HI.out _ (HT.out.below (hb1.trans (CC.out.mono s1)) HT.out.pos)).mono ?_
    rintro x w5 ⟨v2, rfl, hr2, _, hb5⟩
    have HR2 := Lib.hid hr2; clear hr2
    have C5 := Lib.hid (CC.out.trans (hb5.mono (by omega)))
    have HQ5 := Lib.hid (HQc.out.below hb5 (Nat.le_refl _))
    have s5 := hb5.size
    go_wp2_with fail
    refine (eqFS_same _ _ _ ps HR2.out.rd (HD1.out.below C5.out (Nat.le_refl _)) (by have := HN.out; omega)).mono ?_
    rintro x w6 ⟨rfl, hb6⟩
    have C6 := Lib.hid (C5.out.trans (hb6.mono (by omega)))
    have HQ6 := Lib.hid (HQ5.out.below hb6 (Nat.le_refl _))
    go_wp2_with fail
    refine (heldF_any _ _ _ _ _ qs HQ6.out HQ1.out (by omega) HQ2.out).mono ?_
    rintro x w7 ⟨rfl, rfl⟩
    go_wp2_with fail
    go_ret
    exact ⟨rfl, hb1.trans (C6.out.mono s1)⟩
end Go.Proofs.YtcckopnpmcbbcaaDoor
