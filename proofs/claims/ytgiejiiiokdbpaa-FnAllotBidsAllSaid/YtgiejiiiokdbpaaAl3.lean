/- What bids get: the model. -/
import Derived.Test.YtgiejiiiokdbpaaAl2
import Derived.Deep.AppendLies
import Derived.Deep.RegionHeldLaw
namespace Go.Proofs.Ytgiejiiiokdbpaa
open Go.RowKit
set_option maxHeartbeats 400000 in
theorem stoIntS (b : Bool) (w : World) : Calls Try.prog 68 #[.bool b] w fun e w'' => e = .returned (.int .i64 (if b = true then 1 else 0)) ∧ w'' = w := by
  cases b <;>
  · go_enter Try.func68, Try.ntmps68
    go_wp2_with fail
    go_ret
    exact ⟨rfl, rfl⟩
def Al.fN (s : Int) (p : Pr) : Bool := decide (s < 0) || decide (p.1 < s)
def Al.fW (s : Int) (p : Pr) : Bool := decide (0 ≤ s) && (p.1 == s)
theorem Al.wN_no {ps : List Pr} {s : Int} (h : s < 0) : Al.want (Al.fN s) ps = Al.all ps := by
  unfold Al.all
  congr 1; funext p; unfold Al.fN; rw [decide_eq_true h]; rfl
theorem Al.wN_yes {ps : List Pr} {s : Int} (h : 0 ≤ s) : Al.want (Al.fN s) ps = Al.less ps s := by
  unfold Al.less
  congr 1; funext p; unfold Al.fN; rw [decide_eq_false (by omega), Bool.false_or]
theorem Al.wW_yes {ps : List Pr} {s : Int} (h : 0 ≤ s) : Al.want (Al.fW s) ps = Al.last ps s := by
  unfold Al.last
  congr 1; funext p; unfold Al.fW; rw [decide_eq_true h, Bool.true_and]
theorem Al.want_take {f : Pr → Bool} {ps : List Pr} {i : Nat} (hi : i < ps.length) : (Al.want f ps).take (i + 1) = (Al.want f ps).take i ++ [if f (ps.getD i pr0) = true then (ps.getD i pr0).2 else 0] := by
  rw [take_snoc1 (by rw [Al.want_len]; exact hi), Al.want_at hi]
theorem Al.want_sum {f : Pr → Bool} {ps : List Pr} (h : ps.all Bd.one = true) {i : Nat} (hi : i ≤ ps.length) : 0 ≤ ((Al.want f ps).take i).sum ∧ ((Al.want f ps).take i).sum ≤ 9999 * (i : Int) :=
  Ho.take_bd (Al.want_mem h) i (by rw [Al.want_len]; exact hi)
set_option maxRecDepth 8000 in
set_option maxHeartbeats 40000000 in
theorem sallot_any (w : World) (n : Int) (v : Value) (ps : List Pr) (hv : R2o w v ps) (hm : ps.length ≤ 9223372036854775807) :
    Calls Try.prog 34 #[v, .int .i64 n] w (HandsI (Al.val ps n) w) := by
  have hA2 := ((Below.refl w.heap.size w).alloc (Nat.le_refl _) (.cells #[] 3)).alloc (by simp) (.cells #[] 3)
  have VB := Lib.hid (svbids_any ((w.alloc (.cells #[] 3)).alloc (.cells #[] 3)) v ps (hv.below hA2 (Nat.le_refl _)) hm)
  have HV := Lib.hid hv
  have HV2 := Lib.hid (hv.below hA2 (Nat.le_refl _))
  have HO1 : Hid (Own ((w.alloc (.cells #[] 3)).alloc (.cells #[] 3)) w.heap.size (.slice (some ⟨w.heap.size, 0, none⟩) 0 0) []) := Lib.hid ((own_new w).alloc _)
  have HO2 : Hid (Own ((w.alloc (.cells #[] 3)).alloc (.cells #[] 3)) w.heap.size (.slice (some ⟨w.heap.size + 1, 0, none⟩) 0 0) []) := Lib.hid (by
    have h := own_new (w.alloc (.cells #[] 3))
    rw [show (w.alloc (.cells #[] 3)).heap.size = w.heap.size + 1 by simp] at h
    exact ⟨IRow.lower h.1 (by omega), h.2⟩)
  have HA2 := Lib.hid hA2
  clear hA2
  obtain ⟨⟨a, cap, rfl⟩, -⟩ := hv
  have hO : Bd.auc ps n = (Bd.ok ps && btw n 1 1000000000) := rfl
  cases h1 : Bd.ok ps with
  | false =>
    have E := Lib.hid (Al.val_no (hO.trans (by rw [h1]; rfl)))
    have H1 := Lib.hid h1; clear h1 hO
    go_enter Try.func34, Try.ntmps34
    go_wp2_with fail
    refine VB.out.mono ?_
    rw [H1.out]
    rintro e w1 ⟨rfl, rfl⟩
    go_wp2_with fail
    go_ret
    exact ⟨_, rfl, by rw [E.out]; exact IRow.nil _ _, HA2.out⟩
  | true =>
    cases h2 : btw n 1 1000000000 with
    | false =>
      have E := Lib.hid (Al.val_no (hO.trans (by rw [h1, h2]; rfl)))
      have H1 := Lib.hid h1
      have H2 := Lib.hid h2; clear h1 h2 hO
      go_enter Try.func34, Try.ntmps34
      go_wp2_with fail
      refine VB.out.mono ?_
      rw [H1.out]
      rintro e w1 ⟨rfl, rfl⟩
      go_wp2_with fail
      refine (inRange_any _ _ _ _).mono ?_
      rw [H2.out]
      rintro e w1 ⟨rfl, rfl⟩
      go_wp2_with fail
      go_ret
      exact ⟨_, rfl, by rw [E.out]; exact IRow.nil _ _, HA2.out⟩
    | true =>
      have hauc : Bd.auc ps n = true := hO.trans (by rw [h1, h2]; rfl)
      have E := Lib.hid (Al.val_yes hauc)
      obtain ⟨n0, n1⟩ := btw_iff.1 h2
      obtain ⟨hl, hall⟩ := Bd.parts h1
      have SS := Lib.hid (sstop_any _ _ ps n HV2.out hall hl)
      have HAuc := Lib.hid hauc
      have H1 := Lib.hid h1
      have H2 := Lib.hid h2
      have HNt := Lib.hid (fun i (hi : i < ps.length) => Al.want_take (f := Al.fN (Bd.stop ps n)) hi)
      have HWt := Lib.hid (fun i (hi : i < ps.length) => Al.want_take (f := Al.fW (Bd.stop ps n)) hi)
      have HNs := Lib.hid (fun i (hi : i ≤ ps.length) => Al.want_sum (f := Al.fN (Bd.stop ps n)) hall hi)
      have HNl := Lib.hid (Al.want_len (Al.fN (Bd.stop ps n)) ps)
      have HWl := Lib.hid (Al.want_len (Al.fW (Bd.stop ps n)) ps)
      have HB1 := Lib.hid (fun i (hi : i < ps.length) => Bd.one_iff.1 (allB_at pr0 hall hi))
      have HNe := Lib.hid (show ∀ i, ps.length ≤ i → (Al.want (Al.fN (Bd.stop ps n)) ps).take i = Al.want (Al.fN (Bd.stop ps n)) ps from fun i hi => List.take_of_length_le (by rw [Al.want_len]; exact hi))
      have HWe := Lib.hid (show ∀ i, ps.length ≤ i → (Al.want (Al.fW (Bd.stop ps n)) ps).take i = Al.want (Al.fW (Bd.stop ps n)) ps from fun i hi => List.take_of_length_le (by rw [Al.want_len]; exact hi))
      have HEnd0 := Lib.hid (fun (hs : Bd.stop ps n < 0) => (show Al.res ps n = Al.want (Al.fN (Bd.stop ps n)) ps from (if_pos hs).trans (Al.wN_no hs).symm))
      have HEndN := Lib.hid (fun (hs : 0 ≤ Bd.stop ps n) => Al.wN_yes (ps := ps) hs)
      have HEndW := Lib.hid (fun (hs : 0 ≤ Bd.stop ps n) => Al.wW_yes (ps := ps) hs)
      have HEnd1 := Lib.hid (fun (hs : 0 ≤ Bd.stop ps n) => (show Al.res ps n = Al.out ps n from if_neg (by omega)))
      have HOk := Lib.hid (fun (hs : 0 ≤ Bd.stop ps n) => Al.ok_of hauc hs)
      clear h1 h2 hO hauc hall
      obtain ⟨k, hk⟩ : ∃ k, k = ps.length := ⟨_, rfl⟩
      rw [← hk] at hl hm HNt HWt HNs HNl HWl HB1 HNe HWe HV SS VB ⊢
      have HN := Lib.hid hk; clear hk
      generalize hxn : Al.want (Al.fN (Bd.stop ps n)) ps = xn at HNt HNs HNl HNe HEnd0 HEndN
      generalize hxw : Al.want (Al.fW (Bd.stop ps n)) ps = xw at HWt HWl HWe HEndW
      clear hxn hxw
      generalize hss : Bd.stop ps n = s at HNt HWt HEnd0 HEndN HEndW HEnd1 HOk SS
      have HSS := Lib.hid hss; clear hss
      go_enter Try.func34, Try.ntmps34
      go_wp2_with fail
      refine VB.out.mono ?_
      rw [H1.out]
      rintro e w1 ⟨rfl, rfl⟩
      go_wp2_with fail
      refine (inRange_any _ _ _ _).mono ?_
      rw [H2.out]
      rintro e w1 ⟨rfl, rfl⟩
      go_wp2_with fail
      refine SS.out.mono ?_
      rintro e w1 ⟨rfl, rfl⟩
      go_wp2_with fail
      go_loopw [5, 6, 8, 9] (fun o r l x wr => ∃ (i b1 c1 b2 c2 : Nat), i ≤ k ∧ x = .int .i64 i ∧ o = .slice (some ⟨b1, 0, none⟩) i c1 ∧ r = .slice (some ⟨b2, 0, none⟩) i c2 ∧ l = .int .i64 (n - (xn.take i).sum) ∧ b1 ≠ b2 ∧
        Hid (Own wr w.heap.size (.slice (some ⟨b1, 0, none⟩) i c1) (xn.take i)) ∧ Hid (Own wr w.heap.size (.slice (some ⟨b2, 0, none⟩) i c2) (xw.take i)) ∧ Hid (Below w.heap.size w wr)) (fun _ _ _ x _ => k - (intOf x).toNat)
      case atStart => exact ⟨0, _, _, _, _, Nat.zero_le _, rfl, rfl, rfl, by simp, by omega, HO1, HO2, HA2⟩
      case round =>
        obtain ⟨i, b1, c1, b2, c2, hi, rfl, rfl, rfl, rfl, hne, HP, HQ, HB⟩ := hrel
        by_cases hlt : i < k
        · obtain ⟨b, off, d', e, hbl, hc⟩ := HV.out.2 (by rw [← HN.out]; omega)
          rw [← HN.out] at e
          simp only [Value.slice.injEq, true_and] at e
          obtain ⟨rfl, rfl⟩ := e
          have HC := Lib.hid (fun W (hW : Below w.heap.size w W) => (show W.cell? ⟨b, off + i * 2, none⟩ = _ ∧ W.cell? ⟨b, off + i * 2 + 1, none⟩ = _ from ⟨(hW.cell (p := ⟨b, off + i * 2, none⟩) hbl).trans (hc i (by rw [← HN.out]; exact hlt)).1, (hW.cell (p := ⟨b, off + i * 2 + 1, none⟩) hbl).trans (hc i (by rw [← HN.out]; exact hlt)).2⟩))
          clear hc
          obtain ⟨⟨u0, u1⟩, m0, m1⟩ := HB1.out i hlt
          have hnt := HNt.out i hlt
          have hwt := HWt.out i hlt
          obtain ⟨f0, f1⟩ := HNs.out i hi
          have hpe : ps.getD i (0, 0) = ps.getD i pr0 := rfl
          rw [hpe] at HC
          clear hpe
          generalize ps.getD i pr0 = q at HC u0 u1 m0 m1 hnt hwt
          obtain ⟨y, m⟩ := q
          simp only at u0 u1 m0 m1 HC
          have hl1 : (xn.take i).length = i := by rw [List.length_take, HNl.out]; omega
          have hl2 : (xw.take i).length = i := by rw [List.length_take, HWl.out]; omega
          have hsz := HB.out.size
          obtain ⟨hb1, hb1l⟩ := World.ownsRow.lt HP.out.1 b1 rfl
          obtain ⟨hb2, hb2l⟩ := World.ownsRow.lt HQ.out.1 b2 rfl
          obtain ⟨c0, c1'⟩ := HC.out wr HB.out
          have hi1 : (i : Int) < k := by omega
          have hi0 : (0 : Int) ≤ i := by omega
          by_cases hs : s < 0
          · have hs1 : ¬ 0 ≤ s := by omega
            have hnt' : xn.take (i + 1) = xn.take i ++ [m] := hnt.trans (by rw [show (if Al.fN s (y, m) = true then (y, m).2 else 0) = m from by unfold Al.fN; rw [decide_eq_true hs]; rfl])
            have hwt' : xw.take (i + 1) = xw.take i ++ [0] := hwt.trans (by rw [show (if Al.fW s (y, m) = true then (y, m).2 else 0) = 0 from by unfold Al.fW; rw [decide_eq_false hs1]; rfl])
            have hsum : (xn.take (i + 1)).sum = (xn.take i).sum + m := by rw [hnt', List.sum_append]; simp
            have HSum := Lib.hid hsum
            have HNT := Lib.hid hnt'
            have HWT := Lib.hid hwt'
            clear hnt hwt hnt' hwt' hsum
            generalize (xn.take i).sum = S at f0 f1 HSum
            have hd1 := decide_eq_true hs
            have hd2 := decide_eq_false hs1
            have HK1 := Lib.hid ((Blk.new wr #[.int .i64 m] 3).one0)
            have HB5 := Lib.hid (fun (w5 : World) (hg : (wr.alloc (.cells #[.int .i64 m] 3)).grownBy w5 (some b1)) => below_by (HB.out.alloc hsz (.cells #[.int .i64 m] 3)) hg (by simp; omega) (fun k hk => by injection hk with hk; omega))
            have H25 := Lib.hid (fun (w5 : World) (hg : (wr.alloc (.cells #[.int .i64 m] 3)).grownBy w5 (some b1)) => ((HQ.out.alloc (.cells #[.int .i64 m] 3)).keptBy hg (fun p q hp hq => by have hp2 : some b2 = some p := hp; injection hp2; injection hq; omega)))
            go_wp2_with (at_builtin; refine wpList_pushI _ rfl _ _ rfl w.heap.size _ (xn.take i) rfl (HP.out.alloc _) wr.heap.size _ m rfl HK1.out (by rw [hl1]; omega) (by simp; omega) ?_; intro v5 w5 hown5 hg5 hv5)
            have hb5 := HB5.out w5 hg5
            clear c0 c1'
            obtain ⟨c0, c1'⟩ := HC.out w5.drew hb5.drew
            have HQ5 := Lib.hid (show Own w5.drew w.heap.size (.slice (some ⟨b2, 0, none⟩) i c2) (xw.take i) from H25.out w5 hg5)
            have HK2 := Lib.hid ((Blk.new w5.drew #[.int .i64 0] 3).one0)
            obtain ⟨b5, c5', e5, -, hl5, -, -⟩ := hown5.form
            have hl15 : (xn.take i ++ [m]).length = i + 1 := by rw [List.length_append, hl1]; rfl
            rw [hl15] at e5
            subst e5
            have hv5' : b5 = b1 ∨ b5 = wr.heap.size + 1 := by
              rcases hv5 with q | q
              · have q2 : some b5 = some b1 := q
                injection q2 with q2; exact .inl q2
              · have q2 : some b5 = some (wr.alloc (.cells #[.int .i64 m] 3)).heap.size := q
                injection q2 with q2; right; rw [q2]; simp
            have hw5 : wr.heap.size < w5.heap.size := by have := hg5.size; simp at this; omega
            have hne5 : b5 ≠ b2 := by omega
            have HP5 := Lib.hid (show Own w5.drew w.heap.size _ _ from hown5)
            have HB5d := Lib.hid (show Below w.heap.size w w5.drew from hb5.drew)
            have hs5 : w.heap.size ≤ w5.heap.size := hb5.size
            clear hown5 hg5 hv5 hb5
            have HA5 := Lib.hid (HQ5.out.alloc (.cells #[.int .i64 0] 3))
            have HBA := Lib.hid (HB5d.out.alloc hs5 (.cells #[.int .i64 0] 3))
            have K1 := HC.out w5.drew HB5d.out
            have K2 := HC.out (w5.drew.alloc (.cells #[.int .i64 0] 3)) HBA.out
            have K3 : (w5.alloc (.cells #[.int .i64 0] 3)).drew.cell? ⟨b, off + i * 2, none⟩ = some (.int .i64 y) ∧ (w5.alloc (.cells #[.int .i64 0] 3)).drew.cell? ⟨b, off + i * 2 + 1, none⟩ = some (.int .i64 m) := K2
            obtain ⟨i0, hii, hz0, hz1, hz2⟩ := info_parts infoInt
            have W0 : IntKind.i64.wrap 0 = 0 := by decide
            have HTI := Lib.hid (fun b W => stoIntS b W)
            have HAd := Lib.hid (show World.ownsRow (w5.alloc (.cells #[.int .i64 0] 3)).drew w.heap.size 3 1 (.slice (some ⟨b2, 0, none⟩) i c2) (xw.take i).length ((xw.take i).map (Value.int .i64)) from HA5.out.1)
            have HAc := Lib.hid (show (w5.alloc (.cells #[.int .i64 0] 3)).drew.cell? ⟨w5.heap.size, 0, none⟩ = some (.int .i64 0) from HK2.out)
            have HBd := Lib.hid (show Below w.heap.size w (w5.alloc (.cells #[.int .i64 0] 3)).drew from HBA.out)
            have HK6 := Lib.hid (fun (W6 : World) (hg : (w5.alloc (.cells #[.int .i64 0] 3)).drew.grownBy W6 (some b2)) => HC.out W6 (below_by HBd.out hg HBd.out.size (fun k hk => by injection hk with hk; omega)))
            refine wp_region_held_drew (S := (fun W => W.cell? ⟨b, off + i * 2, none⟩ = some (.int .i64 y) ∧ W.cell? ⟨b, off + i * 2 + 1, none⟩ = some (.int .i64 m))) (by kernel_rfl) K1 (fun hHeld => ?_)
            refine wpAnyH_take (i := 0) (v := ?_) rfl (by kernel_rfl) (by kernel_rfl) (by kernel_rfl) (fun _ _ _ h => h) (Or.inl ⟨by rfl, ?_⟩) hHeld ?_
            rotate_left
            · intro w hSw
              (try dsimp only at hSw)
              go_simp
              try with_reducible rfl
            try simp only [Act.put, List.setIfInBounds_toArray]
            refine wpAnyH_take (i := 1) (v := ?_) rfl (by kernel_rfl) (by kernel_rfl) (by kernel_rfl) (fun _ _ _ h => h) (Or.inl ⟨by rfl, ?_⟩) hHeld ?_
            rotate_left
            · intro w hSw
              (try dsimp only at hSw)
              go_simp
              try with_reducible rfl
            try simp only [Act.put]
            refine wpAnyH_take (i := 2) (v := ?_) rfl (by kernel_rfl) (by kernel_rfl) (by kernel_rfl) (fun _ _ _ h => h) (Or.inl ⟨by rfl, ?_⟩) hHeld ?_
            rotate_left
            · intro w hSw
              (try dsimp only at hSw)
              go_simp
              try with_reducible rfl
            try simp only [Act.put]
            refine wpAnyH_take (i := 6) (v := ?_) rfl (by kernel_rfl) (by kernel_rfl) (by kernel_rfl) (fun _ _ _ h => h) (Or.inl ⟨by rfl, ?_⟩) hHeld ?_
            rotate_left
            · intro w hSw
              (try dsimp only at hSw)
              go_simp
              try with_reducible rfl
            try simp only [Act.put]
            refine wpAnyH_take (i := 7) (v := ?_) rfl (by kernel_rfl) (by kernel_rfl) (by kernel_rfl) (fun _ _ _ h => h) (Or.inl ⟨by rfl, ?_⟩) hHeld ?_
            rotate_left
            · intro w hSw
              (try dsimp only at hSw)
              go_simp
              try with_reducible rfl
            try simp only [Act.put]
            refine wpAnyH_take (i := 8) (v := ?_) rfl (by kernel_rfl) (by kernel_rfl) (by kernel_rfl) (fun _ _ _ h => h) (Or.inl ⟨by rfl, ?_⟩) hHeld ?_
            rotate_left
            · intro w hSw
              (try dsimp only at hSw)
              go_simp
              try with_reducible rfl
            try simp only [Act.put]
            refine wpAnyH_take (i := 9) rfl (by kernel_rfl) (by kernel_rfl) (by kernel_rfl) (fun _ _ _ h => h) (Or.inr ⟨by kernel_rfl, rfl⟩) hHeld ?_
            try simp only [Act.put]
            refine wpAnyH_take (i := 10) rfl (by kernel_rfl) (by kernel_rfl) (by kernel_rfl) (fun _ _ _ h => h) (Or.inr ⟨by kernel_rfl, rfl⟩) hHeld ?_
            try simp only [Act.put]
            refine wpAnyH_take (i := 11) rfl (by kernel_rfl) (by kernel_rfl) (by kernel_rfl) (fun _ _ _ h => h) (Or.inr ⟨by kernel_rfl, rfl⟩) hHeld ?_
            try simp only [Act.put]
            refine wpAnyH_take (i := 12) rfl (by kernel_rfl) (by kernel_rfl) (by kernel_rfl) (fun _ _ _ h => h) (Or.inr ⟨by kernel_rfl, rfl⟩) hHeld ?_
            try simp only [Act.put]
            refine wpAnyH_take (i := 13) rfl (by kernel_rfl) (by kernel_rfl) (by kernel_rfl) (fun _ _ _ h => h) (Or.inr ⟨by kernel_rfl, rfl⟩) hHeld ?_
            try simp only [Act.put]
            refine wpAnyH_take (i := 14) rfl (by kernel_rfl) (by kernel_rfl) (by kernel_rfl) (fun _ _ _ h => h) (Or.inr ⟨by kernel_rfl, rfl⟩) hHeld ?_
            try simp only [Act.put]
            refine wpAnyH_take (i := 15) rfl (by kernel_rfl) (by kernel_rfl) (by kernel_rfl) (fun _ _ _ h => h) (Or.inr ⟨by kernel_rfl, rfl⟩) hHeld ?_
            try simp only [Act.put]
            refine wpAnyH_take (i := 16) (v := ?_) rfl (by kernel_rfl) (by kernel_rfl) (by kernel_rfl) (fun _ _ _ h => h) (Or.inl ⟨by rfl, ?_⟩) hHeld ?_
            rotate_left
            · intro w hSw
              (try dsimp only at hSw)
              go_simp
              try with_reducible rfl
            try simp only [Act.put]
            refine wpAnyH_take (i := 3) (v := ?_) rfl (by kernel_rfl) (by kernel_rfl) (by kernel_rfl) (fun _ _ _ h => h) (Or.inl ⟨by rfl, ?_⟩) hHeld ?_
            rotate_left
            · intro w hSw
              (try dsimp only at hSw)
              go_simp
              try with_reducible rfl
            try simp only [Act.put]
            refine wpAnyH_take (i := 4) (v := ?_) rfl (by kernel_rfl) (by kernel_rfl) (by kernel_rfl) (fun _ _ _ h => h) (Or.inl ⟨by rfl, ?_⟩) hHeld ?_
            rotate_left
            · intro w hSw
              (try dsimp only at hSw)
              go_simp
              try with_reducible rfl
            try simp only [Act.put]
            refine wpAnyH_take (i := 5) (v := ?_) rfl (by kernel_rfl) (by kernel_rfl) (by kernel_rfl) (fun _ _ _ h => h) (Or.inl ⟨by rfl, ?_⟩) hHeld ?_
            rotate_left
            · intro w hSw
              (try dsimp only at hSw)
              go_simp
              try with_reducible rfl
            try simp only [Act.put]
            refine wpAnyH_ready (rs := [17]) (by kernel_rfl) (by simp) ?_
            refine AllReadyH.cons rfl (fun K hK => ?_) AllReadyH.nil
            go_simp
            go_wp2_with (go_at_call 68; refine (HTI.out _ _).mono ?_; rintro e w' ⟨rfl, rfl⟩)
            refine hK.out _ _ K1 (fun hHeld => ?_)
            clear hK K
            refine wpAnyH_take (i := 18) (v := ?_) rfl (by kernel_rfl) (by kernel_rfl) (by kernel_rfl) (fun _ _ _ h => h) (Or.inl ⟨by rfl, ?_⟩) hHeld ?_
            rotate_left
            · intro w hSw
              (try dsimp only at hSw)
              go_simp
              try with_reducible rfl
            try simp only [Act.put, List.setIfInBounds_toArray]
            refine wpAnyH_ready (rs := [19]) (by kernel_rfl) (by simp) ?_
            refine AllReadyH.cons rfl (fun K hK => ?_) AllReadyH.nil
            go_simp
            refine hK.out _ _ K3 (fun hHeld => ?_)
            clear hK K
            refine wpAnyH_ready (rs := [20]) (by kernel_rfl) (by simp) ?_
            refine AllReadyH.cons rfl (fun K hK => ?_) AllReadyH.nil
            refine step_append_lies _ rfl _ _ 23 rfl w.heap.size 3 i0 (.int .i64 0) 1 8 Try.underlying23 hii hz0 hz1 hz2 rfl (by decide) (.slice (some ⟨b2, 0, none⟩) i c2) (xw.take i).length ((xw.take i).map (Value.int .i64)) rfl HAd.out ⟨w5.heap.size, 0, none⟩ 1 1 [.int .i64 0] rfl rfl (fun j u hu => by cases j with | zero => (simp at hu; subst hu; exact HAc.out) | succ j => simp at hu) (ints_oneCell .i64 [0]) (by decide) (by unfold maxLen; omega) (by omega) HBd.out.size _ rfl ?_
            intro g6 c6' w6 hown6 hg6 hat6 hlt6
            have K6 := HK6.out w6 hg6
            refine hK.out _ _ K6 (fun hHeld => ?_)
            clear hK K
            try simp only [Act.put, List.setIfInBounds_toArray]
            refine wpAnyH_take (i := 21) (v := ?_) rfl (by kernel_rfl) (by kernel_rfl) (by kernel_rfl) (fun _ _ _ h => h) (Or.inl ⟨by rfl, ?_⟩) hHeld ?_
            rotate_left
            · intro w hSw
              (try dsimp only at hSw)
              go_simp
              try with_reducible rfl
            try simp only [Act.put]
            refine wpAnyH_done (by kernel_rfl) ?_ _
            have hV : (0 : Int) = 0 := rfl
            have hg6' : (w5.alloc (.cells #[.int .i64 0] 3)).drew.grownBy w6 (some b2) := hg6
            have hat' : g6 = b2 ∨ g6 = w5.heap.size + 1 := by
              rcases hat6 with q | q
              · have q2 : some b2 = some g6 := q
                injection q2 with q2; exact .inl q2.symm
              · right; rw [q]; simp
            have HO6 : Hid (Own w6 w.heap.size (.slice (some ⟨g6, 0, none⟩) (i + 1) c6') (xw.take i ++ [0])) := Lib.hid ⟨by
              have h := hown6
              rw [hV, hl2] at h
              have e : (xw.take i ++ [0]).length = i + 1 := by rw [List.length_append, hl2]; rfl
              rw [e, List.map_append]
              exact h, by simp⟩
            have HO5 := Lib.hid ((show Own (w5.alloc (.cells #[.int .i64 0] 3)).drew w.heap.size _ _ from HP5.out.alloc (.cells #[.int .i64 0] 3)).keptBy hg6' (fun p q hp hq => by have hp2 : some b5 = some p := hp; injection hp2; injection hq; omega))
            have HB6 := Lib.hid (below_by HBd.out hg6' HBd.out.size (fun k hk => by injection hk with hk; omega))
            clear hown6 hg6 hg6' hat6 K1 K2 K3 K6 c0 c1'
            go_wp2_with fail
            go_roundw
            case rel =>
              refine ⟨i + 1, b5, c5', g6, c6', by omega, by go_num, rfl, rfl, ?_, by omega, ?_, ?_, HB6⟩
              · rw [HSum.out]; congr 1; omega
              · exact Lib.hid (by rw [HNT.out]; exact HO5.out)
              · exact Lib.hid (by rw [HWT.out]; exact HO6.out)
            case measure => simp [intOf]; omega
          · have hs1 : 0 ≤ s := by omega
            have hd1 := decide_eq_false hs
            have hd2 := decide_eq_true hs1
            by_cases hy : y < s
            · have hye : (y == s) = false := by rw [beq_eq_false_iff_ne]; omega
              have hnt' : xn.take (i + 1) = xn.take i ++ [m] := hnt.trans (by rw [show (if Al.fN s (y, m) = true then (y, m).2 else 0) = m from by unfold Al.fN; rw [hd1, decide_eq_true hy]; rfl])
              have hwt' : xw.take (i + 1) = xw.take i ++ [0] := hwt.trans (by rw [show (if Al.fW s (y, m) = true then (y, m).2 else 0) = 0 from by unfold Al.fW; rw [hd2]; simp only [hye]; rfl])
              have hsum : (xn.take (i + 1)).sum = (xn.take i).sum + m := by rw [hnt', List.sum_append]; simp
              have HSum := Lib.hid hsum
              have HNT := Lib.hid hnt'
              have HWT := Lib.hid hwt'
              clear hnt hwt hnt' hwt' hsum
              generalize (xn.take i).sum = S at f0 f1 HSum
              have hd3 := decide_eq_true hy
              have HK1 := Lib.hid ((Blk.new wr #[.int .i64 m] 3).one0)
              have HB5 := Lib.hid (fun (w5 : World) (hg : (wr.alloc (.cells #[.int .i64 m] 3)).grownBy w5 (some b1)) => below_by (HB.out.alloc hsz (.cells #[.int .i64 m] 3)) hg (by simp; omega) (fun k hk => by injection hk with hk; omega))
              have H25 := Lib.hid (fun (w5 : World) (hg : (wr.alloc (.cells #[.int .i64 m] 3)).grownBy w5 (some b1)) => ((HQ.out.alloc (.cells #[.int .i64 m] 3)).keptBy hg (fun p q hp hq => by have hp2 : some b2 = some p := hp; injection hp2; injection hq; omega)))
              go_wp2_with (at_builtin; refine wpList_pushI _ rfl _ _ rfl w.heap.size _ (xn.take i) rfl (HP.out.alloc _) wr.heap.size _ m rfl HK1.out (by rw [hl1]; omega) (by simp; omega) ?_; intro v5 w5 hown5 hg5 hv5)
              have hb5 := HB5.out w5 hg5
              clear c0 c1'
              obtain ⟨c0, c1'⟩ := HC.out w5.drew hb5.drew
              have HQ5 := Lib.hid (show Own w5.drew w.heap.size (.slice (some ⟨b2, 0, none⟩) i c2) (xw.take i) from H25.out w5 hg5)
              have HK2 := Lib.hid ((Blk.new w5.drew #[.int .i64 0] 3).one0)
              obtain ⟨b5, c5', e5, -, hl5, -, -⟩ := hown5.form
              have hl15 : (xn.take i ++ [m]).length = i + 1 := by rw [List.length_append, hl1]; rfl
              rw [hl15] at e5
              subst e5
              have hv5' : b5 = b1 ∨ b5 = wr.heap.size + 1 := by
                rcases hv5 with q | q
                · have q2 : some b5 = some b1 := q
                  injection q2 with q2; exact .inl q2
                · have q2 : some b5 = some (wr.alloc (.cells #[.int .i64 m] 3)).heap.size := q
                  injection q2 with q2; right; rw [q2]; simp
              have hw5 : wr.heap.size < w5.heap.size := by have := hg5.size; simp at this; omega
              have hne5 : b5 ≠ b2 := by omega
              have HP5 := Lib.hid (show Own w5.drew w.heap.size _ _ from hown5)
              have HB5d := Lib.hid (show Below w.heap.size w w5.drew from hb5.drew)
              have hs5 : w.heap.size ≤ w5.heap.size := hb5.size
              clear hown5 hg5 hv5 hb5
              have HA5 := Lib.hid (HQ5.out.alloc (.cells #[.int .i64 0] 3))
              have HBA := Lib.hid (HB5d.out.alloc hs5 (.cells #[.int .i64 0] 3))
              have K1 := HC.out w5.drew HB5d.out
              have K2 := HC.out (w5.drew.alloc (.cells #[.int .i64 0] 3)) HBA.out
              have K3 : (w5.alloc (.cells #[.int .i64 0] 3)).drew.cell? ⟨b, off + i * 2, none⟩ = some (.int .i64 y) ∧ (w5.alloc (.cells #[.int .i64 0] 3)).drew.cell? ⟨b, off + i * 2 + 1, none⟩ = some (.int .i64 m) := K2
              obtain ⟨i0, hii, hz0, hz1, hz2⟩ := info_parts infoInt
              have W0 : IntKind.i64.wrap 0 = 0 := by decide
              have HTI := Lib.hid (fun b W => stoIntS b W)
              have HAd := Lib.hid (show World.ownsRow (w5.alloc (.cells #[.int .i64 0] 3)).drew w.heap.size 3 1 (.slice (some ⟨b2, 0, none⟩) i c2) (xw.take i).length ((xw.take i).map (Value.int .i64)) from HA5.out.1)
              have HAc := Lib.hid (show (w5.alloc (.cells #[.int .i64 0] 3)).drew.cell? ⟨w5.heap.size, 0, none⟩ = some (.int .i64 0) from HK2.out)
              have HBd := Lib.hid (show Below w.heap.size w (w5.alloc (.cells #[.int .i64 0] 3)).drew from HBA.out)
              have HK6 := Lib.hid (fun (W6 : World) (hg : (w5.alloc (.cells #[.int .i64 0] 3)).drew.grownBy W6 (some b2)) => HC.out W6 (below_by HBd.out hg HBd.out.size (fun k hk => by injection hk with hk; omega)))
              first | (go_region_held_law (fun W => W.cell? ⟨b, off + i * 2, none⟩ = some (.int .i64 y) ∧ W.cell? ⟨b, off + i * 2 + 1, none⟩ = some (.int .i64 m)) (first | with_reducible exact K1 | with_reducible exact K2 | with_reducible exact K3 | with_reducible exact K6 | fail "nokeep") (first | (refine step_append_lies _ rfl _ _ 23 rfl w.heap.size 3 i0 (.int .i64 0) 1 8 Try.underlying23 hii hz0 hz1 hz2 rfl (by decide) (.slice (some ⟨b2, 0, none⟩) i c2) (xw.take i).length ((xw.take i).map (Value.int .i64)) rfl HAd.out ⟨w5.heap.size, 0, none⟩ 1 1 [.int .i64 0] rfl rfl (fun j u hu => by cases j with | zero => (simp at hu; subst hu; exact HAc.out) | succ j => simp at hu) (ints_oneCell .i64 [0]) (by decide) (by unfold maxLen; omega) (by omega) HBd.out.size _ rfl ?_; intro g6 c6' w6 hown6 hg6 hat6 hlt6; have K6 := HK6.out w6 hg6) | (go_at_call 68; refine (HTI.out _ _).mono ?_; rintro e w' ⟨rfl, rfl⟩))) | fail "WALK"
              have hV : (0 : Int) = 0 := rfl
              have hg6' : (w5.alloc (.cells #[.int .i64 0] 3)).drew.grownBy w6 (some b2) := hg6
              have hat' : g6 = b2 ∨ g6 = w5.heap.size + 1 := by
                rcases hat6 with q | q
                · have q2 : some b2 = some g6 := q
                  injection q2 with q2; exact .inl q2.symm
                · right; rw [q]; simp
              have HO6 : Hid (Own w6 w.heap.size (.slice (some ⟨g6, 0, none⟩) (i + 1) c6') (xw.take i ++ [0])) := Lib.hid ⟨by
                have h := hown6
                rw [hV, hl2] at h
                have e : (xw.take i ++ [0]).length = i + 1 := by rw [List.length_append, hl2]; rfl
                rw [e, List.map_append]
                exact h, by simp⟩
              have HO5 := Lib.hid ((show Own (w5.alloc (.cells #[.int .i64 0] 3)).drew w.heap.size _ _ from HP5.out.alloc (.cells #[.int .i64 0] 3)).keptBy hg6' (fun p q hp hq => by have hp2 : some b5 = some p := hp; injection hp2; injection hq; omega))
              have HB6 := Lib.hid (below_by HBd.out hg6' HBd.out.size (fun k hk => by injection hk with hk; omega))
              clear hown6 hg6 hg6' hat6 K1 K2 K3 K6 c0 c1'
              go_wp2_with fail
              go_roundw
              case rel =>
                refine ⟨i + 1, b5, c5', g6, c6', by omega, by go_num, rfl, rfl, ?_, by omega, ?_, ?_, HB6⟩
                · rw [HSum.out]; congr 1; omega
                · exact Lib.hid (by rw [HNT.out]; exact HO5.out)
                · exact Lib.hid (by rw [HWT.out]; exact HO6.out)
              case measure => simp [intOf]; omega
            · have hd3 := decide_eq_false hy
              by_cases he : y = s
              · have hye : (y == s) = true := by simpa using he
                have hnt' : xn.take (i + 1) = xn.take i ++ [0] := hnt.trans (by rw [show (if Al.fN s (y, m) = true then (y, m).2 else 0) = 0 from by unfold Al.fN; rw [hd1]; simp only [hd3]; rfl])
                have hwt' : xw.take (i + 1) = xw.take i ++ [m] := hwt.trans (by rw [show (if Al.fW s (y, m) = true then (y, m).2 else 0) = m from by unfold Al.fW; rw [hd2]; simp only [hye]; rfl])
                have hsum : (xn.take (i + 1)).sum = (xn.take i).sum + 0 := by rw [hnt', List.sum_append]; simp
                have HSum := Lib.hid hsum
                have HNT := Lib.hid hnt'
                have HWT := Lib.hid hwt'
                clear hnt hwt hnt' hwt' hsum
                generalize (xn.take i).sum = S at f0 f1 HSum
                clear he
                have HK1 := Lib.hid ((Blk.new wr #[.int .i64 0] 3).one0)
                have HB5 := Lib.hid (fun (w5 : World) (hg : (wr.alloc (.cells #[.int .i64 0] 3)).grownBy w5 (some b1)) => below_by (HB.out.alloc hsz (.cells #[.int .i64 0] 3)) hg (by simp; omega) (fun k hk => by injection hk with hk; omega))
                have H25 := Lib.hid (fun (w5 : World) (hg : (wr.alloc (.cells #[.int .i64 0] 3)).grownBy w5 (some b1)) => ((HQ.out.alloc (.cells #[.int .i64 0] 3)).keptBy hg (fun p q hp hq => by have hp2 : some b2 = some p := hp; injection hp2; injection hq; omega)))
                go_wp2_with (at_builtin; refine wpList_pushI _ rfl _ _ rfl w.heap.size _ (xn.take i) rfl (HP.out.alloc _) wr.heap.size _ 0 rfl HK1.out (by rw [hl1]; omega) (by simp; omega) ?_; intro v5 w5 hown5 hg5 hv5)
                have hb5 := HB5.out w5 hg5
                clear c0 c1'
                obtain ⟨c0, c1'⟩ := HC.out w5.drew hb5.drew
                have HQ5 := Lib.hid (show Own w5.drew w.heap.size (.slice (some ⟨b2, 0, none⟩) i c2) (xw.take i) from H25.out w5 hg5)
                have HK2 := Lib.hid ((Blk.new w5.drew #[.int .i64 (IntKind.i64.wrap m)] 3).one0)
                obtain ⟨b5, c5', e5, -, hl5, -, -⟩ := hown5.form
                have hl15 : (xn.take i ++ [0]).length = i + 1 := by rw [List.length_append, hl1]; rfl
                rw [hl15] at e5
                subst e5
                have hv5' : b5 = b1 ∨ b5 = wr.heap.size + 1 := by
                  rcases hv5 with q | q
                  · have q2 : some b5 = some b1 := q
                    injection q2 with q2; exact .inl q2
                  · have q2 : some b5 = some (wr.alloc (.cells #[.int .i64 0] 3)).heap.size := q
                    injection q2 with q2; right; rw [q2]; simp
                have hw5 : wr.heap.size < w5.heap.size := by have := hg5.size; simp at this; omega
                have hne5 : b5 ≠ b2 := by omega
                have HP5 := Lib.hid (show Own w5.drew w.heap.size _ _ from hown5)
                have HB5d := Lib.hid (show Below w.heap.size w w5.drew from hb5.drew)
                have hs5 : w.heap.size ≤ w5.heap.size := hb5.size
                clear hown5 hg5 hv5 hb5
                have HA5 := Lib.hid (HQ5.out.alloc (.cells #[.int .i64 (IntKind.i64.wrap m)] 3))
                have HBA := Lib.hid (HB5d.out.alloc hs5 (.cells #[.int .i64 (IntKind.i64.wrap m)] 3))
                have K1 := HC.out w5.drew HB5d.out
                have K2 := HC.out (w5.drew.alloc (.cells #[.int .i64 (IntKind.i64.wrap m)] 3)) HBA.out
                have K3 : (w5.alloc (.cells #[.int .i64 (IntKind.i64.wrap m)] 3)).drew.cell? ⟨b, off + i * 2, none⟩ = some (.int .i64 y) ∧ (w5.alloc (.cells #[.int .i64 (IntKind.i64.wrap m)] 3)).drew.cell? ⟨b, off + i * 2 + 1, none⟩ = some (.int .i64 m) := K2
                obtain ⟨i0, hii, hz0, hz1, hz2⟩ := info_parts infoInt
                have W0 : IntKind.i64.wrap 0 = 0 := by decide
                have HTI := Lib.hid (fun b W => stoIntS b W)
                have HAd := Lib.hid (show World.ownsRow (w5.alloc (.cells #[.int .i64 (IntKind.i64.wrap m)] 3)).drew w.heap.size 3 1 (.slice (some ⟨b2, 0, none⟩) i c2) (xw.take i).length ((xw.take i).map (Value.int .i64)) from HA5.out.1)
                have HAc := Lib.hid (show (w5.alloc (.cells #[.int .i64 (IntKind.i64.wrap m)] 3)).drew.cell? ⟨w5.heap.size, 0, none⟩ = some (.int .i64 (IntKind.i64.wrap m)) from HK2.out)
                have HBd := Lib.hid (show Below w.heap.size w (w5.alloc (.cells #[.int .i64 (IntKind.i64.wrap m)] 3)).drew from HBA.out)
                have HK6 := Lib.hid (fun (W6 : World) (hg : (w5.alloc (.cells #[.int .i64 (IntKind.i64.wrap m)] 3)).drew.grownBy W6 (some b2)) => HC.out W6 (below_by HBd.out hg HBd.out.size (fun k hk => by injection hk with hk; omega)))
                first | (go_region_held_law (fun W => W.cell? ⟨b, off + i * 2, none⟩ = some (.int .i64 y) ∧ W.cell? ⟨b, off + i * 2 + 1, none⟩ = some (.int .i64 m)) (first | with_reducible exact K1 | with_reducible exact K2 | with_reducible exact K3 | with_reducible exact K6 | fail "nokeep") (first | (refine step_append_lies _ rfl _ _ 23 rfl w.heap.size 3 i0 (.int .i64 0) 1 8 Try.underlying23 hii hz0 hz1 hz2 rfl (by decide) (.slice (some ⟨b2, 0, none⟩) i c2) (xw.take i).length ((xw.take i).map (Value.int .i64)) rfl HAd.out ⟨w5.heap.size, 0, none⟩ 1 1 [.int .i64 (IntKind.i64.wrap m)] rfl rfl (fun j u hu => by cases j with | zero => (simp at hu; subst hu; exact HAc.out) | succ j => simp at hu) (ints_oneCell .i64 [(IntKind.i64.wrap m)]) (by decide) (by unfold maxLen; omega) (by omega) HBd.out.size _ rfl ?_; intro g6 c6' w6 hown6 hg6 hat6 hlt6; have K6 := HK6.out w6 hg6) | (go_at_call 68; refine (HTI.out _ _).mono ?_; rintro e w' ⟨rfl, rfl⟩))) | fail "WALK"
                have hV : ((IntKind.i64.wrap m) : Int) = m := IntWalk.i64_in _ (by omega)
                have hg6' : (w5.alloc (.cells #[.int .i64 (IntKind.i64.wrap m)] 3)).drew.grownBy w6 (some b2) := hg6
                have hat' : g6 = b2 ∨ g6 = w5.heap.size + 1 := by
                  rcases hat6 with q | q
                  · have q2 : some b2 = some g6 := q
                    injection q2 with q2; exact .inl q2.symm
                  · right; rw [q]; simp
                have HO6 : Hid (Own w6 w.heap.size (.slice (some ⟨g6, 0, none⟩) (i + 1) c6') (xw.take i ++ [m])) := Lib.hid ⟨by
                  have h := hown6
                  rw [hV, hl2] at h
                  have e : (xw.take i ++ [m]).length = i + 1 := by rw [List.length_append, hl2]; rfl
                  rw [e, List.map_append]
                  exact h, by simp⟩
                have HO5 := Lib.hid ((show Own (w5.alloc (.cells #[.int .i64 (IntKind.i64.wrap m)] 3)).drew w.heap.size _ _ from HP5.out.alloc (.cells #[.int .i64 (IntKind.i64.wrap m)] 3)).keptBy hg6' (fun p q hp hq => by have hp2 : some b5 = some p := hp; injection hp2; injection hq; omega))
                have HB6 := Lib.hid (below_by HBd.out hg6' HBd.out.size (fun k hk => by injection hk with hk; omega))
                clear hown6 hg6 hg6' hat6 K1 K2 K3 K6 c0 c1'
                go_wp2_with fail
                go_roundw
                case rel =>
                  refine ⟨i + 1, b5, c5', g6, c6', by omega, by go_num, rfl, rfl, ?_, by omega, ?_, ?_, HB6⟩
                  · rw [HSum.out]; congr 1; omega
                  · exact Lib.hid (by rw [HNT.out]; exact HO5.out)
                  · exact Lib.hid (by rw [HWT.out]; exact HO6.out)
                case measure => simp [intOf]; omega
              · have hye : (y == s) = false := by rw [beq_eq_false_iff_ne]; exact he
                have hnt' : xn.take (i + 1) = xn.take i ++ [0] := hnt.trans (by rw [show (if Al.fN s (y, m) = true then (y, m).2 else 0) = 0 from by unfold Al.fN; rw [hd1]; simp only [hd3]; rfl])
                have hwt' : xw.take (i + 1) = xw.take i ++ [0] := hwt.trans (by rw [show (if Al.fW s (y, m) = true then (y, m).2 else 0) = 0 from by unfold Al.fW; rw [hd2]; simp only [hye]; rfl])
                have hsum : (xn.take (i + 1)).sum = (xn.take i).sum + 0 := by rw [hnt', List.sum_append]; simp
                have HSum := Lib.hid hsum
                have HNT := Lib.hid hnt'
                have HWT := Lib.hid hwt'
                clear hnt hwt hnt' hwt' hsum
                generalize (xn.take i).sum = S at f0 f1 HSum
                clear he
                have HK1 := Lib.hid ((Blk.new wr #[.int .i64 0] 3).one0)
                have HB5 := Lib.hid (fun (w5 : World) (hg : (wr.alloc (.cells #[.int .i64 0] 3)).grownBy w5 (some b1)) => below_by (HB.out.alloc hsz (.cells #[.int .i64 0] 3)) hg (by simp; omega) (fun k hk => by injection hk with hk; omega))
                have H25 := Lib.hid (fun (w5 : World) (hg : (wr.alloc (.cells #[.int .i64 0] 3)).grownBy w5 (some b1)) => ((HQ.out.alloc (.cells #[.int .i64 0] 3)).keptBy hg (fun p q hp hq => by have hp2 : some b2 = some p := hp; injection hp2; injection hq; omega)))
                go_wp2_with (at_builtin; refine wpList_pushI _ rfl _ _ rfl w.heap.size _ (xn.take i) rfl (HP.out.alloc _) wr.heap.size _ 0 rfl HK1.out (by rw [hl1]; omega) (by simp; omega) ?_; intro v5 w5 hown5 hg5 hv5)
                have hb5 := HB5.out w5 hg5
                clear c0 c1'
                obtain ⟨c0, c1'⟩ := HC.out w5.drew hb5.drew
                have HQ5 := Lib.hid (show Own w5.drew w.heap.size (.slice (some ⟨b2, 0, none⟩) i c2) (xw.take i) from H25.out w5 hg5)
                have HK2 := Lib.hid ((Blk.new w5.drew #[.int .i64 0] 3).one0)
                obtain ⟨b5, c5', e5, -, hl5, -, -⟩ := hown5.form
                have hl15 : (xn.take i ++ [0]).length = i + 1 := by rw [List.length_append, hl1]; rfl
                rw [hl15] at e5
                subst e5
                have hv5' : b5 = b1 ∨ b5 = wr.heap.size + 1 := by
                  rcases hv5 with q | q
                  · have q2 : some b5 = some b1 := q
                    injection q2 with q2; exact .inl q2
                  · have q2 : some b5 = some (wr.alloc (.cells #[.int .i64 0] 3)).heap.size := q
                    injection q2 with q2; right; rw [q2]; simp
                have hw5 : wr.heap.size < w5.heap.size := by have := hg5.size; simp at this; omega
                have hne5 : b5 ≠ b2 := by omega
                have HP5 := Lib.hid (show Own w5.drew w.heap.size _ _ from hown5)
                have HB5d := Lib.hid (show Below w.heap.size w w5.drew from hb5.drew)
                have hs5 : w.heap.size ≤ w5.heap.size := hb5.size
                clear hown5 hg5 hv5 hb5
                have HA5 := Lib.hid (HQ5.out.alloc (.cells #[.int .i64 0] 3))
                have HBA := Lib.hid (HB5d.out.alloc hs5 (.cells #[.int .i64 0] 3))
                have K1 := HC.out w5.drew HB5d.out
                have K2 := HC.out (w5.drew.alloc (.cells #[.int .i64 0] 3)) HBA.out
                have K3 : (w5.alloc (.cells #[.int .i64 0] 3)).drew.cell? ⟨b, off + i * 2, none⟩ = some (.int .i64 y) ∧ (w5.alloc (.cells #[.int .i64 0] 3)).drew.cell? ⟨b, off + i * 2 + 1, none⟩ = some (.int .i64 m) := K2
                obtain ⟨i0, hii, hz0, hz1, hz2⟩ := info_parts infoInt
                have W0 : IntKind.i64.wrap 0 = 0 := by decide
                have HTI := Lib.hid (fun b W => stoIntS b W)
                have HAd := Lib.hid (show World.ownsRow (w5.alloc (.cells #[.int .i64 0] 3)).drew w.heap.size 3 1 (.slice (some ⟨b2, 0, none⟩) i c2) (xw.take i).length ((xw.take i).map (Value.int .i64)) from HA5.out.1)
                have HAc := Lib.hid (show (w5.alloc (.cells #[.int .i64 0] 3)).drew.cell? ⟨w5.heap.size, 0, none⟩ = some (.int .i64 0) from HK2.out)
                have HBd := Lib.hid (show Below w.heap.size w (w5.alloc (.cells #[.int .i64 0] 3)).drew from HBA.out)
                have HK6 := Lib.hid (fun (W6 : World) (hg : (w5.alloc (.cells #[.int .i64 0] 3)).drew.grownBy W6 (some b2)) => HC.out W6 (below_by HBd.out hg HBd.out.size (fun k hk => by injection hk with hk; omega)))
                first | (go_region_held_law (fun W => W.cell? ⟨b, off + i * 2, none⟩ = some (.int .i64 y) ∧ W.cell? ⟨b, off + i * 2 + 1, none⟩ = some (.int .i64 m)) (first | with_reducible exact K1 | with_reducible exact K2 | with_reducible exact K3 | with_reducible exact K6 | fail "nokeep") (first | (refine step_append_lies _ rfl _ _ 23 rfl w.heap.size 3 i0 (.int .i64 0) 1 8 Try.underlying23 hii hz0 hz1 hz2 rfl (by decide) (.slice (some ⟨b2, 0, none⟩) i c2) (xw.take i).length ((xw.take i).map (Value.int .i64)) rfl HAd.out ⟨w5.heap.size, 0, none⟩ 1 1 [.int .i64 0] rfl rfl (fun j u hu => by cases j with | zero => (simp at hu; subst hu; exact HAc.out) | succ j => simp at hu) (ints_oneCell .i64 [0]) (by decide) (by unfold maxLen; omega) (by omega) HBd.out.size _ rfl ?_; intro g6 c6' w6 hown6 hg6 hat6 hlt6; have K6 := HK6.out w6 hg6) | (go_at_call 68; refine (HTI.out _ _).mono ?_; rintro e w' ⟨rfl, rfl⟩))) | fail "WALK"
                have hV : (0 : Int) = 0 := rfl
                have hg6' : (w5.alloc (.cells #[.int .i64 0] 3)).drew.grownBy w6 (some b2) := hg6
                have hat' : g6 = b2 ∨ g6 = w5.heap.size + 1 := by
                  rcases hat6 with q | q
                  · have q2 : some b2 = some g6 := q
                    injection q2 with q2; exact .inl q2.symm
                  · right; rw [q]; simp
                have HO6 : Hid (Own w6 w.heap.size (.slice (some ⟨g6, 0, none⟩) (i + 1) c6') (xw.take i ++ [0])) := Lib.hid ⟨by
                  have h := hown6
                  rw [hV, hl2] at h
                  have e : (xw.take i ++ [0]).length = i + 1 := by rw [List.length_append, hl2]; rfl
                  rw [e, List.map_append]
                  exact h, by simp⟩
                have HO5 := Lib.hid ((show Own (w5.alloc (.cells #[.int .i64 0] 3)).drew w.heap.size _ _ from HP5.out.alloc (.cells #[.int .i64 0] 3)).keptBy hg6' (fun p q hp hq => by have hp2 : some b5 = some p := hp; injection hp2; injection hq; omega))
                have HB6 := Lib.hid (below_by HBd.out hg6' HBd.out.size (fun k hk => by injection hk with hk; omega))
                clear hown6 hg6 hg6' hat6 K1 K2 K3 K6 c0 c1'
                go_wp2_with fail
                go_roundw
                case rel =>
                  refine ⟨i + 1, b5, c5', g6, c6', by omega, by go_num, rfl, rfl, ?_, by omega, ?_, ?_, HB6⟩
                  · rw [HSum.out]; congr 1; omega
                  · exact Lib.hid (by rw [HNT.out]; exact HO5.out)
                  · exact Lib.hid (by rw [HWT.out]; exact HO6.out)
                case measure => simp [intOf]; omega
        · obtain rfl : i = k := by omega
          have HF := Lib.hid (show Own wr w.heap.size (.slice (some ⟨b1, 0, none⟩) i c1) xn by have h := HP.out; rw [HNe.out i (Nat.le_refl _)] at h; exact h)
          have HRw := Lib.hid (show Own wr w.heap.size (.slice (some ⟨b2, 0, none⟩) i c2) xw by have h := HQ.out; rw [HWe.out i (Nat.le_refl _)] at h; exact h)
          rw [HNe.out i (Nat.le_refl _)]
          clear HP HQ
          by_cases hs : s < 0
          · have E0 := Lib.hid (HEnd0.out hs)
            go_wp2_with fail
            go_ret
            exact ⟨_, rfl, by rw [E.out, E0.out]; exact HF.out.1, HB.out⟩
          · have hs1 : 0 ≤ s := by omega
            have hss := HSS.out
            have ok := HOk.out hs1
            have exn : xn = Al.less ps s := HEndN.out hs1
            have exw : xw = Al.last ps s := HEndW.out hs1
            have E1 := Lib.hid (HEnd1.out hs1)
            have elf : n - xn.sum = Al.left ps n := by rw [exn, ← hss]; rfl
            have hpr := Pr.okB_ok ok.pr
            rw [hss, ← exw] at hpr
            obtain ⟨⟨a0, a1⟩, ⟨x1, x8, xa⟩, xok⟩ := hpr
            have SP := Lib.hid (sprorate_any wr (Al.left ps n) _ xw HRw.out.irow.r1 a0 a1 xa x8 xok.t0)
            rw [show Pr.out (Al.left ps n) xw = Al.shr ps n by rw [exw, ← hss]; rfl] at SP
            have HOa := Lib.hid (fun j (hj : j < ps.length) => (by have h := Al.out_at (n := n) hj; rw [hss, ← exn] at h; exact h : (Al.out ps n).getD j 0 = xn.getD j 0 + (Al.shr ps n).getD j 0))
            have HWb := Lib.hid (fun j (hj : j < ps.length) => (by have h := Al.want_bd (f := fun p => decide (p.1 < s)) ok.all hj; rw [exn]; exact h : 0 ≤ xn.getD j 0 ∧ xn.getD j 0 ≤ 9999))
            have HSb := Lib.hid (fun j (hj : j < ps.length) => (by have h := ok.shr_bd hj; have h2 := Al.want_bd (f := fun p => p.1 == s) ok.all hj; rw [hss] at h; exact ⟨h.1, Int.le_trans h.2 h2.2⟩ : 0 ≤ (Al.shr ps n).getD j 0 ∧ (Al.shr ps n).getD j 0 ≤ 9999))
            have HLs := Lib.hid (Al.shr_len ps n)
            have HZl := Lib.hid (show (Al.out ps n).length = xn.length by rw [Al.out_len, exn]; exact (Al.want_len _ _).symm)
            rw [elf]
            rw [← HN.out] at HOa HWb HSb HLs
            clear ok exn exw elf x1 x8 xa xok hss
            generalize Al.left ps n = lf at SP a0 a1
            generalize Al.shr ps n = sh at SP HOa HSb HLs
            generalize Al.out ps n = zo at E1 HOa HZl
            have hszw : w.heap.size ≤ wr.heap.size := HB.out.size
            have hbl4 := (World.ownsRow.lt HF.out.1 b1 rfl)
            go_wp2_with fail
            refine SP.out.mono ?_
            rintro e w6 ⟨v6, rfl, h6, hb6⟩
            have HF6 := Lib.hid (HF.out.irow.below hb6 (Nat.le_refl _))
            have HB6 := Lib.hid (HB.out.trans (hb6.mono hszw))
            obtain ⟨a6, c6, rfl⟩ := h6.irow.slice
            have hfar : ∀ j, (Value.slice a6 sh.length c6).ownBlock = some j → j ≠ b1 := fun j hj => by
              have := (World.ownsRow.lt h6.1 j hj).1
              omega
            have HFar := Lib.hid hfar
            have H6 := Lib.hid h6.irow
            clear h6 hb6 hfar
            rw [HLs.out]
            have HM0 := Lib.hid (show IRow w6 w.heap.size (.slice (some ⟨b1, 0, none⟩) i c1) (Al.mix zo xn 0) by rw [Al.mix_zero]; exact HF6.out)
            go_wp2_with fail
            go_loopw [12] (fun x wr => ∃ j : Nat, j ≤ i ∧ x = .int .i64 j ∧ Hid (IRow wr w.heap.size (.slice (some ⟨b1, 0, none⟩) i c1) (Al.mix zo xn j)) ∧ Hid (w6.grownBy wr (some b1))) (fun x _ => i - (intOf x).toNat)
            case atStart => exact ⟨0, Nat.zero_le _, rfl, HM0, Lib.hid ⟨rfl, rfl, rfl, Nat.le_refl _, fun _ _ _ => rfl⟩⟩
            case round =>
              obtain ⟨j, hj, rfl, HFj, HGj⟩ := hrel
              by_cases hlj : j < i
              · have HSr := Lib.hid ((H6.out.keptBy HGj.out HFar.out).r1)
                obtain ⟨b7, off7, c7, e7, -, hc7⟩ := HSr.out.2 (by rw [HLs.out]; omega)
                rw [HLs.out] at e7
                simp only [Value.slice.injEq, true_and] at e7
                obtain ⟨rfl, rfl⟩ := e7
                have c0 := hc7 j (by rw [HLs.out]; exact hlj)
                clear hc7
                have hlm := (Al.mix_len HZl.out (j := j) (by rw [HNl.out]; exact hj)).trans HNl.out
                have HLm := Lib.hid hlm
                clear hlm
                obtain ⟨b8, cap8, e8, -, -, -, hc8, hf8⟩ := HFj.out.form (by rw [HLm.out]; omega)
                simp only [Value.slice.injEq, Option.some.injEq, Addr.mk.injEq, and_true] at e8
                obtain ⟨rfl, -⟩ := e8
                have d0 := hc8 j (by rw [HLm.out]; exact hlj)
                have g0 := hf8 j
                clear hc8 hf8
                rw [Al.mix_at HZl.out (by rw [HNl.out]; exact hlj)] at d0
                have hoa := HOa.out j hlj
                obtain ⟨x0, x1⟩ := HWb.out j hlj
                obtain ⟨y0, y1⟩ := HSb.out j hlj
                have HSt := Lib.hid (Al.mix_set HZl.out (j := j) (by rw [HNl.out]; exact hlj))
                rw [hoa] at HSt
                have HSo := Lib.hid ((show IRow wr w.heap.size (.slice (some ⟨b1, 0, none⟩) (Al.mix zo xn j).length c1) (Al.mix zo xn j) by rw [HLm.out]; exact HFj.out).store j (xn.getD j 0 + sh.getD j 0))
                generalize xn.getD j 0 = x at d0 x0 x1 HSt HSo
                generalize sh.getD j 0 = y at c0 y0 y1 HSt HSo
                have hj1 : (j : Int) < i := by omega
                have hj0 : (0 : Int) ≤ j := by omega
                clear hoa
                go_wp2_with fail
                go_region
                go_wp2_with fail
                go_roundw
                case rel =>
                  refine ⟨j + 1, by omega, by go_num, ?_, Lib.hid (grownSN (grownS HGj.out HSo.out.2) 1)⟩
                  have h := HSo.out.1.drewN 1
                  rw [List.length_set, HLm.out, HSt.out] at h
                  exact Lib.hid h
                case measure => simp [intOf]; omega
              · obtain rfl : j = i := by omega
                have HBj := Lib.hid (HB6.out.grown HGj.out HB6.out.size (fun q hq => by injection hq with hq; omega))
                have HRes := Lib.hid (show IRow wr w.heap.size (.slice (some ⟨b1, 0, none⟩) j c1) zo from by
                  have h := HFj.out
                  have e := Al.mix_end HZl.out
                  rw [HNl.out] at e
                  rw [e] at h
                  exact h)
                go_wp2_with fail
                go_ret
                exact ⟨_, rfl, by rw [E.out, E1.out]; exact HRes.out, HBj.out⟩
end Go.Proofs.Ytgiejiiiokdbpaa
