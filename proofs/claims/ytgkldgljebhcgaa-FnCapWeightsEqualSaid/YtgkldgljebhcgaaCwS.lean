/- Weights with a cap: the model's division. -/
import Derived.Test.YtgkldgljebhcgaaCwR
import Derived.Test.YtgkldgljebhcgaaPrC
import Derived.Deep.AppendLies
import Derived.Deep.RegionHeldLaw
namespace Go.Proofs.Ytgkldgljebhcgaa
open Go.RowKit
set_option maxHeartbeats 400000 in
theorem stoIntC (b : Bool) (w : World) : Calls Try.prog 38 #[.bool b] w fun e w'' => e = .returned (.int .i64 (if b = true then 1 else 0)) ∧ w'' = w := by
  cases b
  · go_enter Try.func38, Try.ntmps38
    go_wp2_with fail
    go_ret
    exact ⟨rfl, rfl⟩
  · go_enter Try.func38, Try.ntmps38
    go_wp2_with fail
    go_ret
    exact ⟨rfl, rfl⟩
/-- The model's two rows: the weights and which have become the cap. -/
structure Ct (W : World) (B bw bm cw cm : Nat) (ws : List Int) (cs : List Bool) : Prop where
  w : IRow W B (.slice (some ⟨bw, 0, none⟩) ws.length cw) ws
  m : BRow W B (.slice (some ⟨bm, 0, none⟩) cs.length cm) cs
  n1 : bw ≠ bm
  len : ws.length = cs.length
section
variable {W : World} {B bw bm cw cm : Nat} {ws : List Int} {cs : List Bool} (h : Ct W B bw bm cw cm ws cs)
include h
theorem Ct.below {W' : World} {C : Nat} (hb : Below C W W') (hC : W.heap.size ≤ C) : Ct W' B bw bm cw cm ws cs :=
  ⟨h.w.below hb hC, h.m.below hb hC, h.n1, h.len⟩
theorem Ct.bds : (B ≤ bw ∧ bw < W.heap.size) ∧ (B ≤ bm ∧ bm < W.heap.size) := ⟨World.ownsRow.lt h.w bw rfl, World.ownsRow.lt h.m bm rfl⟩
theorem Ct.wAt (h0 : 0 < ws.length) : (∀ i, i < ws.length → W.cell? ⟨bw, i, none⟩ = some (.int .i64 (ws.getD i 0))) ∧ (∀ i, W.frozen? ⟨bw, i, none⟩ = false) := by
  obtain ⟨b, cap, e, -, -, -, h1, h2⟩ := h.w.form h0
  simp only [Value.slice.injEq, Option.some.injEq, Addr.mk.injEq, and_true, true_and] at e
  obtain ⟨rfl, -⟩ := e
  exact ⟨h1, h2⟩
theorem Ct.mAt : (∀ i, i < ws.length → W.cell? ⟨bm, i, none⟩ = some (.bool (cs.getD i false))) ∧ (∀ i, W.frozen? ⟨bm, i, none⟩ = false) := by
  obtain ⟨-, -, h1, h2⟩ := h.m.form
  exact ⟨fun i hi => h1 i (by rw [← h.len]; exact hi), h2⟩
theorem Ct.setW (i : Nat) (x : Int) : Ct (W.setCell ⟨bw, i, none⟩ (.int .i64 x)) B bw bm cw cm (ws.set i x) cs := by
  have hs := h.w.store i x
  refine ⟨hs.1, h.m.keptBy hs.2 (fun j hj => ?_), h.n1, by rw [List.length_set]; exact h.len⟩
  have hj2 : some bm = some j := hj
  injection hj2 with hj2
  exact fun e => h.n1 (by rw [hj2, e])
theorem Ct.setM (i : Nat) (x : Bool) : Ct (W.setCell ⟨bm, i, none⟩ (.bool x)) B bw bm cw cm ws (cs.set i x) := by
  have hs := h.m.store i x
  refine ⟨h.w.keptBy hs.2 (fun j hj => ?_), hs.1, h.n1, by rw [List.length_set]; exact h.len⟩
  have hj2 : some bw = some j := hj
  injection hj2 with hj2
  exact fun e => h.n1 (by rw [hj2, e])
theorem Ct.drew : Ct W.drew B bw bm cw cm ws cs := ⟨h.w, h.m, h.n1, h.len⟩
end
theorem Cw.sum_take {xs : List Int} (hx : ∀ i, i < xs.length → 0 ≤ xs.getD i 0 ∧ xs.getD i 0 ≤ 1000) : ∀ i : Nat, i ≤ xs.length → 0 ≤ (xs.take i).sum ∧ (xs.take i).sum ≤ 1000 * (i : Int)
  | 0, _ => by simp
  | i + 1, hi => by
    have h := Cw.sum_take hx i (by omega)
    have h1 := hx i (by omega)
    rw [take_snoc1 (by omega), List.sum_append]
    simp only [List.sum_cons, List.sum_nil]
    omega
set_option maxRecDepth 8000 in
set_option maxHeartbeats 8000000 in
theorem spread_any (w : World) (B bw bm cw cm : Nat) (ws : List Int) (cs : List Bool) (A : Int) (hC : Ct w B bw bm cw cm ws cs) (n1 : 1 ≤ ws.length) (n8 : ws.length ≤ 8) (hx : ∀ i, i < ws.length → 0 ≤ ws.getD i 0 ∧ ws.getD i 0 ≤ 1000) (a0 : 0 ≤ A) (a1 : A ≤ 1000) (hF : (Cw.free ws cs).all holdB = true) (hp : 0 < (Cw.free ws cs).sum) :
    Calls Try.prog 30 #[.slice (some ⟨bw, 0, none⟩) ws.length cw, .slice (some ⟨bm, 0, none⟩) ws.length cm, .int .i64 A] w fun e w' => e = .returned (.tuple #[]) ∧ Ct w' B bw bm cw cm (List.zipWith (· + ·) ws (Pr.out A (Cw.free ws cs))) cs ∧ Below B w w' := by
  obtain ⟨⟨gw, lw⟩, gm, lm⟩ := hC.bds
  have hlen := hC.len
  have hFl := Cw.fw_len hlen
  have HX := Lib.hid hx
  have HFl := Lib.hid hFl
  have HOl := Lib.hid ((Cw.ones_len cs).trans hlen.symm)
  have HFa := Lib.hid (fun i (hi : i < ws.length) => Cw.fw_at hlen hi)
  have HOa := Lib.hid (fun i (hi : i < ws.length) => Cw.ones_at (cs := cs) (i := i) (by omega))
  have HD := Lib.hid (show Cw.free ws cs = if (Cw.fw ws cs).sum = 0 then Cw.ones cs else Cw.fw ws cs from rfl)
  have hfb : ∀ i, i < (Cw.fw ws cs).length → 0 ≤ (Cw.fw ws cs).getD i 0 ∧ (Cw.fw ws cs).getD i 0 ≤ 1000 := fun i hi => by
    rw [HFl.out] at hi
    have := hx i hi
    rw [HFa.out i hi]
    split <;> omega
  have HSb := Lib.hid (fun i (hi : i ≤ ws.length) => Cw.sum_take hfb i (by rw [HFl.out]; exact hi))
  have HFk := Lib.hid (fun i (hi : i < ws.length) => take_snoc1 (xs := Cw.fw ws cs) (k := i) (by rw [HFl.out]; exact hi))
  have HFb := Lib.hid hfb
  have HT := Lib.hid (fun W b => stoIntC b W)
  have HCw := Lib.hid (hC.wAt (by omega)).1
  have HCm := Lib.hid hC.mAt.1
  have HC := Lib.hid hC
  have hbA := (Below.refl w.heap.size w).alloc (Nat.le_refl _) (.cells #[] 3)
  have HBA := Lib.hid hbA
  have HO := Lib.hid (own_new w)
  have HFh := Lib.hid hF
  have HFp := Lib.hid hp
  clear hC hx hlen hFl hfb hbA hF hp
  generalize Cw.fw ws cs = FW at *
  generalize Cw.ones cs = ON at *
  generalize Cw.free ws cs = F at *
  obtain ⟨n, hnn⟩ : ∃ n, n = ws.length := ⟨_, rfl⟩
  rw [← hnn] at n1 n8 HX HFl HOl HFa HOa HSb HFk HCw HCm ⊢
  have HN := Lib.hid hnn; clear hnn
  go_enter Try.func30, Try.ntmps30
  go_wp2_with fail
  go_loopw [6, 7, 8] (fun s t x wr => ∃ k : Nat, k ≤ n ∧ x = .int .i64 k ∧ t = .int .i64 (FW.take k).sum ∧ Hid (Own wr w.heap.size s (FW.take k)) ∧ Hid (Below w.heap.size w wr)) (fun _ _ x _ => n - (intOf x).toNat)
  case atStart => exact ⟨0, Nat.zero_le _, rfl, rfl, HO, HBA⟩
  case round =>
    obtain ⟨k, hk, rfl, rfl, HP, HB⟩ := hrel
    by_cases hlt : k < n
    · obtain ⟨b6, c6, rfl, hb6, hbl6, -, -⟩ := HP.out.form
      have hlk : (FW.take k).length = k := by rw [List.length_take, HFl.out]; omega
      rw [hlk]
      have c1 := HCw.out k hlt
      have c2 := HCm.out k hlt
      have hfa := HFa.out k hlt
      have hx := HX.out k hlt
      obtain ⟨x0, x1⟩ := hx
      obtain ⟨s0, s1⟩ := HSb.out k hk
      have HFs := Lib.hid (HFk.out k hlt)
      have hk1 : (k : Int) < n := by omega
      have hk0 : (0 : Int) ≤ k := by omega
      have hkb : (k : Int) ≤ 8 := by omega
      have HLk := Lib.hid hlk
      clear hlk
      generalize ws.getD k 0 = x at c1 hfa x0 x1
      generalize cs.getD k false = c at c2 hfa
      have HCx := Lib.hid c1
      have HCc := Lib.hid c2
      clear c1 c2
      cases c with
      | true =>
        rw [if_pos rfl] at hfa
        rw [hfa] at HFs
        clear hfa
        have hsum : (FW.take (k + 1)).sum = (FW.take k).sum + 0 := by rw [HFs.out, List.sum_append]; simp
        have HSum := Lib.hid hsum
        clear hsum
        generalize (FW.take k).sum = S at s0 s1 HSum ⊢
        have HTI := Lib.hid (fun W => HT.out W false)
        simp only [Bool.false_eq_true, if_false] at HTI
        skip
        have hsz := HB.out.size
        have HKw := Lib.hid (fun W (hW : Below w.heap.size w W) => (show W.cell? ⟨bw, k, none⟩ = some (.int .i64 x) ∧ W.cell? ⟨bm, k, none⟩ = some (.bool true) from ⟨(hW.cell (p := ⟨bw, k, none⟩) lw).trans HCx.out, (hW.cell (p := ⟨bm, k, none⟩) lm).trans HCc.out⟩))
        have HBA := Lib.hid ((HB.out.alloc hsz (.cells #[.int .i64 (0)] 3)).drew)
        have K1 := HKw.out wr.drew HB.out.drew
        have K2 := HKw.out (wr.drew.alloc (.cells #[.int .i64 (0)] 3)) HBA.out
        have K3 : (wr.alloc (.cells #[.int .i64 (0)] 3)).drew.cell? ⟨bw, k, none⟩ = some (.int .i64 x) ∧ (wr.alloc (.cells #[.int .i64 (0)] 3)).drew.cell? ⟨bm, k, none⟩ = some (.bool true) := K2
        obtain ⟨i0, hii, hz0, hz1, hz2⟩ := info_parts infoInt
        have W0 : IntKind.i64.wrap 0 = 0 := by decide
        have HAd := Lib.hid (show World.ownsRow (wr.alloc (.cells #[.int .i64 (0)] 3)).drew w.heap.size 3 1 (.slice (some ⟨b6, 0, none⟩) k c6) (FW.take k).length ((FW.take k).map (Value.int .i64)) by
          have h := (HP.out.alloc (.cells #[.int .i64 (0)] 3)).1
          rw [HLk.out] at h ⊢
          exact h)
        have HAc := Lib.hid (show (wr.alloc (.cells #[.int .i64 (0)] 3)).drew.cell? ⟨wr.heap.size, 0, none⟩ = some (.int .i64 (0)) from Cw.blk1 (Blk.new wr #[.int .i64 (0)] 3))
        have HK6 := Lib.hid (fun (W6 : World) (hg : (wr.alloc (.cells #[.int .i64 (0)] 3)).drew.grownBy W6 (some b6)) => HKw.out W6 (below_by HBA.out hg HBA.out.size (fun k hk => by injection hk with hk; omega)))
        have hlk' := HLk.out
        have hlb : (FW.take k).length ≤ 8 := by omega
        go_wp2_with fail
        first | (go_region_held_law (fun W => W.cell? ⟨bw, k, none⟩ = some (.int .i64 x) ∧ W.cell? ⟨bm, k, none⟩ = some (.bool true)) (first | with_reducible exact K1 | with_reducible exact K2 | with_reducible exact K3 | with_reducible exact K6 | fail "nokeep") (first | (refine step_append_lies _ rfl _ _ 23 rfl w.heap.size 3 i0 (.int .i64 0) 1 8 Try.underlying23 hii hz0 hz1 hz2 rfl (by decide) (.slice (some ⟨b6, 0, none⟩) k c6) (FW.take k).length ((FW.take k).map (Value.int .i64)) rfl HAd.out ⟨wr.heap.size, 0, none⟩ 1 1 [.int .i64 (0)] rfl rfl (fun j u hu => by cases j with | zero => (simp at hu; subst hu; exact HAc.out) | succ j => simp at hu) (ints_oneCell .i64 [0]) (by decide) (by unfold maxLen; omega) (by omega) HBA.out.size _ rfl ?_; intro g6 c6' w6 hown6 hg6 hat6 hlt6; have K6 := HK6.out w6 hg6) | (go_at_call 38; refine (HTI.out _).mono ?_; rintro e w' ⟨rfl, rfl⟩))) | fail "WALK"
        have hg6' : (wr.alloc (.cells #[.int .i64 (0)] 3)).drew.grownBy w6 (some b6) := hg6
        have HO6 : Hid (Own w6 w.heap.size (.slice (some ⟨g6, 0, none⟩) (k + 1) c6') (FW.take (k + 1))) := Lib.hid ⟨by
          have h := hown6
          rw [HLk.out] at h
          have e : (FW.take k ++ [0]).length = k + 1 := by rw [List.length_append, HLk.out]; rfl
          rw [HFs.out, e, List.map_append]
          exact h, by simp⟩
        have HB6 := Lib.hid (below_by HBA.out hg6' HBA.out.size (fun k hk => by injection hk with hk; omega))
        obtain ⟨b7, c7, e7, -, -, hc7, -⟩ := HO6.out.form
        simp only [Value.slice.injEq, Option.some.injEq, Addr.mk.injEq, and_true] at e7
        obtain ⟨rfl, -, -⟩ := e7
        have d0 := hc7 k (by rw [HFs.out, List.length_append, HLk.out]; simp)
        rw [HFs.out, List.getD_eq_getElem?_getD, List.getElem?_append_right (by rw [HLk.out]; exact Nat.le_refl _), HLk.out, Nat.sub_self] at d0
        simp only [List.getElem?_cons_zero, Option.getD_some] at d0
        clear hown6 hg6 hg6' hat6 K1 K2 K3 K6 hc7 W0 hlb hlk'
        go_wp2_with fail
        go_roundw
        case rel => exact ⟨k + 1, by omega, by go_num, by rw [HSum.out, Int.add_zero], HO6, HB6⟩
        case measure => simp [intOf]; omega
      | false =>
        rw [if_neg (by simp)] at hfa
        rw [hfa] at HFs
        clear hfa
        have hsum : (FW.take (k + 1)).sum = (FW.take k).sum + x := by rw [HFs.out, List.sum_append]; simp
        have HSum := Lib.hid hsum
        clear hsum
        generalize (FW.take k).sum = S at s0 s1 HSum ⊢
        have HTI := Lib.hid (fun W => HT.out W true)
        simp only [if_true] at HTI
        have HV := Lib.hid (show IntKind.i64.wrap x = x from IntWalk.i64_in _ (by omega))
        have hsz := HB.out.size
        have HKw := Lib.hid (fun W (hW : Below w.heap.size w W) => (show W.cell? ⟨bw, k, none⟩ = some (.int .i64 x) ∧ W.cell? ⟨bm, k, none⟩ = some (.bool false) from ⟨(hW.cell (p := ⟨bw, k, none⟩) lw).trans HCx.out, (hW.cell (p := ⟨bm, k, none⟩) lm).trans HCc.out⟩))
        have HBA := Lib.hid ((HB.out.alloc hsz (.cells #[.int .i64 (IntKind.i64.wrap x)] 3)).drew)
        have K1 := HKw.out wr.drew HB.out.drew
        have K2 := HKw.out (wr.drew.alloc (.cells #[.int .i64 (IntKind.i64.wrap x)] 3)) HBA.out
        have K3 : (wr.alloc (.cells #[.int .i64 (IntKind.i64.wrap x)] 3)).drew.cell? ⟨bw, k, none⟩ = some (.int .i64 x) ∧ (wr.alloc (.cells #[.int .i64 (IntKind.i64.wrap x)] 3)).drew.cell? ⟨bm, k, none⟩ = some (.bool false) := K2
        obtain ⟨i0, hii, hz0, hz1, hz2⟩ := info_parts infoInt
        have W0 : IntKind.i64.wrap 0 = 0 := by decide
        have HAd := Lib.hid (show World.ownsRow (wr.alloc (.cells #[.int .i64 (IntKind.i64.wrap x)] 3)).drew w.heap.size 3 1 (.slice (some ⟨b6, 0, none⟩) k c6) (FW.take k).length ((FW.take k).map (Value.int .i64)) by
          have h := (HP.out.alloc (.cells #[.int .i64 (IntKind.i64.wrap x)] 3)).1
          rw [HLk.out] at h ⊢
          exact h)
        have HAc := Lib.hid (show (wr.alloc (.cells #[.int .i64 (IntKind.i64.wrap x)] 3)).drew.cell? ⟨wr.heap.size, 0, none⟩ = some (.int .i64 (IntKind.i64.wrap x)) from Cw.blk1 (Blk.new wr #[.int .i64 (IntKind.i64.wrap x)] 3))
        have HK6 := Lib.hid (fun (W6 : World) (hg : (wr.alloc (.cells #[.int .i64 (IntKind.i64.wrap x)] 3)).drew.grownBy W6 (some b6)) => HKw.out W6 (below_by HBA.out hg HBA.out.size (fun k hk => by injection hk with hk; omega)))
        have hlk' := HLk.out
        have hlb : (FW.take k).length ≤ 8 := by omega
        go_wp2_with fail
        first | (go_region_held_law (fun W => W.cell? ⟨bw, k, none⟩ = some (.int .i64 x) ∧ W.cell? ⟨bm, k, none⟩ = some (.bool false)) (first | with_reducible exact K1 | with_reducible exact K2 | with_reducible exact K3 | with_reducible exact K6 | fail "nokeep") (first | (refine step_append_lies _ rfl _ _ 23 rfl w.heap.size 3 i0 (.int .i64 0) 1 8 Try.underlying23 hii hz0 hz1 hz2 rfl (by decide) (.slice (some ⟨b6, 0, none⟩) k c6) (FW.take k).length ((FW.take k).map (Value.int .i64)) rfl HAd.out ⟨wr.heap.size, 0, none⟩ 1 1 [.int .i64 (IntKind.i64.wrap x)] rfl rfl (fun j u hu => by cases j with | zero => (simp at hu; subst hu; exact HAc.out) | succ j => simp at hu) (ints_oneCell .i64 [IntKind.i64.wrap x]) (by decide) (by unfold maxLen; omega) (by omega) HBA.out.size _ rfl ?_; intro g6 c6' w6 hown6 hg6 hat6 hlt6; have K6 := HK6.out w6 hg6) | (go_at_call 38; refine (HTI.out _).mono ?_; rintro e w' ⟨rfl, rfl⟩))) | fail "WALK"
        have hg6' : (wr.alloc (.cells #[.int .i64 (IntKind.i64.wrap x)] 3)).drew.grownBy w6 (some b6) := hg6
        have HO6 : Hid (Own w6 w.heap.size (.slice (some ⟨g6, 0, none⟩) (k + 1) c6') (FW.take (k + 1))) := Lib.hid ⟨by
          have h := hown6
          rw [HV.out, HLk.out] at h
          have e : (FW.take k ++ [x]).length = k + 1 := by rw [List.length_append, HLk.out]; rfl
          rw [HFs.out, e, List.map_append]
          exact h, by simp⟩
        have HB6 := Lib.hid (below_by HBA.out hg6' HBA.out.size (fun k hk => by injection hk with hk; omega))
        obtain ⟨b7, c7, e7, -, -, hc7, -⟩ := HO6.out.form
        simp only [Value.slice.injEq, Option.some.injEq, Addr.mk.injEq, and_true] at e7
        obtain ⟨rfl, -, -⟩ := e7
        have d0 := hc7 k (by rw [HFs.out, List.length_append, HLk.out]; simp)
        rw [HFs.out, List.getD_eq_getElem?_getD, List.getElem?_append_right (by rw [HLk.out]; exact Nat.le_refl _), HLk.out, Nat.sub_self] at d0
        simp only [List.getElem?_cons_zero, Option.getD_some] at d0
        clear hown6 hg6 hg6' hat6 K1 K2 K3 K6 hc7 W0 hlb hlk'
        go_wp2_with fail
        go_roundw
        case rel => exact ⟨k + 1, by omega, by go_num, by rw [HSum.out], HO6, HB6⟩
        case measure => simp [intOf]; omega
    · obtain rfl : k = n := by omega
      have e0 : FW.take k = FW := List.take_of_length_le (by rw [HFl.out]; exact Nat.le_refl _)
      rw [e0] at HP ⊢
      clear e0 hlt
      obtain ⟨b6, c6, rfl, gb6, hbl6, -, -⟩ := HP.out.form
      have e1 := HFl.out
      rw [e1] at HP ⊢
      clear e1
      have hFe : ∀ wx, Own wx w.heap.size (.slice (some ⟨b6, 0, none⟩) k c6) (if FW.sum = 0 then Cw.mix ON FW k else FW) → Own wx w.heap.size (.slice (some ⟨b6, 0, none⟩) k c6) F := fun wx h => by
        rw [HD.out]
        by_cases hz : FW.sum = 0
        · rw [if_pos hz] at h ⊢
          have e := Cw.mix_end (HOl.out.trans HFl.out.symm)
          rw [HFl.out] at e
          rwa [e] at h
        · rw [if_neg hz] at h ⊢; exact h
      have HFe := Lib.hid hFe
      clear hFe
      have HLF := Lib.hid (show F.length = k by
        rw [HD.out]
        by_cases hz : FW.sum = 0
        · rw [if_pos hz]; exact HOl.out
        · rw [if_neg hz]; exact HFl.out)
      have ok : Pr.Ok A F := ⟨a0, fun x hx => (Ho.mem HFh.out x hx).1, HFp.out⟩
      have HOut := Lib.hid (show (Pr.out A F).length = k from (Pr.out_len A F).trans HLF.out)
      have HOb := Lib.hid (fun i (hi : i < k) => And.intro (Pr.out_nn ok (i := i) (by rw [HLF.out]; exact hi)) (Pr.out_le ok (i := i) (by rw [HLF.out]; exact hi)))
      have HTl := Lib.hid (show (List.zipWith (· + ·) ws (Pr.out A F)).length = ws.length by rw [List.length_zipWith, HOut.out, ← HN.out]; omega)
      have HTa := Lib.hid (fun i (hi : i < k) => Cw.zip_at (a := ws) (b := Pr.out A F) (i := i) (by rw [← HN.out]; exact hi) (by rw [HOut.out]; exact hi))
      have hBw : B ≤ w.heap.size := by omega
      clear ok HD
      generalize FW.sum = S at *
      go_wp2_with fail
      go_loopw [9] (fun x wr2 => ∃ j : Nat, j ≤ k ∧ x = .int .i64 j ∧ Hid (Own wr2 w.heap.size (.slice (some ⟨b6, 0, none⟩) k c6) (if S = 0 then Cw.mix ON FW j else FW)) ∧ Hid (Below w.heap.size w wr2)) (fun x _ => k - (intOf x).toNat)
      case atStart => exact ⟨0, Nat.zero_le _, rfl, Lib.hid (by rw [Cw.mix_zero, ite_self]; exact HP.out), HB⟩
      case round =>
        obtain ⟨j, hj, rfl, HR, HBj⟩ := hrel
        generalize wr = wr2 at *
        by_cases hc : S = 0 ∧ j < k
        · obtain ⟨rfl, hjk⟩ := hc
          rw [if_pos rfl] at HR
          have hml := Cw.mix_len (HOl.out.trans HFl.out.symm) (j := j) (by rw [HFl.out]; exact hj)
          rw [HFl.out] at hml
          obtain ⟨b9, c9, e9, -, -, hc9, hf9⟩ := HR.out.form
          simp only [Value.slice.injEq, Option.some.injEq, Addr.mk.injEq, and_true] at e9
          obtain ⟨rfl, -, -⟩ := e9
          have d0 := hc9 j (by rw [hml]; exact hjk)
          have g0 := hf9 j
          have c2 := (HBj.out.cell (p := ⟨bm, j, none⟩) lm).trans (HCm.out j hjk)
          have hoa := HOa.out j hjk
          have HST := Lib.hid (fun v (hv : ON.getD j 0 = v) => (show Own (wr2.setCell ⟨b6, j, none⟩ (.int .i64 v)) w.heap.size (.slice (some ⟨b6, 0, none⟩) k c6) (Cw.mix ON FW (j + 1)) from ⟨by
            have h := (show IRow wr2 w.heap.size (.slice (some ⟨b6, 0, none⟩) (Cw.mix ON FW j).length c6) (Cw.mix ON FW j) by rw [hml]; exact HR.out.1).store j v
            rw [List.length_set, hml, Cw.mix_put (HOl.out.trans HFl.out.symm) (by rw [HFl.out]; exact hjk) hv] at h
            exact h.1, by simp⟩))
          have HB2 := Lib.hid (fun v => HBj.out.setCell (p := ⟨b6, j, none⟩) gb6 (.int .i64 v))
          generalize (Cw.mix ON FW j).getD j 0 = y at d0
          generalize cs.getD j false = c at c2 hoa
          clear hml hc9 hf9
          have hj1 : (j : Int) < k := by omega
          have hj0 : (0 : Int) ≤ j := by omega
          cases c with
          | true =>
            rw [if_pos rfl] at hoa
            have HST2 := Lib.hid (HST.out 0 hoa)
            have HB3 := Lib.hid (HB2.out 0)
            clear hoa
            have HTI := Lib.hid (fun W => HT.out W false)
            simp only [Bool.false_eq_true, if_false] at HTI
            go_wp2_with fail
            refine (HTI.out _).mono ?_
            rintro e w' ⟨rfl, rfl⟩
            go_wp2_with fail
            go_roundw
            case rel => exact ⟨j + 1, by omega, by go_num, HST2, HB3⟩
            case measure => simp [intOf]; omega
          | false =>
            rw [if_neg (by simp)] at hoa
            have HST2 := Lib.hid (HST.out 1 hoa)
            have HB3 := Lib.hid (HB2.out 1)
            clear hoa
            have HTI := Lib.hid (fun W => HT.out W true)
            simp only [if_true] at HTI
            go_wp2_with fail
            refine (HTI.out _).mono ?_
            rintro e w' ⟨rfl, rfl⟩
            go_wp2_with fail
            go_roundw
            case rel => exact ⟨j + 1, by omega, by go_num, HST2, HB3⟩
            case measure => simp [intOf]; omega
        · have HF2 := Lib.hid (show Own wr2 w.heap.size (.slice (some ⟨b6, 0, none⟩) k c6) F from HFe.out wr2 (by
            have h := HR.out
            by_cases hz : S = 0
            · obtain rfl : j = k := by have : ¬ j < k := fun q => hc ⟨hz, q⟩; omega
              exact h
            · rw [if_neg hz] at h ⊢; exact h))
          have SP := Lib.hid (sprorate_any wr2 A _ F HF2.out.irow.r1 a0 (by omega) HFh.out (by rw [HLF.out]; exact n8) HFp.out)
          have hway : (j < k ∧ (S == 0) = false) ∨ j = k := by
            by_cases hjk : j < k
            · exact .inl ⟨hjk, by simpa using fun hz => hc ⟨hz, hjk⟩⟩
            · exact .inr (by omega)
          clear hc
          rcases hway with ⟨hjk, hS0⟩ | hjk
          · have hj1 : (j : Int) < k := by omega
            go_wp2_with fail
            refine SP.out.mono ?_
            rintro e w5 ⟨v5, rfl, ho5, hb5⟩
            have HCt := Lib.hid ((HC.out.below HBj.out (Nat.le_refl _)).below hb5 (Nat.le_refl _))
            have HB5 := Lib.hid ((HBj.out.trans (hb5.mono HBj.out.size)).mono hBw)
            have hszj := HBj.out.size
            obtain ⟨bo, co, rfl, gbo, -, -, -⟩ := ho5.form
            have eo := HOut.out
            rw [eo] at ho5 ⊢
            clear eo
            have HO5 := Lib.hid ho5
            have hno : bo ≠ bw := by omega
            clear SP ho5 hb5 HBj HR HF2
            go_wp2_with fail
            go_loopw [11] (fun x wx => ∃ i : Nat, i ≤ k ∧ x = .int .i64 i ∧ Hid (Ct wx B bw bm cw cm (Cw.mix (List.zipWith (· + ·) ws (Pr.out A F)) ws i) cs) ∧ Hid (Own wx wr2.heap.size (.slice (some ⟨bo, 0, none⟩) k co) (Pr.out A F)) ∧ Hid (Below B w wx)) (fun x _ => k - (intOf x).toNat)
            case atStart => exact ⟨0, Nat.zero_le _, rfl, by rw [Cw.mix_zero]; exact HCt, HO5, HB5⟩
            case round =>
              obtain ⟨i, hi, rfl, HK, HV, HBi⟩ := hrel
              have hml := Cw.mix_len HTl.out (j := i) (by rw [← HN.out]; exact hi)
              rw [← HN.out] at hml
              by_cases hlt : i < k
              · have c1 := (HK.out.wAt (by rw [hml]; omega)).1 i (by rw [hml]; exact hlt)
                have g1 := (HK.out.wAt (by rw [hml]; omega)).2 i
                rw [Cw.mix_at HTl.out (by rw [← HN.out]; exact hlt)] at c1
                obtain ⟨b8, c8, e8, -, -, hc8, -⟩ := HV.out.form
                simp only [Value.slice.injEq, Option.some.injEq, Addr.mk.injEq, and_true] at e8
                obtain ⟨rfl, -, -⟩ := e8
                have c2 := hc8 i (by rw [HOut.out]; exact hlt)
                clear hc8 hml
                have hta := HTa.out i hlt
                obtain ⟨x0, x1⟩ := HX.out i hlt
                obtain ⟨o0, o1⟩ := HOb.out i hlt
                have HS2 := Lib.hid (HK.out.setW i (ws.getD i 0 + (Pr.out A F).getD i 0)).drew
                rw [Cw.mix_put HTl.out (by rw [← HN.out]; exact hlt) hta] at HS2
                have HV2 := Lib.hid (show Own ((wr.setCell ⟨bw, i, none⟩ (.int .i64 (ws.getD i 0 + (Pr.out A F).getD i 0))).drew) wr2.heap.size (.slice (some ⟨bo, 0, none⟩) k co) (Pr.out A F) from (HV.out.keptBy (w' := wr.setCell ⟨bw, i, none⟩ (.int .i64 (ws.getD i 0 + (Pr.out A F).getD i 0))) (r := some bw) (HK.out.w.store i (ws.getD i 0 + (Pr.out A F).getD i 0)).2 (fun p q hp hq => by have hp2 : some bo = some p := hp; injection hp2; injection hq; omega)))
                have HB2 := Lib.hid (HBi.out.setCell (p := ⟨bw, i, none⟩) gw (.int .i64 (ws.getD i 0 + (Pr.out A F).getD i 0))).drew
                generalize ws.getD i 0 = x at c1 x0 x1 HS2 HV2 HB2
                generalize (Pr.out A F).getD i 0 = o at c2 o0 o1 HS2 HV2 HB2
                clear hta
                have hk1 : (i : Int) < k := by omega
                have hk0 : (0 : Int) ≤ i := by omega
                go_wp2_with fail
                go_region
                go_wp2_with fail
                go_roundw
                case rel => exact ⟨i + 1, by omega, by go_num, HS2, HV2, HB2⟩
                case measure => simp [intOf]; omega
              · obtain rfl : i = k := by omega
                have HK5 := Lib.hid (show Ct wr B bw bm cw cm (List.zipWith (· + ·) ws (Pr.out A F)) cs by
                  have h := HK.out
                  rw [HN.out, Cw.mix_end HTl.out] at h
                  exact h)
                go_wp2_with fail
                go_end0
                exact ⟨rfl, HK5.out, HBi.out⟩
          · have hj1 : ¬ (j : Int) < k := by omega
            go_wp2_with fail
            refine SP.out.mono ?_
            rintro e w5 ⟨v5, rfl, ho5, hb5⟩
            have HCt := Lib.hid ((HC.out.below HBj.out (Nat.le_refl _)).below hb5 (Nat.le_refl _))
            have HB5 := Lib.hid ((HBj.out.trans (hb5.mono HBj.out.size)).mono hBw)
            have hszj := HBj.out.size
            obtain ⟨bo, co, rfl, gbo, -, -, -⟩ := ho5.form
            have eo := HOut.out
            rw [eo] at ho5 ⊢
            clear eo
            have HO5 := Lib.hid ho5
            have hno : bo ≠ bw := by omega
            clear SP ho5 hb5 HBj HR HF2
            go_wp2_with fail
            go_loopw [11] (fun x wx => ∃ i : Nat, i ≤ k ∧ x = .int .i64 i ∧ Hid (Ct wx B bw bm cw cm (Cw.mix (List.zipWith (· + ·) ws (Pr.out A F)) ws i) cs) ∧ Hid (Own wx wr2.heap.size (.slice (some ⟨bo, 0, none⟩) k co) (Pr.out A F)) ∧ Hid (Below B w wx)) (fun x _ => k - (intOf x).toNat)
            case atStart => exact ⟨0, Nat.zero_le _, rfl, by rw [Cw.mix_zero]; exact HCt, HO5, HB5⟩
            case round =>
              obtain ⟨i, hi, rfl, HK, HV, HBi⟩ := hrel
              have hml := Cw.mix_len HTl.out (j := i) (by rw [← HN.out]; exact hi)
              rw [← HN.out] at hml
              by_cases hlt : i < k
              · have c1 := (HK.out.wAt (by rw [hml]; omega)).1 i (by rw [hml]; exact hlt)
                have g1 := (HK.out.wAt (by rw [hml]; omega)).2 i
                rw [Cw.mix_at HTl.out (by rw [← HN.out]; exact hlt)] at c1
                obtain ⟨b8, c8, e8, -, -, hc8, -⟩ := HV.out.form
                simp only [Value.slice.injEq, Option.some.injEq, Addr.mk.injEq, and_true] at e8
                obtain ⟨rfl, -, -⟩ := e8
                have c2 := hc8 i (by rw [HOut.out]; exact hlt)
                clear hc8 hml
                have hta := HTa.out i hlt
                obtain ⟨x0, x1⟩ := HX.out i hlt
                obtain ⟨o0, o1⟩ := HOb.out i hlt
                have HS2 := Lib.hid (HK.out.setW i (ws.getD i 0 + (Pr.out A F).getD i 0)).drew
                rw [Cw.mix_put HTl.out (by rw [← HN.out]; exact hlt) hta] at HS2
                have HV2 := Lib.hid (show Own ((wr.setCell ⟨bw, i, none⟩ (.int .i64 (ws.getD i 0 + (Pr.out A F).getD i 0))).drew) wr2.heap.size (.slice (some ⟨bo, 0, none⟩) k co) (Pr.out A F) from (HV.out.keptBy (w' := wr.setCell ⟨bw, i, none⟩ (.int .i64 (ws.getD i 0 + (Pr.out A F).getD i 0))) (r := some bw) (HK.out.w.store i (ws.getD i 0 + (Pr.out A F).getD i 0)).2 (fun p q hp hq => by have hp2 : some bo = some p := hp; injection hp2; injection hq; omega)))
                have HB2 := Lib.hid (HBi.out.setCell (p := ⟨bw, i, none⟩) gw (.int .i64 (ws.getD i 0 + (Pr.out A F).getD i 0))).drew
                generalize ws.getD i 0 = x at c1 x0 x1 HS2 HV2 HB2
                generalize (Pr.out A F).getD i 0 = o at c2 o0 o1 HS2 HV2 HB2
                clear hta
                have hk1 : (i : Int) < k := by omega
                have hk0 : (0 : Int) ≤ i := by omega
                go_wp2_with fail
                go_region
                go_wp2_with fail
                go_roundw
                case rel => exact ⟨i + 1, by omega, by go_num, HS2, HV2, HB2⟩
                case measure => simp [intOf]; omega
              · obtain rfl : i = k := by omega
                have HK5 := Lib.hid (show Ct wr B bw bm cw cm (List.zipWith (· + ·) ws (Pr.out A F)) cs by
                  have h := HK.out
                  rw [HN.out, Cw.mix_end HTl.out] at h
                  exact h)
                go_wp2_with fail
                go_end0
                exact ⟨rfl, HK5.out, HBi.out⟩
end Go.Proofs.Ytgkldgljebhcgaa
