import Derived.Test.YtkdooncfchmkfaaDoorZR
import Derived.Test.YtkdooncfchmkfaaDoorTq
import Derived.Test.YtkdooncfchmkfaaDoorDc
import Derived.Deep.DeepCutAuto
import Derived.Deep.RegionHeld3
/- Discounts: the program. -/
namespace Go.Proofs.YtkdooncfchmkfaaDoor
open Go.RowKit
theorem infoRg : (Tryd.prog.info? 25).map (fun i => (i.zero, i.size, i.bytes)) = some (some (.agg #[.int .i64 0, .int .i64 0]), 2, 16) := by kernel_rfl
theorem infoPartsRg : ∃ i : TypeInfo, Tryd.prog.info? 25 = some i ∧ i.zero = some (.agg #[.int .i64 0, .int .i64 0]) ∧ i.size = 2 ∧ i.bytes = 16 := by
  have h := infoRg
  cases e : Tryd.prog.info? 25 with
  | none => rw [e] at h; cases h
  | some i =>
    rw [e] at h
    simp only [Option.map_some, Option.some.injEq, Prod.mk.injEq] at h
    exact ⟨i, rfl, h.1, h.2.1, h.2.2⟩
theorem vYield_any (n : Int) (w : World) : Calls Tryd.prog 26 #[.int .i64 n] w fun e w' => e = .returned (.bool (btw n 0 100000)) ∧ w = w' := by
  go_enter Tryd.func26, Tryd.ntmps26
  go_wp2_with fail
  refine (between_any _ _ _ _).mono ?_
  rintro e w1 ⟨rfl, rfl⟩
  go_wp2_with fail
  go_ret
  exact ⟨rfl, rfl⟩
/-- The growth until the end of each period, up to the k-th one. -/
def Dc.Row (y p d : Int) (n k : Nat) (ys : List Pr) : Prop := ys.length = n + 1 ∧ ∀ i, i ≤ k → ys.getD i pr0 = (Dc.lo y p d i, Dc.hi y p d i)
theorem Dc.Row.set {y p d : Int} {n k : Nat} {ys : List Pr} (h : Dc.Row y p d n k ys) (hk : k < n) : Dc.Row y p d n (k + 1) (ys.set (k + 1) (Dc.lo y p d (k + 1), Dc.hi y p d (k + 1))) := by
  refine ⟨by rw [List.length_set]; exact h.1, fun i hi => ?_⟩
  rw [List.getD_eq_getElem?_getD, List.getElem?_set]
  by_cases e : k + 1 = i
  · subst e
    rw [if_pos rfl, if_pos (by rw [h.1]; omega)]; rfl
  · rw [if_neg e, ← List.getD_eq_getElem?_getD]
    exact h.2 i (by omega)
theorem Dc.Row.first (y p d : Int) (n : Nat) : Dc.Row y p d n 0 ((List.replicate (n + 1) pr0).set 0 (Dc.lo y p d 0, Dc.hi y p d 0)) := by
  refine ⟨by simp, fun i hi => ?_⟩
  obtain rfl : i = 0 := by omega
  simp [List.replicate_succ]
theorem TRow2.at2 {T : TypeId} {w : World} {B b n cap : Nat} {ps : List Pr} (h : TRow2 T w B (.slice (some ⟨b, 0, none⟩) n cap) ps) (hn : ps.length = n) (k : Nat) (hk : k < n) :
    (w.cell? ⟨b, k * 2, none⟩ = some (.int .i64 (ps.getD k pr0).1) ∧ w.cell? ⟨b, k * 2 + 1, none⟩ = some (.int .i64 (ps.getD k pr0).2)) ∧ w.frozen? ⟨b, k * 2, none⟩ = false ∧ w.frozen? ⟨b, k * 2 + 1, none⟩ = false := by
  subst hn
  obtain ⟨b', c', e, -, -, -, hc, hf⟩ := h.form (by omega)
  simp only [Value.slice.injEq, true_and, Option.some.injEq, Addr.mk.injEq, and_true] at e
  obtain ⟨rfl, -⟩ := e
  exact ⟨hc k hk, hf _, hf _⟩
theorem getD_set_ne {ys : List Pr} {n k : Nat} {l h : Int} {y : Pr} (_ : ys.length = n) (hg : ys.getD k pr0 = (l, h)) : (ys.set (k + 1) y).getD k pr0 = (l, h) := by
  rw [List.getD_eq_getElem?_getD, List.getElem?_set_ne (by omega), ← List.getD_eq_getElem?_getD]
  exact hg
set_option maxRecDepth 8000 in
set_option maxHeartbeats 4000000 in
theorem growthOf_any (a : Addr) (y p d : Int) (n : Nat) (w : World) (hS : Sen a w) (hok : Dc.ok y p d n = true) :
    Calls Tryd.prog 48 #[.int .i64 y, .int .i64 p, .int .i64 d, .int .i64 n] w fun e w' => ∃ b c ys, e = .returned (.slice (some ⟨b, 0, none⟩) (n + 1) c) ∧ TRow2 25 w' w.heap.size (.slice (some ⟨b, 0, none⟩) (n + 1) c) ys ∧ Dc.Row y p d n n ys ∧ Below w.heap.size w w' := by
  have HS := Lib.hid hS
  have HSz := Lib.hid hS.pos
  obtain ⟨⟨y0, y1⟩, ⟨d0, d1⟩, ⟨p0, p1⟩, -, n1⟩ := Dc.ok_iff.1 hok
  have HBd := Lib.hid (fun i (hi : i ≤ 40) => Dc.bd40 hok hi)
  have HM := Lib.hid (fun i (hi : i ≤ 40) => (Dc.mul_is (l := Dc.lo y p d i) (h := Dc.hi y p d i) (c := 1000000 + y) (by have := Dc.bd40 hok hi; omega) (Dc.bd40 hok hi).2.1 (Dc.bd40 hok hi).2.2 (by omega) (by omega)).1)
  obtain ⟨u0, u1⟩ := Dc.due_bd (d := d) y0 p0 p1
  have u2 : y * d ≤ 100000 * 4000 := Int.mul_le_mul y1 d1 (by omega) (by decide)
  have u3 : y * (d - p) ≤ 400000000 := by omega
  have W1 : IntKind.i64.wrap (y * (d - p)) = y * (d - p) := IntWalk.i64_in _ (by omega)
  obtain ⟨b0, -⟩ := HBd.out 0 (by omega)
  obtain ⟨-, b1, b2⟩ := HBd.out 0 (by omega)
  have e1 : Dc.lo y p d 0 = 1000000 + y * (d - p) / d := rfl
  have e2 : Dc.hi y p d 0 = 1000000 + -((-(y * (d - p))) / d) := rfl
  rw [e1] at b0 b1
  rw [e2] at b1 b2
  have W2 : IntKind.i64.wrap (1000000 + y * (d - p) / d) = 1000000 + y * (d - p) / d := IntWalk.i64_in _ (by omega)
  have W3 : IntKind.i64.wrap (1000000 + -((-(y * (d - p))) / d)) = 1000000 + -((-(y * (d - p))) / d) := IntWalk.i64_in _ (by omega)
  have HR0 := Lib.hid (Dc.Row.first y p d n)
  rw [e1, e2] at HR0
  have hn1 : (n : Int) + 1 ≤ 41 := by omega
  have HFl := Lib.hid (fun W => rFloored_any (y * (d - p)) d W (by omega) (by omega) d0 (by omega))
  have HCl := Lib.hid (fun W => rCeiled_any (y * (d - p)) d W (by omega) (by omega) d0 (by omega))
  clear hS hok e1 e2 u1 u2
  obtain ⟨i0, hi, hz0, hz1, hz2⟩ := infoPartsRg
  go_enter Tryd.func48, Tryd.ntmps48
  go_wp2_with (at_make; refine wpList_make_full _ rfl _ _ 70 rfl w.heap.size 25 i0 (.agg #[.int .i64 0, .int .i64 0]) 2 Tryd.underlying70 hi hz0 hz1 .i64 .i64 _ _ (n + 1) rfl rfl rfl rfl (by rw [hz2]; omega) (by unfold maxLen; omega) (by omega) ?_; intro w1 hown hgrow)
  rw [made_prs] at hown
  have HT0 := Lib.hid (show TRow2 25 w1 w.heap.size (.slice (some ⟨w.heap.size, 0, none⟩) (List.replicate (n + 1) pr0).length (n + 1)) (List.replicate (n + 1) pr0) by unfold TRow2; rw [List.length_replicate]; exact hown)
  have HB0 := Lib.hid ((Below.refl w.heap.size w).grown hgrow (Nat.le_refl _) (fun j hj => by cases hj))
  clear hown hgrow
  obtain ⟨bq, cq, eq, -, hbl, -, hc, hf⟩ := HT0.out.form (by rw [List.length_replicate]; omega)
  simp only [Value.slice.injEq, true_and, Option.some.injEq, Addr.mk.injEq, and_true] at eq
  obtain ⟨rfl, -⟩ := eq
  obtain ⟨k0, k1⟩ := hc 0 (by rw [List.length_replicate]; omega)
  have f0 := hf 0
  have f1 := hf 1
  simp only [Nat.zero_mul, Nat.zero_add] at k0 k1
  generalize (List.replicate (n + 1) pr0).getD 0 pr0 = z0 at k0 k1
  clear hc hf
  have HS0 := Lib.hid (HT0.out.store 0 (by rw [List.length_replicate]; omega) (1000000 + y * (d - p) / d) (1000000 + -((-(y * (d - p))) / d)))
  refine (HFl.out _).mono ?_
  rintro e w' ⟨rfl, rfl⟩
  go_wp2_with fail
  refine (HCl.out _).mono ?_
  rintro e w' ⟨rfl, rfl⟩
  go_wp2_with fail
  have HS1 := HS0.out
  simp only [Nat.zero_mul, Nat.zero_add] at HS1
  obtain ⟨hs1, hs2⟩ := HS1
  rw [List.length_set, List.length_replicate] at hs1
  have HT1 := Lib.hid hs1
  have HB1 := Lib.hid (HB0.out.grown hs2 HB0.out.size (fun j hj => by injection hj with hj; omega))
  have HSe := Lib.hid (fun W (hW : Below w.heap.size w W) => HS.out.below hW HSz.out)
  clear hs1 hs2 HS0 HB0 HT0 HFl HCl W1 W2 W3 b0 b1 b2 u0 u3 HS
  go_loopw [32] (fun x wr => ∃ (k : Nat) (ys : List Pr), k ≤ n ∧ x = .int .i64 k ∧ Hid (TRow2 25 wr w.heap.size (.slice (some ⟨w.heap.size, 0, none⟩) (n + 1) (n + 1)) ys) ∧ Hid (Dc.Row y p d n k ys) ∧ Hid (Below w.heap.size w wr)) (fun x _ => n - (intOf x).toNat)
  case atStart => exact ⟨0, _, Nat.zero_le _, rfl, HT1, HR0, HB1⟩
  case round =>
    obtain ⟨k, ys, hk, rfl, HT, HR, HB⟩ := hrel
    clear HT1 HR0 HB1
    by_cases hlt : k < n
    · have hyl : ys.length = n + 1 := HR.out.1
      have HT' := Lib.hid (show TRow2 25 wr w.heap.size (.slice (some ⟨w.heap.size, 0, none⟩) ys.length (n + 1)) ys by rw [hyl]; exact HT.out)
      obtain ⟨bq, cq, eq, -, hbl, -, hc, -⟩ := HT'.out.form (by omega)
      simp only [Value.slice.injEq, true_and, Option.some.injEq, Addr.mk.injEq, and_true] at eq
      obtain ⟨rfl, -⟩ := eq
      obtain ⟨k0, k1⟩ := hc k (by omega)
      have hgk := HR.out.2 k (Nat.le_refl _)
      rw [hgk] at k0 k1
      simp only at k0 k1
      clear hc
      have HRn := Lib.hid (HR.out.set hlt)
      have HMk := HM.out k (by omega)
      obtain ⟨q0, q1, q2⟩ := HBd.out k (by omega)
      have e1 : Rg.fl (Dc.lo y p d k * (1000000 + y)) = Dc.lo y p d (k + 1) := rfl
      have e2 : Rg.cl (Dc.hi y p d k * (1000000 + y)) = Dc.hi y p d (k + 1) := rfl
      rw [e1, e2] at HMk
      have HMh := Lib.hid HMk
      clear HMk e1 e2 HR
      generalize Dc.lo y p d k = l0 at k0 k1 HMh q0 q1 hgk
      generalize Dc.hi y p d k = h0 at k0 k1 HMh q1 q2 hgk
      generalize Dc.lo y p d (k + 1) = l1 at HMh HRn
      generalize Dc.hi y p d (k + 1) = h1 at HMh HRn
      have hkn : (k : Int) < n := by omega
      have hb1 : (0 : Int) ≤ k := by omega
      have W8 : IntKind.i64.wrap (1000000 + y) = 1000000 + y := IntWalk.i64_in _ (by omega)
      have hb2 : (k : Int) < n + 1 := by omega
      have hb3 : (0 : Int) ≤ (k : Int) + 1 := by omega
      have hb4 : (k : Int) + 1 < n + 1 := by omega
      have hb5' : (k : Int) ≤ n + 1 := by omega
      have W7 : IntKind.i64.wrap ((k : Int) + 1) = (k : Int) + 1 := IntWalk.i64_in _ (by omega)
      have K1 := Lib.hid (show wr.cell? ⟨w.heap.size, k * 2, none⟩ = some (.int .i64 l0) ∧ wr.cell? ⟨w.heap.size, k * 2 + 1, none⟩ = some (.int .i64 h0) from ⟨k0, k1⟩)
      have K2 := Lib.hid (show wr.drew.cell? ⟨w.heap.size, k * 2, none⟩ = some (.int .i64 l0) ∧ wr.drew.cell? ⟨w.heap.size, k * 2 + 1, none⟩ = some (.int .i64 h0) from ⟨k0, k1⟩)
      have HG := Lib.hid (show ys.getD k pr0 = (l0, h0) from hgk)
      clear k0 k1 hgk
      go_wp2_with fail
      have HTd := Lib.hid (show TRow2 25 wr.drew w.heap.size (.slice (some ⟨w.heap.size, 0, none⟩) (n + 1) (n + 1)) ys from HT.out)
      have HBd2 := Lib.hid HB.out.drew
      have HYl := Lib.hid hyl
      go_region_held3 (fun W => W.cell? ⟨w.heap.size, k * 2, none⟩ = some (.int .i64 l0) ∧ W.cell? ⟨w.heap.size, k * 2 + 1, none⟩ = some (.int .i64 h0)) (first | with_reducible exact K1.out | with_reducible exact K2.out | with_reducible exact K5.out | with_reducible exact K6.out | with_reducible exact K7.out) (first | (go_at_call 71; refine (exactly_any _ _).mono ?_; rintro e w5 ⟨rfl, hb5⟩; have HT5 := Lib.hid (HTd.out.below hb5 (Nat.le_refl _)); have HB5 := Lib.hid (HBd2.out.trans (hb5.mono HBd2.out.size)); have K5 := Lib.hid (HT5.out.at2 HYl.out k (by omega)).1; rw [HG.out] at K5; clear hb5) | (go_at_call 70; refine (mulRange_any a _ _ _ _ _ (HSe.out _ HB5.out)).mono ?_; rw [HMh.out]; rintro e w6 ⟨rfl, hb6⟩; have HT6 := Lib.hid (HT5.out.below hb6 (Nat.le_refl _)); have HB6 := Lib.hid (HB5.out.trans (hb6.mono HB5.out.size)); have K6 := Lib.hid (HT6.out.at2 HYl.out k (by omega)).1; rw [HG.out] at K6; obtain ⟨⟨d0', d1'⟩, g0, g1⟩ := HT6.out.at2 HYl.out (k + 1) (by omega); have HS6 := Lib.hid (TRow2.store (by rw [HYl.out]; exact HT6.out) (k + 1) (by rw [HYl.out]; omega) l1 h1); have K7 := Lib.hid (HS6.out.1.at2 (by rfl) k (by rw [List.length_set, HYl.out]; omega)).1; rw [getD_set_ne HYl.out HG.out] at K7; clear hb6))
      all_goals try go_wp2_with fail
      all_goals
        have HS7 := HS6.out
        rw [List.length_set, HYl.out] at HS7
        go_roundw
        case rel => exact ⟨k + 1, ys.set (k + 1) (l1, h1), by omega, by go_num, Lib.hid HS7.1, HRn, Lib.hid (HB6.out.grown HS7.2 HB6.out.size (fun j hj => by injection hj with hj; omega))⟩
        case measure => simp [intOf]; omega
    · obtain rfl : k = n := by omega
      go_wp2_with fail
      go_ret
      exact ⟨_, _, ys, rfl, HT.out, HR.out, HB.out⟩
noncomputable def Dc.val (y p d n : Int) : Int × Int := if Dc.ok y p d n = true then (Dc.dl (Dc.hi y p d n.toNat), Dc.dh (Dc.lo y p d n.toNat)) else (0, 0)
theorem Blk.twoD {w : World} {b : Nat} {T : TypeId} {x y : Value} (h : Blk w b T #[x, y]) : (w.cell? ⟨b, 0, none⟩ = some x ∧ w.cell? ⟨b, 1, none⟩ = some y) := h.two.1
theorem Blk.setD {W : World} {g : Nat} {T : TypeId} {cs : Array Value} (h : Blk W g T cs) {b k : Nat} (hq : g ≠ b) (u : Value) : Blk (W.setCell ⟨b, k, none⟩ u) g T cs := by
  unfold Blk at *
  simp only [World.setCell, Array.getElem?_modify]
  rw [if_neg (fun e => hq e.symm), h]
theorem Blk.putD2 {w w' : World} {b : Nat} {t : TypeId} {cs : Array Value} (h : Blk w b t cs) (i : Nat) (v : Value) (h2 : w' = w.setCell ⟨b, i, none⟩ v) : Blk w' b t (cs.setIfInBounds i v) := by
  subst h2
  unfold Blk at *
  have hlt : b < w.heap.size := by
    rcases Nat.lt_or_ge b w.heap.size with hlt | hge
    · exact hlt
    · rw [Array.getElem?_eq_none hge] at h; cases h
  simp [World.setCell, Array.getElem?_modify, h]
theorem Blk.wr2 {w : World} {b : Nat} {T : TypeId} {x y : Value} (k : Blk w b T #[x, y]) (u v : Value) : Blk ((w.setCell ⟨b, 0, none⟩ u).setCell ⟨b, 1, none⟩ v) b T #[u, v] := (k.putD2 0 _ rfl).putD2 1 _ rfl
theorem blkDrewD {w : World} {b : Nat} {T : TypeId} {cs : Array Value} (h : Blk w b T cs) : Blk w.drew b T cs := h
set_option maxHeartbeats 2000000 in
theorem discountBy_any (a : Addr) (l h : Int) (w : World) (hS : Sen a w) (h1 : 1000000 ≤ l) (h2 : l ≤ h) (h3 : h ≤ 60000000) :
    Calls Tryd.prog 50 #[rV l h] w fun e w' => e = .returned (rV (Dc.dl h) (Dc.dh l)) ∧ Below w.heap.size w w' := by
  have HSe := Lib.hid (fun W (hW : Below w.heap.size w W) => hS.below hW hS.pos)
  have HDi := Lib.hid (Dc.div_is h1 h2 h3)
  have KA0 := Lib.hid ((Blk.new w #[.int .i64 l, .int .i64 h] 25).alloc (.cells #[.int .i64 0, .int .i64 0] 25))
  have KR0 := Lib.hid (show Blk _ (w.heap.size + 1) _ _ by have k := Blk.new (w.alloc (.cells #[.int .i64 l, .int .i64 h] 25)) #[.int .i64 0, .int .i64 0] 25; rw [World.size_alloc] at k; exact k)
  have HB0 := Lib.hid (((Below.refl w.heap.size w).alloc (Nat.le_refl _) (.cells #[.int .i64 l, .int .i64 h] 25)).alloc (by simp) (.cells #[.int .i64 0, .int .i64 0] 25))
  clear hS h1 h2 h3
  generalize Dc.dl h = L at HDi
  generalize Dc.dh l = U at HDi
  go_enter Tryd.func50, Tryd.ntmps50
  go_upto_region 1 with fail
  generalize (w.alloc (.cells #[.int .i64 l, .int .i64 h] 25)).alloc (.cells #[.int .i64 0, .int .i64 0] 25) = W0 at KA0 KR0 HB0 ⊢
  have hlt0 := KA0.out.lt
  have hlt1 := KR0.out.lt
  go_cut [3] (fun s3 wx => ∃ B : Nat, s3 = .pointer (some ⟨B, 0, none⟩) ∧ Blk wx B 25 #[.int .i64 L, .int .i64 U] ∧ Blk wx (w.heap.size + 1) 25 #[.int .i64 0, .int .i64 0] ∧ Below w.heap.size w wx)
  case rest =>
    obtain ⟨B, rfl, hB, hR, hb⟩ := hcut
    obtain ⟨⟨c0, c1⟩, -, -⟩ := hB.two
    obtain ⟨⟨r0, r1⟩, fr0, fr1⟩ := hR.two
    go_wp2_with fail
    obtain ⟨⟨q0, q1⟩, -, -⟩ := (hR.wr2 (.int .i64 L) (.int .i64 U)).two
    refine bodyPost_ret (v := rV L U) (by simp [results, Tryd.results50, go_sem, q0, q1]) rfl ⟨rfl, (hb.setCell (by simp) _).setCell (by simp) _⟩
  case first =>
    go_region_held3 (fun W => W.cell? ⟨w.heap.size, 0, none⟩ = some (.int .i64 l) ∧ W.cell? ⟨w.heap.size, 1, none⟩ = some (.int .i64 h)) (first | exact (blkDrewD KA0.out).twoD | exact ((blkDrewD KA0.out).alloc _).twoD | exact (blkDrewD (KA0.out.alloc _)).twoD | exact k6.twoD | exact (k6.alloc _).twoD | exact k5.twoD | exact (k5.alloc _).twoD | exact ((k6.set (by dsimp only; omega) _).set (by dsimp only; omega) _).twoD) (first | (go_at_call 71; refine (exactly_any _ _).mono ?_; rintro e w5 ⟨rfl, hb5⟩; have hs5 := hb5.size; (try simp at hs5); have k5 : Blk w5 w.heap.size 25 #[.int .i64 l, .int .i64 h] := (by first | exact Blk.below (blkDrewD KA0.out) hb5 (by simp; omega) | exact Blk.below ((blkDrewD KA0.out).alloc _) hb5 (by simp; omega) | exact Blk.below (blkDrewD (KA0.out.alloc _)) hb5 (by simp; omega)); have r5 : Blk w5 (w.heap.size + 1) 25 #[.int .i64 0, .int .i64 0] := (by first | exact Blk.below (blkDrewD KR0.out) hb5 (by simp; omega) | exact Blk.below ((blkDrewD KR0.out).alloc _) hb5 (by simp; omega) | exact Blk.below (blkDrewD (KR0.out.alloc _)) hb5 (by simp; omega)); have b5 : Below w.heap.size w w5 := (by first | exact HB0.out.drew.trans (hb5.mono HB0.out.size) | exact (HB0.out.drew.alloc HB0.out.size _).trans (hb5.mono (by simp; omega)) | exact (HB0.out.alloc HB0.out.size _).drew.trans (hb5.mono (by simp; omega))); (first | (have z5 := Blk.below (Blk.new _ #[.int .i64 0, .int .i64 0] 25) hb5 (by simp)) | (have z5 := Blk.below (blkDrewD (Blk.new _ #[.int .i64 0, .int .i64 0] 25)) hb5 (by simp)) | skip)) | (go_at_call 72; refine (divRange_any a _ _ _ _ _ (HSe.out _ (by first | exact b5 | exact b5.alloc b5.size _))).mono ?_; rw [HDi.out]; rintro e w6 ⟨rfl, hb6⟩; have hs6 := hb6.size; (try simp at hs6); have k6 : Blk w6 w.heap.size 25 #[.int .i64 l, .int .i64 h] := (by first | exact k5.below hb6 k5.lt | exact (k5.alloc _).below hb6 (k5.alloc _).lt); have r6 : Blk w6 (w.heap.size + 1) 25 #[.int .i64 0, .int .i64 0] := (by first | exact r5.below hb6 r5.lt | exact (r5.alloc _).below hb6 (r5.alloc _).lt); have b6 : Below w.heap.size w w6 := (by first | exact b5.trans (hb6.mono b5.size) | exact (b5.alloc b5.size _).trans (hb6.mono (b5.alloc b5.size _).size)); (first | (have zz := Blk.below z5 hb6 z5.lt; obtain ⟨⟨y0, y1⟩, g0, g1⟩ := zz.two) | (have zz := Blk.below (Blk.new w5 #[.int .i64 0, .int .i64 0] 25) hb6 (by simp); obtain ⟨⟨y0, y1⟩, g0, g1⟩ := zz.two) | skip)))
    all_goals go_wp2_with fail
    all_goals
      go_meet
      refine ⟨_, rfl, ?_, ?_, ?_⟩
      · first | exact Blk.wr2 zz _ _ | exact Blk.new w6 _ _
      · first | exact r6.alloc _ | exact (r6.setD (by omega) _).setD (by omega) _
      · first | exact b6.alloc b6.size _ | exact (b6.setCell (by simp <;> omega) _).setCell (by simp <;> omega) _
end Go.Proofs.YtkdooncfchmkfaaDoor

/- Discounts: the program, whole. -/
namespace Go.Proofs.YtkdooncfchmkfaaDoor
open Go.RowKit
theorem Dc.ok_btw {y p d n : Int} : Dc.ok y p d n = (btw y 0 100000 && (btw d 1 4000 && (btw p 0 d && btw n 0 40))) := by
  rw [Bool.eq_iff_iff, Dc.ok_iff]
  simp only [Bool.and_eq_true, btw_iff]
theorem btwC_any (x l h : Int) (b : Bool) (hb : btw x l h = b) (w : World) : Calls Tryd.prog 32 #[.int .i64 x, .int .i64 l, .int .i64 h] w fun e w' => e = .returned (.bool b) ∧ w = w' := hb ▸ between_any x l h w
theorem vYieldC_any (n : Int) (b : Bool) (hb : btw n 0 100000 = b) (w : World) : Calls Tryd.prog 26 #[.int .i64 n] w fun e w' => e = .returned (.bool b) ∧ w = w' := hb ▸ vYield_any n w
end Go.Proofs.YtkdooncfchmkfaaDoor

/- Discounts: the model. -/
namespace Go.Proofs.YtkdooncfchmkfaaDoor
open Go.RowKit
set_option maxHeartbeats 400000 in
theorem growth_any (y : Int) (w : World) (y0 : 0 ≤ y) (y1 : y ≤ 100000) :
    Calls Tryd.prog 65 #[.int .i64 y] w fun e w' => e = .returned (rV (1000000 + y) (1000000 + y)) ∧ Below w.heap.size w w' := by
  have W1 : IntKind.i64.wrap (1000000 + y) = 1000000 + y := IntWalk.i64_in _ (by omega)
  go_enter Tryd.func65, Tryd.ntmps65
  go_wp2_with fail
  refine bodyPost_ret (v := rV (1000000 + y) (1000000 + y)) (by simp [results, Tryd.results65, go_sem]) rfl ⟨rfl, ?_⟩
  repeat (first | exact Below.refl _ _ | refine Below.drew ?_ | refine Below.setCell ?_ (by simp <;> omega) _ | refine Below.alloc ?_ (by simp <;> omega) _)
set_option maxRecDepth 8000 in
set_option maxHeartbeats 4000000 in
theorem sdiscount_any (y p d : Int) (m : Nat) (w : World) (hok : Dc.ok y p d m = true) :
    Calls Tryd.prog 44 #[.int .i64 y, .int .i64 p, .int .i64 d, .int .i64 m] w fun e w' => e = .returned (rV (Dc.val y p d m).1 (Dc.val y p d m).2) ∧ Below w.heap.size w w' := by
  obtain ⟨⟨y0, y1⟩, ⟨d0, d1⟩, ⟨p0, p1⟩, n0, n1⟩ := Dc.ok_iff.1 hok
  have HV := Lib.hid (show Dc.val y p d m = (Dc.dl (Dc.hi y p d m), Dc.dh (Dc.lo y p d m)) by unfold Dc.val; rw [if_pos hok]; rfl)
  have HBd := Lib.hid (fun i (hi : i ≤ 40) => Dc.bd40 hok hi)
  have HM := Lib.hid (fun i (hi : i ≤ 40) => (Dc.mul_is (l := Dc.lo y p d i) (h := Dc.hi y p d i) (c := 1000000 + y) (by have := Dc.bd40 hok hi; omega) (Dc.bd40 hok hi).2.1 (Dc.bd40 hok hi).2.2 (by omega) (by omega)).2)
  obtain ⟨u0, u1⟩ := Dc.due_bd (d := d) y0 p0 p1
  have u2 : y * d ≤ 100000 * 4000 := Int.mul_le_mul y1 d1 (by omega) (by decide)
  have u3 : y * (d - p) ≤ 400000000 := by omega
  have W1 : IntKind.i64.wrap (y * (d - p)) = y * (d - p) := IntWalk.i64_in _ (by omega)
  obtain ⟨b0, -⟩ := HBd.out 0 (by omega)
  obtain ⟨-, b1, b2⟩ := HBd.out 0 (by omega)
  have e1 : Dc.lo y p d 0 = 1000000 + y * (d - p) / d := rfl
  have e2 : Dc.hi y p d 0 = 1000000 + -((-(y * (d - p))) / d) := rfl
  have H0 := Lib.hid (show Dc.lo y p d 0 = 1000000 + y * (d - p) / d ∧ Dc.hi y p d 0 = 1000000 + -((-(y * (d - p))) / d) from ⟨e1, e2⟩)
  rw [e1] at b0 b1
  rw [e2] at b1 b2
  have W2 : IntKind.i64.wrap (1000000 + y * (d - p) / d) = 1000000 + y * (d - p) / d := IntWalk.i64_in _ (by omega)
  have W3 : IntKind.i64.wrap (1000000 + -((-(y * (d - p))) / d)) = 1000000 + -((-(y * (d - p))) / d) := IntWalk.i64_in _ (by omega)
  have HFl := Lib.hid (fun W => rsFloored_any (y * (d - p)) d W (by omega) (by omega) d0 (by omega))
  have HCl := Lib.hid (fun W => rsCeiled_any (y * (d - p)) d W (by omega) (by omega) d0 (by omega))
  clear e1 e2 u1 u2 hok
  go_enter Tryd.func44, Tryd.ntmps44
  go_wp2_with (first | (go_at_call 45; refine (HFl.out _).mono ?_; rintro e w' ⟨rfl, rfl⟩) | (go_at_call 46; refine (HCl.out _).mono ?_; rintro e w' ⟨rfl, rfl⟩))
  rw [← H0.out.1, ← H0.out.2]
  go_loopw [11] (fun x wr => ∃ k : Nat, k ≤ m ∧ x = .int .i64 k ∧ Hid (Blk wr (w.heap.size + 1 + 1) 25 #[.int .i64 (Dc.lo y p d k), .int .i64 (Dc.hi y p d k)]) ∧ Hid (Blk wr w.heap.size 25 #[.int .i64 0, .int .i64 0]) ∧ Hid (Below w.heap.size w wr)) (fun x _ => m - (intOf x).toNat)
  case atStart =>
    refine ⟨0, Nat.zero_le _, rfl, ?_, ?_, ?_⟩
    · have h := Blk.new ((w.alloc (.cells #[.int .i64 0, .int .i64 0] 25)).alloc (.cells #[.int .i64 (Dc.lo y p d 0), .int .i64 (Dc.hi y p d 0)] 25)) #[.int .i64 (Dc.lo y p d 0), .int .i64 (Dc.hi y p d 0)] 25
      rw [World.size_alloc, World.size_alloc] at h
      exact Lib.hid h
    · exact Lib.hid (((Blk.new w #[.int .i64 0, .int .i64 0] 25).alloc _).alloc _)
    · exact Lib.hid ((((Below.refl w.heap.size w).alloc (Nat.le_refl _) _).alloc (by simp) _).alloc (by simp; omega) _)
  case round =>
    obtain ⟨k, hk, rfl, HA, HR, HB⟩ := hrel
    by_cases hlt : k < m
    · have hd1 := decide_eq_true (show (k : Int) < m by omega)
      obtain ⟨q0, q1, q2⟩ := HBd.out k (by omega)
      obtain ⟨m1, m2⟩ := HM.out k (by omega)
      have HMl := Lib.hid (fun W => sMulR_any (Dc.lo y p d k) (Dc.hi y p d k) (1000000 + y) (1000000 + y) W (by omega) q1 (by omega) (by omega) (Int.le_refl _) (by omega))
      rw [m1, m2] at HMl
      have e1 : Rg.fl (Dc.lo y p d k * (1000000 + y)) = Dc.lo y p d (k + 1) := rfl
      have e2 : Rg.cl (Dc.hi y p d k * (1000000 + y)) = Dc.hi y p d (k + 1) := rfl
      rw [e1, e2] at HMl
      have GR := Lib.hid (fun W => growth_any y W y0 y1)
      clear m1 m2 e1 e2
      have HAl := HA.out.lt
      have HB2 := HB
      generalize Dc.lo y p d k = l0 at HA HMl
      generalize Dc.hi y p d k = h0 at HA HMl
      obtain ⟨l1, hl1⟩ : ∃ l1, l1 = Dc.lo y p d (k + 1) := ⟨_, rfl⟩
      obtain ⟨h1, hh1⟩ : ∃ h1, h1 = Dc.hi y p d (k + 1) := ⟨_, rfl⟩
      rw [← hl1, ← hh1] at HMl
      have HE1 := Lib.hid (And.intro hl1 hh1)
      clear hl1 hh1
      obtain ⟨⟨a0, a1⟩, af0, af1⟩ := HA.out.two
      go_wp2_with fail
      go_region_with (first | (go_at_call 65; (with_reducible refine (GR.out _).mono ?_); rintro e w5 ⟨rfl, hb5⟩; have k5 := Blk.below (blkDrewD HA.out) hb5 (by simp; omega); obtain ⟨⟨x0, x1⟩, xf0, xf1⟩ := k5.two) | (go_at_call 64; (with_reducible refine (HMl.out _).mono ?_); rintro e w6 ⟨rfl, hb6⟩; have k6 := Blk.below k5 hb6 k5.lt; obtain ⟨⟨z0, z1⟩, zf0, zf1⟩ := k6.two))
      all_goals try go_wp2_with fail
      all_goals
        have r6 := ((blkDrewD HR.out).below hb5 HR.out.lt).below hb6 (by have := HR.out.lt; have := hb5.size; simp at this; omega)
        have b6 := (HB2.out.drew.trans (hb5.mono HB2.out.size)).trans (hb6.mono (by have := hb5.size; have := HB2.out.size; simp at *; omega))
        go_roundw
        case rel => exact ⟨k + 1, by omega, by go_num, by rw [← HE1.out.1, ← HE1.out.2]; exact Lib.hid (k6.wr2 _ _), Lib.hid ((r6.setD (by omega) _).setD (by omega) _), Lib.hid ((b6.setCell (by simp; omega) _).setCell (by simp; omega) _)⟩
        case measure => simp [intOf]; omega
    · obtain rfl : k = m := by omega
      have hd1 : decide ((k : Int) < k) = false := by simp
      have HAl := HA.out.lt
      obtain ⟨q0, q1, q2⟩ := HBd.out k (by omega)
      have HDv := Lib.hid (fun W => show Calls Tryd.prog 66 #[rV 1000000 1000000, rV (Dc.lo y p d k) (Dc.hi y p d k)] W fun e w' => e = .returned (rV (Dc.dl (Dc.hi y p d k)) (Dc.dh (Dc.lo y p d k))) ∧ Below W.heap.size W w' from sDivR_any 1000000 1000000 (Dc.lo y p d k) (Dc.hi y p d k) W (by omega) (Int.le_refl _) (by omega) (by omega) q1 (by omega))
      have EX := Lib.hid (fun W => exactOne_any W)
      have HB2 := HB
      obtain ⟨L, hL⟩ : ∃ L, L = Dc.dl (Dc.hi y p d k) := ⟨_, rfl⟩
      obtain ⟨U, hU⟩ : ∃ U, U = Dc.dh (Dc.lo y p d k) := ⟨_, rfl⟩
      rw [← hL, ← hU] at HDv
      have HE1 := Lib.hid (show Dc.val y p d k = (L, U) by rw [HV.out, hL, hU])
      clear hL hU
      generalize Dc.lo y p d k = l0 at HA HDv
      generalize Dc.hi y p d k = h0 at HA HDv
      obtain ⟨⟨a0, a1⟩, af0, af1⟩ := HA.out.two
      go_wp2_with fail
      go_region_with (first | (go_at_call 67; (with_reducible refine (EX.out _).mono ?_); rintro e w5 ⟨rfl, hb5⟩; have k5 := Blk.below (blkDrewD HA.out) hb5 (by simp; omega); obtain ⟨⟨x0, x1⟩, xf0, xf1⟩ := k5.two) | (go_at_call 66; (with_reducible refine (HDv.out _).mono ?_); rintro e w6 ⟨rfl, hb6⟩; have r6 := ((blkDrewD HR.out).below hb5 HR.out.lt).below hb6 (by have := HR.out.lt; have := hb5.size; simp at this; omega); obtain ⟨⟨z0, z1⟩, zf0, zf1⟩ := r6.two))
      all_goals go_wp2_with fail
      all_goals
        have b6 := (HB2.out.drew.trans (hb5.mono HB2.out.size)).trans (hb6.mono (by have := hb5.size; have := HB2.out.size; simp at *; omega))
        obtain ⟨⟨q0, q1⟩, -, -⟩ := (r6.wr2 (.int .i64 L) (.int .i64 U)).two
        refine bodyPost_ret (v := rV L U) (by simp [results, Tryd.results44, go_sem, q0, q1]) rfl ⟨by rw [HE1.out], (b6.setCell (by simp) _).setCell (by simp) _⟩
theorem sBtwC_any (x l h : Int) (b : Bool) (hb : btw x l h = b) (w : World) : Calls Tryd.prog 31 #[.int .i64 x, .int .i64 l, .int .i64 h] w fun e w' => e = .returned (.bool b) ∧ w = w' := hb ▸ inRange_any x l h w
theorem sVYieldC_any (n : Int) (b : Bool) (hb : btw n 0 100000 = b) (w : World) : Calls Tryd.prog 23 #[.int .i64 n] w fun e w' => e = .returned (.bool b) ∧ w = w' := by
  go_enter Tryd.func23, Tryd.ntmps23
  go_wp2_with fail
  refine (sBtwC_any _ _ _ b hb _).mono ?_
  rintro e w1 ⟨rfl, rfl⟩
  go_wp2_with fail
  go_ret
  exact ⟨rfl, rfl⟩
end Go.Proofs.YtkdooncfchmkfaaDoor
