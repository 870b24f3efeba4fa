/- Weights with a cap: where they lie, and which are free. -/
import Derived.Test.YtgkldgljebhcgaaCwP
import Derived.Test.YtgkldgljebhcgaaKp
namespace Go.Proofs.Ytgkldgljebhcgaa
open Go.RowKit
theorem infoBool : (Try.prog.info? 4).map (fun i => (i.zero, i.size, i.bytes)) = some (some (.bool false), 1, 1) := by kernel_rfl
/-- A slice of bools in memory of the call's own. -/
def BRow (w : World) (B : Nat) (v : Value) (cs : List Bool) : Prop := w.ownsRow B 4 1 v cs.length (cs.map Value.bool)
theorem BRow.keptBy {w w' : World} {B : Nat} {v : Value} {xs : List Bool} {b : Nat} (h : BRow w B v xs) (hg : w.grownBy w' (some b)) (hr : ∀ j, v.ownBlock = some j → j ≠ b) : BRow w' B v xs :=
  World.ownsRow.kept h hg (by
    cases hb : v.ownBlock with
    | none => exact .inl rfl
    | some k => exact .inr fun e => by injection e with e; exact hr k hb e)
theorem BRow.below {w w' : World} {B C : Nat} {v : Value} {xs : List Bool} (h : BRow w B v xs) (hb : Below C w w') (hC : w.heap.size ≤ C) : BRow w' B v xs :=
  World.ownsRow.kept h (row := none) ⟨hb.os, hb.tape, hb.output, hb.size, fun k hk _ => hb.block k (by omega)⟩ (by cases v.ownBlock <;> simp)
theorem BRow.alloc {w : World} {B : Nat} {v : Value} {xs : List Bool} (h : BRow w B v xs) (o : Obj) : BRow (w.alloc o) B v xs := World.ownsRow.alloc h o
theorem BRow.form {w : World} {B b cap : Nat} {xs : List Bool} (h : BRow w B (.slice (some ⟨b, 0, none⟩) xs.length cap) xs) :
    B ≤ b ∧ b < w.heap.size ∧ (∀ i, i < xs.length → w.cell? ⟨b, i, none⟩ = some (.bool (xs.getD i false))) ∧ (∀ i, w.frozen? ⟨b, i, none⟩ = false) := by
  have h0 := h
  refine ⟨(World.ownsRow.lt h0 b rfl).1, (World.ownsRow.lt h0 b rfl).2, fun i hi => ?_, fun i => World.ownsRow.frozenAt h0 i⟩
  rw [World.ownsRow.cellAt h0 i (by omega), List.getElem?_map, List.getElem?_eq_getElem hi, List.getD_eq_getElem?_getD, List.getElem?_eq_getElem hi]
  rfl
theorem BRow.store {w : World} {B b cap : Nat} {xs : List Bool} (h : BRow w B (.slice (some ⟨b, 0, none⟩) xs.length cap) xs) (i : Nat) (x : Bool) :
    BRow (w.setCell ⟨b, i, none⟩ (.bool x)) B (.slice (some ⟨b, 0, none⟩) (xs.set i x).length cap) (xs.set i x) ∧ w.grownBy (w.setCell ⟨b, i, none⟩ (.bool x)) (some b) := by
  have h1 := World.ownsRow.stored h i (.bool x)
  refine ⟨?_, h1.2⟩
  unfold BRow
  rw [List.map_set, List.length_set]
  exact h1.1
/-- The weights and which have become the cap, in memory. -/
structure Cs (W : World) (B bc bw bm cw cm : Nat) (ws : List Int) (cs : List Bool) : Prop where
  s : Blk W bc 41 #[.slice (some ⟨bw, 0, none⟩) ws.length cw, .slice (some ⟨bm, 0, none⟩) ws.length cm]
  w : IRow W B (.slice (some ⟨bw, 0, none⟩) ws.length cw) ws
  m : BRow W B (.slice (some ⟨bm, 0, none⟩) cs.length cm) cs
  n1 : bw ≠ bm
  n2 : bc ≠ bw
  n3 : bc ≠ bm
  hb : B ≤ bc
  len : ws.length = cs.length
section
variable {W : World} {B bc bw bm cw cm : Nat} {ws : List Int} {cs : List Bool} (h : Cs W B bc bw bm cw cm ws cs)
include h
theorem Cs.below {W' : World} {C : Nat} (hb : Below C W W') (hC : W.heap.size ≤ C) : Cs W' B bc bw bm cw cm ws cs :=
  ⟨h.s.below hb (Nat.lt_of_lt_of_le h.s.lt hC), h.w.below hb hC, h.m.below hb hC, h.n1, h.n2, h.n3, h.hb, h.len⟩
theorem Cs.bds : (B ≤ bc ∧ bc < W.heap.size) ∧ (B ≤ bw ∧ bw < W.heap.size) ∧ (B ≤ bm ∧ bm < W.heap.size) := ⟨⟨h.hb, h.s.lt⟩, World.ownsRow.lt h.w bw rfl, World.ownsRow.lt h.m bm rfl⟩
theorem Cs.c0 : W.cell? ⟨bc, 0, none⟩ = some (.slice (some ⟨bw, 0, none⟩) ws.length cw) ∧ W.cell? ⟨bc, 1, none⟩ = some (.slice (some ⟨bm, 0, none⟩) ws.length cm) := by
  have h := h.s
  unfold Blk at h
  simp [World.cell?, h]
theorem Cs.wAt (h0 : 0 < ws.length) : (∀ i, i < ws.length → W.cell? ⟨bw, i, none⟩ = some (.int .i64 (ws.getD i 0))) ∧ (∀ i, W.frozen? ⟨bw, i, none⟩ = false) := by
  obtain ⟨b, cap, e, -, -, -, h1, h2⟩ := h.w.form h0
  simp only [Value.slice.injEq, Option.some.injEq, Addr.mk.injEq, and_true, true_and] at e
  obtain ⟨rfl, -⟩ := e
  exact ⟨h1, h2⟩
theorem Cs.mAt : (∀ i, i < ws.length → W.cell? ⟨bm, i, none⟩ = some (.bool (cs.getD i false))) ∧ (∀ i, W.frozen? ⟨bm, i, none⟩ = false) := by
  obtain ⟨-, -, h1, h2⟩ := h.m.form
  exact ⟨fun i hi => h1 i (by rw [← h.len]; exact hi), h2⟩
theorem Cs.setW (i : Nat) (x : Int) : Cs (W.setCell ⟨bw, i, none⟩ (.int .i64 x)) B bc bw bm cw cm (ws.set i x) cs := by
  have hs := h.w.store i x
  refine ⟨by rw [List.length_set]; exact h.s.grown hs.2 h.n2, hs.1, h.m.keptBy hs.2 (fun j hj => ?_), h.n1, h.n2, h.n3, h.hb, by rw [List.length_set]; exact h.len⟩
  have hj2 : some bm = some j := hj
  injection hj2 with hj2
  exact fun e => h.n1 (by rw [hj2, e])
theorem Cs.setM (i : Nat) (x : Bool) : Cs (W.setCell ⟨bm, i, none⟩ (.bool x)) B bc bw bm cw cm ws (cs.set i x) := by
  have hs := h.m.store i x
  refine ⟨h.s.grown hs.2 h.n3, h.w.keptBy hs.2 (fun j hj => ?_), hs.1, h.n1, h.n2, h.n3, h.hb, by rw [List.length_set]; exact h.len⟩
  have hj2 : some bw = some j := hj
  injection hj2 with hj2
  exact fun e => h.n1 (by rw [hj2, e])
theorem Cs.drew : Cs W.drew B bc bw bm cw cm ws cs := ⟨h.s, h.w, h.m, h.n1, h.n2, h.n3, h.hb, h.len⟩
end
theorem Cw.keep0 {xs : List Int} {n k : Nat} (hn : xs.length = n) (hk : k < n) (h0 : xs.getD k 0 = 0) : xs.take k ++ List.replicate (n - k) (0 : Int) = xs.take (k + 1) ++ List.replicate (n - (k + 1)) 0 := by
  rw [take_snoc1 (by omega), h0, List.append_assoc, show n - k = (n - (k + 1)) + 1 by omega, List.replicate_succ]; rfl
theorem Cw.put0 {xs : List Int} {n k : Nat} (hn : xs.length = n) (hk : k < n) {x : Int} (h0 : xs.getD k 0 = x) : (xs.take k ++ List.replicate (n - k) (0 : Int)).set k x = xs.take (k + 1) ++ List.replicate (n - (k + 1)) 0 := by
  have h := copy_int (xs := xs) (k := k) (by omega)
  rw [hn, h0] at h
  exact h
theorem Cw.mixLen {xs : List Int} {n k : Nat} (hn : xs.length = n) (hk : k ≤ n) : (xs.take k ++ List.replicate (n - k) (0 : Int)).length = n := by
  rw [List.length_append, List.length_take, List.length_replicate, hn]; omega
/-- The store that turns one place of a row that is being filled. -/
theorem Cw.rowPut {W : World} {B b n k : Nat} {xs : List Int} (hn : xs.length = n) (hk : k < n) {x : Int} (h0 : xs.getD k 0 = x) (hW : IRow W B (.slice (some ⟨b, 0, none⟩) n n) (xs.take k ++ List.replicate (n - k) 0)) :
    IRow (W.setCell ⟨b, k, none⟩ (.int .i64 x)) B (.slice (some ⟨b, 0, none⟩) n n) (xs.take (k + 1) ++ List.replicate (n - (k + 1)) 0) ∧ W.grownBy (W.setCell ⟨b, k, none⟩ (.int .i64 x)) (some b) := by
  have h := (show IRow W B (.slice (some ⟨b, 0, none⟩) (xs.take k ++ List.replicate (n - k) (0 : Int)).length n) (xs.take k ++ List.replicate (n - k) 0) by rw [Cw.mixLen hn (by omega)]; exact hW).store k x
  rw [List.length_set, Cw.mixLen hn (by omega), Cw.put0 hn hk h0] at h
  exact h
theorem Cw.rowAt {W : World} {B b n : Nat} {xs : List Int} (hn : xs.length = n) (h0 : 0 < n) (hW : IRow W B (.slice (some ⟨b, 0, none⟩) n n) xs) :
    (∀ i, i < n → ∃ y, W.cell? ⟨b, i, none⟩ = some (.int .i64 y)) ∧ (∀ i, W.frozen? ⟨b, i, none⟩ = false) := by
  obtain ⟨b4, cap4, e4, -, hbl4, -, hc4, hf4⟩ := hW.form (by rw [hn]; exact h0)
  simp only [Value.slice.injEq, Option.some.injEq, Addr.mk.injEq, and_true] at e4
  obtain ⟨rfl, -⟩ := e4
  exact ⟨fun i hi => ⟨_, hc4 i (by rw [hn]; exact hi)⟩, hf4⟩
set_option maxRecDepth 8000 in
set_option maxHeartbeats 4000000 in
theorem free_any (w : World) (B bc bw bm cw cm : Nat) (ws : List Int) (cs : List Bool) (hC : Cs w B bc bw bm cw cm ws cs) (h0 : 1 ≤ ws.length) (h8 : ws.length ≤ 8) (hw : ∀ i, i < ws.length → 0 ≤ ws.getD i 0 ∧ ws.getD i 0 ≤ 1000) :
    Calls Try.prog 37 #[.pointer (some ⟨bc, 0, none⟩)] w (HandsI (Cw.free ws cs) w) := by
  obtain ⟨⟨-, lc⟩, ⟨-, lw⟩, -, lm⟩ := hC.bds
  obtain ⟨s0, s1⟩ := hC.c0
  have HWa := Lib.hid (hC.wAt (by omega)).1
  have HMa := Lib.hid hC.mAt.1
  have HXa := Lib.hid hw
  have hlen := hC.len
  have HFl := Lib.hid (Cw.fw_len hlen)
  have HOl := Lib.hid ((Cw.ones_len cs).trans hlen.symm)
  have HFa := Lib.hid (fun i (hi : i < ws.length) => Cw.fw_at hlen hi)
  have HOa := Lib.hid (fun i (hi : i < ws.length) => Cw.ones_at (cs := cs) (i := i) (by omega))
  have HD := Lib.hid (show Cw.free ws cs = if (Cw.fw ws cs).sum = 0 then Cw.ones cs else Cw.fw ws cs from rfl)
  have HSm := Lib.hid (show Small (Cw.fw ws cs) from fun i hi => by
    rw [HFl.out] at hi
    have := hw i hi
    rw [HFa.out i hi]
    split <;> omega)
  clear hC hw
  generalize Cw.fw ws cs = FW at *
  generalize Cw.ones cs = ON at *
  generalize Cw.free ws cs = R at *
  clear hlen
  obtain ⟨n, hnn⟩ : ∃ n, n = ws.length := ⟨_, rfl⟩
  rw [← hnn] at h0 h8 s0 s1 HWa HMa HXa HFl HOl HFa HOa
  clear hnn
  have hn : n ≤ 1000 := by omega
  have fmk := fun W => mk_ints hn W
  go_enter Try.func37, Try.ntmps37
  go_wp2_with fail
  go_region
  have TW : Two w ((w.alloc (.cells (mz n) 3)).alloc (.cells (mz n) 3)).drew n w.heap.size (w.heap.size + 1) := (two_make w n hn).drew
  generalize ((w.alloc (.cells (mz n) 3)).alloc (.cells (mz n) 3)).drew = w3 at TW ⊢
  generalize w.heap.size + 1 = br at TW ⊢
  generalize w.heap.size = bs at TW ⊢
  rotate_left
  have TW : Two w ((w.alloc (.cells (mz n) 3)).alloc (.cells (mz n) 3)).drew n (w.heap.size + 1) w.heap.size := (two_make w n hn).symm.drew
  generalize ((w.alloc (.cells (mz n) 3)).alloc (.cells (mz n) 3)).drew = w3 at TW ⊢
  generalize w.heap.size + 1 = bs at TW ⊢
  generalize w.heap.size = br at TW ⊢
  all_goals
    obtain ⟨hs3, hr3, hne, hb3⟩ := TW
    have HS3 := Lib.hid (show IRow w3 w.heap.size _ (FW.take 0 ++ List.replicate (n - 0) 0) by simpa using hs3)
    have HR3 := Lib.hid (show IRow w3 w.heap.size _ (ON.take 0 ++ List.replicate (n - 0) 0) by simpa using hr3)
    have HB3 := Lib.hid hb3
    clear hs3 hr3 hb3
    have d0 := (HB3.out.cell (p := ⟨bc, 0, none⟩) lc).trans s0
    go_wp2_with fail
    go_loopw [24] (fun x wr => ∃ k : Nat, k ≤ n ∧ x = .int .i64 k ∧ Hid (IRow wr w.heap.size (.slice (some ⟨bs, 0, none⟩) n n) (FW.take k ++ List.replicate (n - k) 0)) ∧ Hid (IRow wr w.heap.size (.slice (some ⟨br, 0, none⟩) n n) (ON.take k ++ List.replicate (n - k) 0)) ∧ Hid (Below w.heap.size w wr)) (fun x _ => n - (intOf x).toNat)
    case atStart => exact ⟨0, Nat.zero_le _, rfl, HS3, HR3, HB3⟩
    case round =>
      obtain ⟨k, hk, rfl, HF, HG, HB⟩ := hrel
      clear d0
      by_cases hlt : k < n
      · have c1 := (HB.out.cell (p := ⟨bc, 1, none⟩) lc).trans s1
        have c2 := (HB.out.cell (p := ⟨bw, k, none⟩) lw).trans (HWa.out k hlt)
        have c3 := (HB.out.cell (p := ⟨bm, k, none⟩) lm).trans (HMa.out k hlt)
        have hfa := HFa.out k hlt
        have hoa := HOa.out k hlt
        have hk1 : (k : Int) < n := by omega
        have hk0 : (0 : Int) ≤ k := by omega
        generalize ws.getD k 0 = x at c2 hfa
        generalize cs.getD k false = c at c3 hfa hoa
        cases c with
        | true =>
          rw [if_pos rfl] at hfa hoa
          have HP := Lib.hid (Cw.keep0 HFl.out hlt hfa)
          have HQ := Lib.hid (Cw.keep0 HOl.out hlt hoa)
          clear hfa hoa
          go_wp2_with fail
          go_roundw
          case rel => exact ⟨k + 1, by omega, by go_num, Lib.hid (by rw [← HP.out]; exact HF.out), Lib.hid (by rw [← HQ.out]; exact HG.out), HB⟩
          case measure => simp [intOf]; omega
        | false =>
          rw [if_neg (by simp)] at hfa hoa
          obtain ⟨y0, e0⟩ := (Cw.rowAt (Cw.mixLen HFl.out hk) (by omega) HF.out).1 k hlt
          obtain ⟨y1, e1⟩ := (Cw.rowAt (Cw.mixLen HOl.out hk) (by omega) HG.out).1 k hlt
          have g0 := (Cw.rowAt (Cw.mixLen HFl.out hk) (by omega) HF.out).2 k
          have g1 := (Cw.rowAt (Cw.mixLen HOl.out hk) (by omega) HG.out).2 k
          have HP := Lib.hid (Cw.rowPut HFl.out hlt hfa HF.out)
          have HG2 := Lib.hid (HG.out.keptBy HP.out.2 (fun j hj => by have hj2 : some br = some j := hj; injection hj2 with hj2; omega))
          have HQ := Lib.hid (Cw.rowPut HOl.out hlt hoa HG2.out)
          have HP2 := Lib.hid (HP.out.1.keptBy HQ.out.2 (fun j hj => by have hj2 : some bs = some j := hj; injection hj2 with hj2; omega))
          have hbs := (World.ownsRow.lt HF.out bs rfl).1
          have hbr := (World.ownsRow.lt HG.out br rfl).1
          have HB4 := Lib.hid ((HB.out.setCell (p := ⟨bs, k, none⟩) hbs (.int .i64 x)).setCell (p := ⟨br, k, none⟩) hbr (.int .i64 1))
          clear hfa hoa
          go_wp2_with fail
          go_roundw
          case rel => exact ⟨k + 1, by omega, by go_num, HP2, Lib.hid HQ.out.1, HB4⟩
          case measure => simp [intOf]; omega
      · obtain rfl : k = n := by omega
        have HF2 := Lib.hid (show IRow wr w.heap.size (.slice (some ⟨bs, 0, none⟩) k k) FW by
          have h := HF.out
          rwa [List.take_of_length_le (by rw [HFl.out]; exact Nat.le_refl _), Nat.sub_self, List.replicate_zero, List.append_nil] at h)
        have HG2 := Lib.hid (show IRow wr w.heap.size (.slice (some ⟨br, 0, none⟩) k k) ON by
          have h := HG.out
          rwa [List.take_of_length_le (by rw [HOl.out]; exact Nat.le_refl _), Nat.sub_self, List.replicate_zero, List.append_nil] at h)
        have SI := Lib.hid (sumInts_any wr _ FW HF2.out.r1 (by rw [HFl.out]; omega) HSm.out)
        by_cases hz : FW.sum = 0
        · have HD2 := Lib.hid (HD.out.trans (if_pos hz))
          rw [hz] at SI
          clear hz
          go_wp2_with fail
          refine SI.out.mono ?_
          rintro e w4 ⟨rfl, rfl⟩
          go_wp2_with fail
          go_ret
          exact ⟨_, rfl, by rw [HD2.out]; exact HG2.out, HB.out⟩
        · have HD2 := Lib.hid (HD.out.trans (if_neg hz))
          have hbeq : (FW.sum == 0) = false := by simpa using hz
          go_wp2_with fail
          refine SI.out.mono ?_
          rintro e w4 ⟨rfl, rfl⟩
          go_wp2_with fail
          go_ret
          exact ⟨_, rfl, by rw [HD2.out]; exact HF2.out, HB.out⟩
end Go.Proofs.Ytgkldgljebhcgaa
