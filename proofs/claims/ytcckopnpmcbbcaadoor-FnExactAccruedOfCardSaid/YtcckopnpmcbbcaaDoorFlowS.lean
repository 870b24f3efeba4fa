/- The payments of a bond, the model's side. -/
import Derived.Test.YtcckopnpmcbbcaaDoorFlow
import Derived.Maps.AppendAt
import Derived.Deep.AppendLies
namespace Go.Proofs.YtcckopnpmcbbcaaDoor
open Go.RowKit
/-- A row of flows that is not nil. -/
def PF (w : World) (B : Nat) (v : Value) (fs : List Flo) : Prop := FRow w B v fs ∧ v ≠ .slice none 0 0
theorem pf_new (w : World) : PF (w.alloc (.cells #[] 34)) w.heap.size (.slice (some ⟨w.heap.size, 0, none⟩) 0 0) [] :=
  ⟨World.ownsRow_lit w #[] 0 (Nat.le_refl _) (Nat.zero_le _) (by simp), by simp⟩
theorem PF.form {w : World} {B : Nat} {v : Value} {fs : List Flo} (h : PF w B v fs) : ∃ b cap, v = .slice (some ⟨b, 0, none⟩) fs.length cap ∧ B ≤ b ∧ b < w.heap.size := by
  rcases h.1.2 with ⟨h3, _⟩ | ⟨b, cap, cur, rfl, hb, hblk, _⟩
  · exact absurd h3 h.2
  · exact ⟨b, cap, rfl, hb, (World.ownsRow.lt h.1 b rfl).2⟩
theorem PF.below {w w' : World} {B : Nat} {v : Value} {fs : List Flo} (h : PF w B v fs) (hb : Below w.heap.size w w') : PF w' B v fs := ⟨h.1.below hb (Nat.le_refl _), h.2⟩
theorem PF.alloc {w : World} {B : Nat} {v : Value} {fs : List Flo} (h : PF w B v fs) (o : Obj) : PF (w.alloc o) B v fs := ⟨h.1.alloc o, h.2⟩
/-- One flow appended. -/
theorem wpList_pushF (w : World) {ops : Array Oper} {rest : List Oper} {o : Oper} {a : Act} {Q : Exit → Act → World → Prop} (hgd : o.guard = none) (s x : Operand)
    (ho : o.op = .call { callee := .builtin .append, args := #[s, x], argTypes := #[27, 27] })
    (B : Nat) (v : Value) (xs : List Flo) (hs : a.eval s = v) (hown : PF w B v xs) (b c : Nat) (y : Flo) (hx : a.eval x = .slice (some ⟨b, 0, none⟩) 1 c) (hcell : ∀ j u, (fc y)[j]? = some u → w.cell? ((⟨b, 0, none⟩ : Addr).add j) = some u)
    (hl : xs.length + 1 ≤ 1000000) (hB : B ≤ w.heap.size)
    (h : ∀ v' w', PF w' B v' (xs ++ [y]) → w.grownBy w' v.ownBlock → (v'.ownBlock = v.ownBlock ∨ v'.ownBlock = some w.heap.size) → wpList Tryd.prog ops Q rest (a.put o.dst v') w') : wpList Tryd.prog ops Q (o :: rest) a w := by
  obtain ⟨i0, hi, hz0, hz1, hz2⟩ := info_parts infoF
  refine wpList_append_own_at w hgd s x 27 ho B 34 i0 (.agg #[.int .i64 0, .int .i64 0]) 2 16 Tryd.underlying27 hi hz0 hz1 hz2 rfl (by decide) v xs.length _ hs hown.1 ⟨b, 0, none⟩ 1 c (fc y) hx rfl hcell (fc_one y) (by unfold maxLen; omega) (by omega) hB ?_
  intro v' w' h1 h2 h3 h4
  refine h v' w' ⟨?_, fun e => ?_⟩ h2 h4
  · unfold FRow
    rw [flat_take, List.length_append]
    exact h1
  · exact hown.2 (h3.1 e).1
theorem cell_two (w : World) (p : Flo) (t : TypeId) : ∀ j u, (fc p)[j]? = some u → (w.alloc (.cells #[.int .i64 p.1, .int .i64 p.2] t)).cell? ((⟨w.heap.size, 0, none⟩ : Addr).add j) = some u := by
  intro j u hj
  match j, hj with
  | 0, hj => simp [fc] at hj; subst hj; simp [Addr.add]
  | 1, hj => simp [fc] at hj; subst hj; simp [Addr.add]
theorem Rd.kept {w w' : World} {lb n lc : Nat} {ps : List Per} {q : Option Nat} (h : Rd w (.slice (some ⟨lb, 0, none⟩) n lc) ps) (hg : w.grownBy w' q) (hne : q ≠ some lb) : Rd w' (.slice (some ⟨lb, 0, none⟩) n lc) ps := by
  refine ⟨h.1, fun hl => ?_⟩
  obtain ⟨b, c, e, hlt, hc⟩ := h.2 hl
  simp only [Value.slice.injEq, Option.some.injEq, Addr.mk.injEq, and_true] at e
  obtain ⟨rfl, rfl, rfl⟩ := e
  refine ⟨_, _, rfl, Nat.lt_of_lt_of_le hlt hg.size, fun i hi => ?_⟩
  obtain ⟨c0, c1, c2⟩ := hc i hi
  exact ⟨(hg.cell_far _ hlt (Ne.symm hne)).trans c0, (hg.cell_far _ hlt (Ne.symm hne)).trans c1, (hg.cell_far _ hlt (Ne.symm hne)).trans c2⟩
/-- What the loop reads: the bond's cells, the period's cells. -/
abbrev S9 (B L i : Nat) (s e m r f t : Int) (z : Bool) (w' : World) : Prop := w'.cell? ⟨B, 0, none⟩ = some (.int .i64 s) ∧ w'.cell? ⟨B, 1, none⟩ = some (.int .i64 e) ∧ w'.cell? ⟨B, 2, none⟩ = some (.int .i64 m) ∧ w'.cell? ⟨B, 3, none⟩ = some (.int .i64 r) ∧ w'.cell? ⟨L, i * 3, none⟩ = some (.int .i64 f) ∧ w'.cell? ⟨L, i * 3 + 1, none⟩ = some (.int .i64 t) ∧ w'.cell? ⟨L, i * 3 + 2, none⟩ = some (.bool z)
theorem keep9 {B L i : Nat} {s e m r f t : Int} {z : Bool} {W W' : World} (h : S9 B L i s e m r f t z W) {q : Option Nat} (hg : W.grownBy W' q) (hB : B < W.heap.size) (hL : L < W.heap.size) (nB : q ≠ some B) (nL : q ≠ some L) : S9 B L i s e m r f t z W' :=
  ⟨(hg.cell_far _ hB (Ne.symm nB)).trans h.1, (hg.cell_far _ hB (Ne.symm nB)).trans h.2.1, (hg.cell_far _ hB (Ne.symm nB)).trans h.2.2.1, (hg.cell_far _ hB (Ne.symm nB)).trans h.2.2.2.1, (hg.cell_far _ hL (Ne.symm nL)).trans h.2.2.2.2.1, (hg.cell_far _ hL (Ne.symm nL)).trans h.2.2.2.2.2.1, (hg.cell_far _ hL (Ne.symm nL)).trans h.2.2.2.2.2.2⟩
theorem grown_none_of_below {w w' : World} (hb : Below w.heap.size w w') : w.grownBy w' none := ⟨hb.os, hb.tape, hb.output, hb.size, fun k hk _ => hb.block k hk⟩
theorem take_more {fs : List Flo} {i : Nat} {y : Flo} (hi : i < fs.length) (hy : fs.getD i f0 = y) : fs.take i ++ [y] = fs.take (i + 1) := by
  rw [← hy, List.getD_eq_getElem?_getD, List.getElem?_eq_getElem hi, List.take_add_one, List.getElem?_eq_getElem hi]
  rfl
def FlowsL (s e m r : Int) (w : World) (x : Ending) (w' : World) : Prop := ∃ v, x = .returned v ∧ PF w' w.heap.size v (floL s e m r) ∧ Below w.heap.size w w'
set_option maxRecDepth 8000 in
set_option maxHeartbeats 4000000 in
theorem sFlows_any (s e m r : Int) (w : World) (hz : perL s e m r ≠ []) :
    Calls Tryd.prog 53 #[.agg #[.int .i64 s, .int .i64 e, .int .i64 m, .int .i64 r]] w (FlowsL s e m r w) := by
  obtain ⟨⟨m0, m1⟩, ⟨r0, r1⟩, hl40, hpf⟩ := per_facts hz
  have hper : perL s e m r = Sc.sch s e m := by unfold perL; rw [if_pos (btw_t r0 r1)]
  have hz' := hz
  rw [hper] at hz'
  obtain ⟨ok, hN, hall⟩ := Sc.sch_pos hz'
  have HL : Hid (Sc.specL s e m (Sc.N s e m) = perL s e m r) := Lib.hid (by rw [hper, hall, Sc.specL_all ok hN])
  have HOK := Lib.hid ok
  have HP := Lib.hid hpf
  have HCL := Lib.hid (show cpnL s e m r = (perL s e m r).map fun p => (p.2.1, cpnV m r p.1 p.2.1 p.2.2) from rfl)
  have HFL := Lib.hid (show floL s e m r = faced (cpnL s e m r) from rfl)
  have n1 : 1 ≤ (perL s e m r).length := by
    rcases Nat.eq_zero_or_pos (perL s e m r).length with h | h
    · exact absurd (List.eq_nil_of_length_eq_zero h) hz
    · exact h
  have HS := Lib.hid (fun W => sSched_any s e m W ok)
  clear hz hz' hper ok hN hall hpf
  obtain ⟨ps, hps⟩ : ∃ ps, ps = perL s e m r := ⟨_, rfl⟩
  have HPS : Hid ((cpnL s e m r).length = ps.length) := Lib.hid (by rw [cpnL_len, hps])
  rw [← hps] at HL HP HCL n1 hl40
  clear hps
  obtain ⟨n, hn⟩ : ∃ n, n = ps.length := ⟨_, rfl⟩
  rw [← hn] at n1 hl40 HPS
  have HN := Lib.hid hn
  have kB := Blk.new w #[.int .i64 s, .int .i64 e, .int .i64 m, .int .i64 r] 24
  have HKB := Lib.hid kB
  obtain ⟨c0, c1, c2, c3⟩ := kB.four
  clear kB
  go_enter Tryd.func53, Tryd.ntmps53
  go_wp2_with fail
  refine (HS.out _).mono ?_
  rintro x w2 ⟨v, rfl, hp, hb⟩
  rw [HL.out] at hp
  obtain ⟨lb, lc, rfl, hlb, hlb2⟩ := hp.form
  have HR := Lib.hid hp.1.rd
  clear hp
  rw [← hn] at HR ⊢
  clear hn
  go_wp2_with fail
  obtain ⟨i0, hi, hz0, hz1, hz2⟩ := info_parts infoF
  have hB0 : Below w.heap.size w ((w.alloc (.cells #[.int .i64 s, .int .i64 e, .int .i64 m, .int .i64 r] 24)).alloc (.cells #[] 34)) := ((Below.refl _ _).alloc (Nat.le_refl _) _).alloc (by simp) _
  have HB2 := Lib.hid (hB0.trans (hb.mono (by simp <;> omega)))
  have kF := ((pf_new (w.alloc (.cells #[.int .i64 s, .int .i64 e, .int .i64 m, .int .i64 r] 24))).1).below hb (Nat.le_refl _)
  have kB := ((Blk.new w #[.int .i64 s, .int .i64 e, .int .i64 m, .int .i64 r] 24).alloc (.cells #[] 34)).below hb (by simp <;> omega)
  have h4 := kB.four
  simp only [World.size_alloc] at kF hlb
  have HF0 := Lib.hid kF
  have HK := Lib.hid h4
  clear hB0 kF kB h4 c0 c1 c2 c3
  have HCP := Lib.hid (sCoupon_any s e m r)
  go_loopw [3, 5] (fun o x wr => ∃ i ob oc : Nat, i ≤ n ∧ x = .int .i64 i ∧ o = .slice (some ⟨ob, 0, none⟩) i oc ∧ Hid (FRow wr (w.heap.size + 1) o ((cpnL s e m r).take i)) ∧ Hid (Rd wr (.slice (some ⟨lb, 0, none⟩) n lc) ps) ∧ Hid (wr.cell? ⟨w.heap.size, 0, none⟩ = some (.int .i64 s) ∧ wr.cell? ⟨w.heap.size, 1, none⟩ = some (.int .i64 e) ∧ wr.cell? ⟨w.heap.size, 2, none⟩ = some (.int .i64 m) ∧ wr.cell? ⟨w.heap.size, 3, none⟩ = some (.int .i64 r)) ∧ Below w.heap.size w wr ∧ (w.heap.size < ob ∧ ob ≠ lb ∧ lb < wr.heap.size)) (fun _ x _ => n - (intOf x).toNat)
  case atStart => exact ⟨0, w.heap.size + 1, 0, Nat.zero_le _, rfl, rfl, Lib.hid (by simpa using HF0.out), HR, HK, HB2.out, by omega, by omega, hlb2⟩
  case round =>
    obtain ⟨i, ob, oc, hi', rfl, rfl, HF, HRr, HKr, hbr, hob, hol, hlr⟩ := hrel
    by_cases hlt : i < n
    · obtain ⟨f, t, z, hg, f0', f1', t1', hA'⟩ := HP.out i (by rw [← HN.out]; exact hlt)
      have K0 : Hid (S9 w.heap.size lb i s e m r f t z wr) := Lib.hid (by
        obtain ⟨b', c', e', -, hc⟩ := HRr.out.2 (by rw [← HN.out]; omega)
        simp only [Value.slice.injEq, Option.some.injEq, Addr.mk.injEq, and_true] at e'
        obtain ⟨rfl, -, -⟩ := e'
        obtain ⟨a0, a1, a2⟩ := hc i (by rw [← HN.out]; exact hlt)
        rw [hg] at a0 a1 a2
        obtain ⟨k0, k1, k2, k3⟩ := HKr.out
        exact ⟨k0, k1, k2, k3, a0, a1, a2⟩)
      have hgl : (cpnL s e m r).getD i f0 = (t, cpnV m r f t z) := by rw [HCL.out, map_at _ ps p0 f0 (by rw [← HN.out]; exact hlt), hg]
      have HC1 := Lib.hid (fun W => HCP.out f t z W m0 m1 r0 r1 f0' f1' t1' hA')
      have HTK := Lib.hid (take_more (fs := cpnL s e m r) (i := i) (by rw [HPS.out]; exact hlt) hgl)
      have hlen : ((cpnL s e m r).take i).length = i := by rw [List.length_take, HPS.out]; omega
      obtain ⟨C, hC⟩ : ∃ C, C = cpnV m r f t z := ⟨_, rfl⟩
      rw [← hC] at HTK HC1
      have HLEN := Lib.hid hlen
      have hsz := hbr.size
      have hszl : w.heap.size < wr.heap.size := by
        obtain ⟨b', c', e', -, -⟩ := HRr.out.2 (by rw [← HN.out]; omega)
        rcases Nat.lt_or_ge w.heap.size wr.heap.size with h | h
        · exact h
        · have := World.block_lt_of_cell? wr _ HKr.out.1
          exact absurd this (by show ¬ w.heap.size < wr.heap.size; omega)
      have hx1 : (0 : Int) ≤ (i : Int) := by omega
      have hx2 : (i : Int) < (n : Int) := by omega
      clear hgl hC hg hlen
      go_wp2_with fail
      go_region_held3 (S9 w.heap.size lb i s e m r f t z) (first | exact k3 | exact keep9 k1 (World.grownBy_alloc _ _ none) zB zL (by simp) (by simp) | exact k1 | exact K0.out)
        (first
          | (go_at_call 78; refine (HC1.out _).mono ?_; rintro x wx ⟨rfl, hbx⟩; have k1 := keep9 (by exact K0.out) (grown_none_of_below hbx) (by exact hszl) (by exact hlr) (by simp) (by simp); have zB := Nat.lt_of_lt_of_le (by exact hszl) hbx.size; have zL := Nat.lt_of_lt_of_le (by exact hlr) hbx.size; have hFx := FRow.below (by exact HF.out) hbx (Nat.le_refl _))
          | (refine step_append_lies _ (by rfl) _ _ _ (by rfl) (w.heap.size + 1) 34 i0 _ 2 16 Tryd.underlying27 hi hz0 hz1 hz2 rfl (by omega) (.slice (some ⟨ob, 0, none⟩) i oc) i (((cpnL s e m r).take i).flatMap fc) (by rfl) (by have := hFx.alloc (.cells #[.int .i64 t, .int .i64 C] 34); unfold FRow at this; rw [HLEN.out] at this; exact this)
              ⟨wx.heap.size, 0, none⟩ 1 1 (fc (t, C)) (by rfl) (by rfl) (cell_two wx (t, C) _) (fc_one _) (by omega) (by unfold maxLen; omega) (by omega) (by simp <;> omega) (wx.heap.size + 1) (by simp) ?_; intro gg cap w4 hown1 hgrow hat hlt4; have k3 := keep9 (keep9 k1 (World.grownBy_alloc wx (.cells #[.int .i64 t, .int .i64 C] 34) none) zB zL (by simp) (by simp)) hgrow (by simp <;> omega) (by simp <;> omega) (by simp [Value.ownBlock] <;> omega) (by simp [Value.ownBlock] <;> omega)))
      all_goals
        have HFN : Hid (FRow w4 (w.heap.size + 1) (.slice (some ⟨gg, 0, none⟩) (i + 1) cap) ((cpnL s e m r).take (i + 1))) := Lib.hid (by
          rw [← HTK.out]
          unfold FRow
          rw [flat_take, List.length_append, HLEN.out]
          exact hown1)
        have HRN : Hid (Rd w4 (.slice (some ⟨lb, 0, none⟩) n lc) ps) := Lib.hid (Rd.kept (Rd.kept (Rd.kept (by exact HRr.out) (grown_none_of_below hbx) (by simp)) (World.grownBy_alloc wx (.cells #[.int .i64 t, .int .i64 C] 34) none) (by simp)) hgrow (by simp [Value.ownBlock]; omega))
        have HKN : Hid (w4.cell? ⟨w.heap.size, 0, none⟩ = some (.int .i64 s) ∧ w4.cell? ⟨w.heap.size, 1, none⟩ = some (.int .i64 e) ∧ w4.cell? ⟨w.heap.size, 2, none⟩ = some (.int .i64 m) ∧ w4.cell? ⟨w.heap.size, 3, none⟩ = some (.int .i64 r)) := Lib.hid ⟨k3.1, k3.2.1, k3.2.2.1, k3.2.2.2.1⟩
        have hbw := hbr.drew.trans (hbx.mono hsz)
        have hbw2 := (hbw.alloc hbw.size (.cells #[.int .i64 t, .int .i64 C] 34)).grown hgrow (by have := hbw.size; simp <;> omega) (fun j hj => by simp [Value.ownBlock] at hj; omega)
        have hlb4 : lb < w4.heap.size := by have := hgrow.size; simp at this; omega
        have hgg : w.heap.size < gg ∧ gg ≠ lb := by
          rcases hat with h | h
          · simp [Value.ownBlock] at h; omega
          · have := hbw.size; omega
        clear k1 k3 hown1
        go_wp2_with fail
        go_roundw
        case rel => exact ⟨i + 1, gg, cap, by omega, by go_num, rfl, HFN, HRN, HKN, hbw2, hgg.1, hgg.2, hlb4⟩
        case measure => simp [intOf] <;> omega
    · obtain rfl : i = n := by omega
      have htk : (cpnL s e m r).take i = cpnL s e m r := by rw [← HPS.out]; exact List.take_length
      have HF' : Hid (FRow wr (w.heap.size + 1) (.slice (some ⟨ob, 0, none⟩) i oc) (cpnL s e m r)) := Lib.hid (by have := HF.out; rw [htk] at this; exact this)
      clear htk
      obtain ⟨⟨-, d1⟩, -, d2⟩ := HF'.out.at_ HPS.out (i := i - 1) (by omega)
      obtain ⟨A, hA⟩ : ∃ A, A = ((cpnL s e m r).getD (i - 1) f0).2 := ⟨_, rfl⟩
      rw [← hA] at d1
      obtain ⟨A0, A1⟩ : 0 ≤ A ∧ A ≤ 120000000 := by
        obtain ⟨f, t, z, hg, f0', f1', t1', hA'⟩ := HP.out (i - 1) (by rw [← HN.out]; omega)
        rw [hA, HCL.out, map_at _ ps p0 f0 (by rw [← HN.out]; omega), hg]
        exact cpn_bd z m0 m1 r0 r1 f0' f1' t1' hA'
      have HE : Hid ((cpnL s e m r).set (i - 1) (((cpnL s e m r).getD (i - 1) f0).1, A + 10000) = floL s e m r) := Lib.hid (by
        rw [HFL.out, hA]
        unfold faced
        rw [HPS.out])
      have HFS := Lib.hid (FRow.store2 (show FRow wr (w.heap.size + 1) (.slice (some ⟨ob, 0, none⟩) (cpnL s e m r).length oc) (cpnL s e m r) by rw [HPS.out]; exact HF'.out) (i - 1) (by rw [HPS.out]; omega) (A + 10000))
      clear hA
      have w1' : IntKind.i64.wrap ((i : Int) - 1) = (i : Int) - 1 := IntWalk.i64_in _ (by omega)
      have w2' : ((i : Int) - 1).toNat = i - 1 := by omega
      have i2 : (0 : Int) ≤ (i : Int) - 1 := by omega
      have i3 : (i : Int) - 1 < i := by omega
      go_wp2_with fail
      go_ret
      obtain ⟨h1, h2⟩ := HFS.out
      rw [HE.out, HPS.out] at h1
      exact ⟨_, rfl, ⟨h1.lower (Nat.le_succ _), by simp⟩, hbr.grown h2 hbr.size (fun j hj => by injection hj with hj; omega)⟩
theorem floL_len (s e m r : Int) : (floL s e m r).length = (perL s e m r).length := by unfold floL; rw [faced_len, cpnL_len]
set_option maxRecDepth 8000 in
set_option maxHeartbeats 1000000 in
theorem sFlowsOf_any (s e m r : Int) (w : World) :
    Calls Tryd.prog 25 #[.agg #[.int .i64 s, .int .i64 e, .int .i64 m, .int .i64 r]] w (CollF (floL s e m r) w) := by
  have HV := Lib.hid (sVBond_any s e m r)
  have hB := (Below.refl w.heap.size w).alloc (Nat.le_refl _) (.cells #[.int .i64 s, .int .i64 e, .int .i64 m, .int .i64 r] 24)
  have HB := Lib.hid hB
  have HKB := Lib.hid (Blk.new w #[.int .i64 s, .int .i64 e, .int .i64 m, .int .i64 r] 24)
  have HSZ := Lib.hid (show w.heap.size < (w.alloc (.cells #[.int .i64 s, .int .i64 e, .int .i64 m, .int .i64 r] 24)).heap.size by simp)
  clear hB
  have hl := floL_len s e m r
  cases hv : vbB s e m r with
  | false =>
    have h0 : (perL s e m r).length = 0 := by have : decide (0 < (perL s e m r).length) = false := hv; simpa using this
    have HE : Hid (floL s e m r = []) := Lib.hid (List.eq_nil_of_length_eq_zero (by omega))
    rw [hv] at HV
    clear hv h0 hl
    go_enter Tryd.func25, Tryd.ntmps25
    go_wp2_with fail
    refine (HV.out _).mono ?_
    rintro x w1 ⟨rfl, hb⟩
    have HB1 := Lib.hid hb
    clear hb
    go_wp2_with fail
    go_ret
    exact ⟨_, rfl, by rw [HE.out]; exact FRow.nil _ _, by rw [HE.out]; simp, HB.out.trans (HB1.out.mono (Nat.le_of_lt HSZ.out))⟩
  | true =>
    have h0 : 0 < (perL s e m r).length := by have : decide (0 < (perL s e m r).length) = true := hv; simpa using this
    have hz : perL s e m r ≠ [] := fun h => by rw [h] at h0; simp at h0
    have HF := Lib.hid (fun W => sFlows_any s e m r W hz)
    have HNE : Hid (floL s e m r ≠ []) := Lib.hid (fun h => by rw [h] at hl; simp at hl; omega)
    rw [hv] at HV
    clear hv h0 hl hz
    go_enter Tryd.func25, Tryd.ntmps25
    go_wp2_with fail
    refine (HV.out _).mono ?_
    rintro x w1 ⟨rfl, hb⟩
    obtain ⟨c0, c1, c2, c3⟩ := (HKB.out.below hb HSZ.out).four
    have HB1 := Lib.hid (HB.out.trans (hb.mono (Nat.le_of_lt HSZ.out)))
    clear hb
    go_wp2_with fail
    refine (HF.out _).mono ?_
    rintro x w2 ⟨v, rfl, hp, hb⟩
    have HP := Lib.hid hp
    have HB2 := Lib.hid (HB1.out.trans (hb.mono HB1.out.size))
    clear hp hb
    go_wp2_with fail
    go_ret
    exact ⟨_, rfl, HP.out.1.lower HB1.out.size, ⟨fun h => absurd h HP.out.2, fun h => absurd h HNE.out⟩, HB2.out⟩
end Go.Proofs.YtcckopnpmcbbcaaDoor
