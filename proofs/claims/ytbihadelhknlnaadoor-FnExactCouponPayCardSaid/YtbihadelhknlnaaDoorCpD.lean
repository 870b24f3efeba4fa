/- What holders get when a bond pays: the draw. -/
import Derived.Test.YtbihadelhknlnaaDoorCpB
import Derived.Test.YtbihadelhknlnaaDoorZG
namespace Go.Proofs.YtbihadelhknlnaaDoor
open Go.RowKit
def DCp (w : World) (x : Ending) (w' : World) : Prop :=
  ∃ s e m r d : Int, ∃ a c hs, x = .returned (.tuple #[boV s e m r, .slice a hs.length c, .int .i64 d]) ∧ R1o w' (.slice a hs.length c) hs ∧ hs.length ≤ 10 ∧ Below w.heap.size w w'
theorem IntsG.atW {w W : World} {g c : Nat} {a : Option Addr} {xs : List Int} (h : IntsG w g w.heap.size a xs) (hsz : w.heap.size ≤ W.heap.size) (hk : ∀ b, g < b → b < w.heap.size → W.heap[b]? = w.heap[b]?) : R1o W (.slice a xs.length c) xs := by
  refine ⟨⟨a, c, rfl⟩, fun hl => ?_⟩
  obtain ⟨b, off, rfl, hg, hb, hc⟩ := h hl
  exact ⟨b, off, c, rfl, by omega, fun i hi => (World.cell?_of_block (w := w) (w' := W) (a := ⟨b, off + i, none⟩) (hk b hg hb)).trans (hc i hi)⟩
set_option maxRecDepth 8000 in
set_option maxHeartbeats 4000000 in
theorem drawCp_any (w : World) (a : Option Addr) (len cap : Nat) (zs : List Int) (h : IsRow .u8 w a len cap zs) :
    Calls Tryd.prog 5 #[.slice a len cap] w (DCp w) := by
  have H := Lib.hid h; clear h
  have HB0 := Lib.hid ((Below.refl w.heap.size w).alloc (Nat.le_refl _) (.cells #[.int .i64 0, .int .i64 0, .int .i64 0, .int .i64 0] 24))
  have KR0 := Lib.hid (Blk.new w #[.int .i64 0, .int .i64 0, .int .i64 0, .int .i64 0] 24)
  have H1 := Lib.hid (isRow_below' H.out HB0.out)
  go_enter Tryd.func5, Tryd.ntmps5
  go_wp2_with fail
  refine (newReader_any _ _ _ _ _ H1.out).mono ?_
  rintro x w1 ⟨g, rfl, hg, hr, hb⟩
  have KR1 := Lib.hid (KR0.out.below hb KR0.out.lt)
  have HB1 := Lib.hid (HB0.out.trans (hb.mono HB0.out.size))
  have hg0 : w.heap.size < g := Nat.lt_of_lt_of_le KR0.out.lt hg
  clear hb
  go_wp2_with fail
  refine (bondDay_any _ _ _ hr (by omega)).mono ?_
  rintro x w2 ⟨s, e, m, r, d, rfl, -, -, -, -, -, hrd, hg2⟩
  have hgl2 := hrd.lt
  have KR2 := Lib.hid ((KR1.out.grown hg2 (by omega)).alloc (.cells #[.int .i64 s, .int .i64 e, .int .i64 m, .int .i64 r] 24))
  have HBx := Lib.hid (HB1.out.grown hg2 HB1.out.size (fun j hj => by injection hj with hj; omega))
  have HB2 := Lib.hid (HBx.out.alloc HBx.out.size (.cells #[.int .i64 s, .int .i64 e, .int .i64 m, .int .i64 r] 24))
  have KB2 := Lib.hid (Blk.new w2 #[.int .i64 s, .int .i64 e, .int .i64 m, .int .i64 r] 24)
  have HR2 := Lib.hid (hrd.alloc (.cells #[.int .i64 s, .int .i64 e, .int .i64 m, .int .i64 r] 24))
  clear hg2 hrd hr HB1 KR1
  go_wp2_with fail
  refine (anyHolders_any _ _ _ HR2.out (by omega)).mono ?_
  rintro x w3 ⟨a3, c3, hs, rfl, hI3, hl3, hc3, hr3, hg3, -⟩
  have HI3 := Lib.hid (hI3.r1p (cap := c3) (Nat.le_refl _))
  have HIg := Lib.hid hI3
  have hs2 : w2.heap.size + 1 ≤ w3.heap.size := by have := hg3.size; simpa using this
  have KR3 := Lib.hid (KR2.out.grown hg3 (by omega))
  have KB3 := Lib.hid (KB2.out.grown hg3 (by omega))
  have HB3 := Lib.hid (HB2.out.grown hg3 HB2.out.size (fun j hj => by injection hj with hj; omega))
  have HR3 := Lib.hid hr3
  obtain ⟨b0, b1, b2, b3⟩ := KB3.out.four
  clear hg3 hr3 hI3 KR2 KB2 HB2 HR2
  go_wp2_with fail
  refine (sFlowsOf_any s e m r w3).mono ?_
  rintro x w4 ⟨v, rfl, hv, -, hb4⟩
  have HI4 := Lib.hid (HI3.out.below hb4 (Nat.le_refl _))
  have KR4 := Lib.hid (KR3.out.below hb4 KR3.out.lt)
  have KB4 := Lib.hid (KB3.out.below hb4 KB3.out.lt)
  have HB4 := Lib.hid (HB3.out.trans (hb4.mono HB3.out.size))
  have hs4 := hb4.size
  have HW4 := Lib.hid (fun b (_ : g < b) (hbl : b < w3.heap.size) => hb4.block b hbl)
  have HR4 := Lib.hid (HR3.out.below hb4 HR3.out.lt)
  obtain ⟨⟨a4, cap4, rfl⟩, hcell⟩ := hv.rd
  have HC := Lib.hid hcell
  have HLt := Lib.hid (World.ownsRow.lt hv)
  clear hcell hv hb4 b0 b1 b2 b3
  have hl40 : (floL s e m r).length ≤ 40 := by rw [floL_len]; exact perL_len s e m r
  generalize floL s e m r = fs at HC hl40
  obtain ⟨n, hn⟩ : ∃ n, n = fs.length := ⟨_, rfl⟩
  rw [← hn] at hl40 ⊢
  have HN := Lib.hid hn
  clear hn
  by_cases hz : 0 < n
  · have hz0 : (0 : Int) < n := by omega
    have hn40 : (n : Int) ≤ 40 := by omega
    go_wp2_with fail
    refine (pick_any _ _ _ _ HR4.out (by omega) (by omega) (by omega)).mono ?_
    rintro x w5 ⟨y, rfl, ⟨hy, -⟩, hr5, hg5⟩
    obtain ⟨y0, y1⟩ := hy (by omega)
    clear hy
    have hs5 := hg5.size
    have HG5 := Lib.hid hg5
    have KR5 := Lib.hid (KR4.out.grown hg5 (by omega))
    have KB5 := Lib.hid (KB4.out.grown hg5 (by omega))
    have HB5 := Lib.hid (HB4.out.grown hg5 HB4.out.size (fun j hj => by injection hj with hj; omega))
    have HW5 := Lib.hid (fun b (h1 : g < b) (h2 : b < w3.heap.size) => (hg5.block b (by omega) (fun e => by injection e; omega)).trans (HW4.out b h1 h2))
    have HR5 := Lib.hid hr5
    clear hg5 hr5
    by_cases hy : 0 < y
    · have hd1 := decide_eq_true hy
      go_wp2_with fail
      refine (pick_any _ _ _ _ HR5.out (by omega) (by omega) (by omega)).mono ?_
      rintro x w6 ⟨y2, rfl, ⟨hy2, -⟩, hr6, hg6⟩
      obtain ⟨y20, y21⟩ := hy2 (by omega)
      clear hy2 hr6
      obtain ⟨k, rfl⟩ : ∃ k : Nat, y2 = k := ⟨y2.toNat, by omega⟩
      obtain ⟨bf, c', e', hbl, hc⟩ := HC.out (by rw [← HN.out]; omega)
      rw [← HN.out] at e'
      simp only [Value.slice.injEq, true_and] at e'
      obtain ⟨rfl, rfl⟩ := e'
      have hbf := (HLt.out bf rfl).1
      have hgl3 := HR3.out.lt
      obtain ⟨q0, -⟩ := hc k (by rw [← HN.out]; omega)
      have q1 := (World.cell?_of_block (w := w4) (w' := w5) (a := ⟨bf, k * 2, none⟩) (HG5.out.block bf hbl (fun e => by injection e; omega))).trans q0
      have q2 := (World.cell?_of_block (w := w5) (w' := w6) (a := ⟨bf, k * 2, none⟩) (hg6.block bf (by omega) (fun e => by injection e; omega))).trans q1
      clear hc q0 q1
      generalize (fs.getD k f0).1 = D at q2
      have hs6 := hg6.size
      have KR6 := Lib.hid (KR5.out.grown hg6 (by omega))
      have KB6 := Lib.hid (KB5.out.grown hg6 (by omega))
      have HB6 := Lib.hid (HB5.out.grown hg6 HB5.out.size (fun j hj => by injection hj with hj; omega))
      have HW6 := Lib.hid (fun b (h1 : g < b) (h2 : b < w3.heap.size) => (hg6.block b (by omega) (fun e => by injection e; omega)).trans (HW5.out b h1 h2))
      clear hg6
      have hi1 : (k : Int) < n := by omega
      obtain ⟨b0, b1, b2, b3⟩ := KB6.out.four
      obtain ⟨x0, x1, x2, x3⟩ := KR6.out.four
      obtain ⟨z0, z1, z2, z3⟩ := fourFz KR6.out
      go_wp2_with fail
      have k2 := put4_blk KR6.out s e m r
      obtain ⟨r0', r1', r2', r3'⟩ := k2.four
      unfold put4 at r0' r1' r2' r3'
      refine bodyPost_ret (v := .tuple #[boV s e m r, .slice a3 hs.length c3, .int .i64 D]) (by simp [results, Tryd.results5, go_sem, r0', r1', r2', r3']) rfl ⟨s, e, m, r, D, a3, c3, hs, rfl, ?_, hl3, ?_⟩
      · refine HIg.out.atW (by simp; omega) (fun b hgb hbl => ?_)
        rw [Below.heap_setCell _ _ _ _ (show b ≠ w.heap.size by omega), Below.heap_setCell _ _ _ _ (show b ≠ w.heap.size by omega), Below.heap_setCell _ _ _ _ (show b ≠ w.heap.size by omega), Below.heap_setCell _ _ _ _ (show b ≠ w.heap.size by omega)]
        exact HW6.out b hgb hbl
      · repeat (refine Below.setCell ?_ (by simp) _)
        exact HB6.out
    · have hd1 := decide_eq_false hy
      obtain ⟨b0, b1, b2, b3⟩ := KB5.out.four
      obtain ⟨x0, x1, x2, x3⟩ := KR5.out.four
      obtain ⟨z0, z1, z2, z3⟩ := fourFz KR5.out
      go_wp2_with fail
      have k2 := put4_blk KR5.out s e m r
      obtain ⟨r0', r1', r2', r3'⟩ := k2.four
      unfold put4 at r0' r1' r2' r3'
      refine bodyPost_ret (v := .tuple #[boV s e m r, .slice a3 hs.length c3, .int .i64 d]) (by simp [results, Tryd.results5, go_sem, r0', r1', r2', r3']) rfl ⟨s, e, m, r, d, a3, c3, hs, rfl, ?_, hl3, ?_⟩
      · refine HIg.out.atW (by simp; omega) (fun b hgb hbl => ?_)
        rw [Below.heap_setCell _ _ _ _ (show b ≠ w.heap.size by omega), Below.heap_setCell _ _ _ _ (show b ≠ w.heap.size by omega), Below.heap_setCell _ _ _ _ (show b ≠ w.heap.size by omega), Below.heap_setCell _ _ _ _ (show b ≠ w.heap.size by omega)]
        exact HW5.out b hgb hbl
      · repeat (refine Below.setCell ?_ (by simp) _)
        exact HB5.out
  · obtain rfl : n = 0 := by omega
    have hz1 : decide ((0 : Int) < ((0 : Nat) : Int)) = false := rfl
    obtain ⟨b0, b1, b2, b3⟩ := KB4.out.four
    obtain ⟨x0, x1, x2, x3⟩ := KR4.out.four
    obtain ⟨z0, z1, z2, z3⟩ := fourFz KR4.out
    go_wp2_with fail
    have k2 := put4_blk KR4.out s e m r
    obtain ⟨r0', r1', r2', r3'⟩ := k2.four
    unfold put4 at r0' r1' r2' r3'
    refine bodyPost_ret (v := .tuple #[boV s e m r, .slice a3 hs.length c3, .int .i64 d]) (by simp [results, Tryd.results5, go_sem, r0', r1', r2', r3']) rfl ⟨s, e, m, r, d, a3, c3, hs, rfl, ?_, hl3, ?_⟩
    · refine HIg.out.atW (by simp; omega) (fun b hgb hbl => ?_)
      rw [Below.heap_setCell _ _ _ _ (show b ≠ w.heap.size by omega), Below.heap_setCell _ _ _ _ (show b ≠ w.heap.size by omega), Below.heap_setCell _ _ _ _ (show b ≠ w.heap.size by omega), Below.heap_setCell _ _ _ _ (show b ≠ w.heap.size by omega)]
      exact HW4.out b hgb hbl
    · repeat (refine Below.setCell ?_ (by simp) _)
      exact HB4.out
end Go.Proofs.YtbihadelhknlnaaDoor
