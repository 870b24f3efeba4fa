/- The next payment: program, model. -/
import Derived.Test.YtkdooncfchmkfaaDoorLAfm
namespace Go.Proofs.YtkdooncfchmkfaaDoor
open Go.RowKit
/-- The next payment. -/
def nxtP (fs : List Flo) : Flo := fs.getD 0 f0
def nxtB (fs : List Flo) : Bool := decide (0 < fs.length)
abbrev nxtV (fs : List Flo) : Value := .tuple #[.agg #[.int .i64 (nxtP fs).1, .int .i64 (nxtP fs).2], .bool (nxtB fs)]
theorem blkSetB {W : World} {g : Nat} {T : TypeId} {x y : Value} (h : Blk W g T #[x, y]) (p : Value) : Blk (W.setCell ⟨g, 0, none⟩ p) g T #[p, y] := by
  unfold Blk at *
  simp only [World.setCell, Array.getElem?_modify, if_true, h]
  simp
theorem blkSetA {W : World} {g : Nat} {T : TypeId} {x y : Value} (h : Blk W g T #[x, y]) (q : Value) : Blk (W.setCell ⟨g, 1, none⟩ q) g T #[x, q] := by
  unfold Blk at *
  simp only [World.setCell, Array.getElem?_modify, if_true, h]
  simp
set_option maxRecDepth 8000 in
set_option maxHeartbeats 1000000 in
theorem nextFlow_any (s e m r d : Int) (w : World) (hT : Tab w) :
    Calls Tryd.prog 21 #[.agg #[.int .i64 s, .int .i64 e, .int .i64 m, .int .i64 r], .int .i64 d] w fun x w' => x = .returned (nxtV (aftL (floL s e m r) d)) ∧ Below w.heap.size w w' := by
  have HF := Lib.hid (after_any s e m r d)
  have hl40 : (aftL (floL s e m r) d).length ≤ 40 := Nat.le_trans (aft_len _ _) (by rw [floL_len]; exact perL_len s e m r)
  have HT1 := Lib.hid ((hT.alloc (.cells #[.int .i64 s, .int .i64 e, .int .i64 m, .int .i64 r] 27)).alloc (.cells #[.int .i64 0, .int .i64 0] 39))
  clear hT
  have kB := (Blk.new w #[.int .i64 s, .int .i64 e, .int .i64 m, .int .i64 r] 27).alloc (.cells #[.int .i64 0, .int .i64 0] 39)
  have kR := Blk.new (w.alloc (.cells #[.int .i64 s, .int .i64 e, .int .i64 m, .int .i64 r] 27)) #[.int .i64 0, .int .i64 0] 39
  have hB := ((Below.refl w.heap.size w).alloc (Nat.le_refl _) (.cells #[.int .i64 s, .int .i64 e, .int .i64 m, .int .i64 r] 27)).alloc (by simp) (.cells #[.int .i64 0, .int .i64 0] 39)
  simp only [World.size_alloc] at kR
  unfold AftL at HF
  generalize aftL (floL s e m r) d = ps at HF hl40 ⊢
  generalize floL s e m r = fs0 at HF
  obtain ⟨c0, c1, c2, c3⟩ := kB.four
  go_enter Tryd.func21, Tryd.ntmps21
  go_wp2_with fail
  refine (HF.out _ HT1.out).mono ?_
  rintro x w1 ⟨v, rfl, hr, -, hb⟩
  have hBB := hB.trans (hb.mono (by simp <;> omega))
  have kR1 := kR.below hb (by simp)
  obtain ⟨⟨r0, r1⟩, z0, z1⟩ := kR1.two
  have hlt := kR1.lt
  obtain ⟨⟨a, c, rfl⟩, hcell⟩ := hr.rd
  clear c0 c1 c2 c3 hr kB kR
  obtain ⟨n, hn⟩ : ∃ n, n = ps.length := ⟨_, rfl⟩
  have HV : Hid (nxtV ps = .tuple #[.agg #[.int .i64 (ps.getD 0 f0).1, .int .i64 (ps.getD 0 f0).2], .bool (decide (0 < n))]) := Lib.hid (by rw [hn]; rfl)
  rw [← hn] at hl40 hcell ⊢
  by_cases hz : 0 < n
  · obtain ⟨b, c', ex, hbl, hc⟩ := hcell hz
    simp only [Value.slice.injEq, true_and] at ex
    obtain ⟨rfl, rfl⟩ := ex
    obtain ⟨y0, y1⟩ := hc 0 hz
    simp only [Nat.zero_mul, Nat.zero_add] at y0 y1
    rw [decide_eq_true hz] at HV
    clear hc hcell hb
    generalize ps.getD 0 f0 = p at HV y0 y1
    obtain ⟨D, A⟩ := p
    dsimp only at y0 y1 HV
    have e1 : ((n : Int) == 0) = false := by simp; omega
    have i1 : (0 : Int) < n := by omega
    have HBB := Lib.hid hBB
    clear hBB
    go_wp2_with fail
    have kR2 := blkSetA (blkSetB kR1 (.int .i64 D)) (.int .i64 A)
    obtain ⟨⟨x0, x1⟩, -⟩ := kR2.two
    refine bodyPost_ret (v := .tuple #[.agg #[.int .i64 D, .int .i64 A], .bool true]) (by simp [results, Tryd.results21, go_sem, x0, x1]) rfl ⟨by rw [HV.out], ?_⟩
    repeat (refine Below.setCell ?_ (by simp) _)
    exact HBB.out
  · have e1 : ((n : Int) == 0) = true := by simp; omega
    have hE : ps = [] := List.eq_nil_of_length_eq_zero (by omega)
    rw [decide_eq_false hz, hE] at HV
    have HBB := Lib.hid hBB
    clear hBB hcell hb
    go_wp2_with fail
    have kR2 := blkSetA (blkSetB kR1 (.int .i64 0)) (.int .i64 0)
    obtain ⟨⟨x0, x1⟩, -⟩ := kR2.two
    refine bodyPost_ret (v := .tuple #[.agg #[.int .i64 0, .int .i64 0], .bool false]) (by simp [results, Tryd.results21, go_sem, x0, x1]) rfl ⟨by rw [hE, HV.out]; rfl, ?_⟩
    repeat (refine Below.setCell ?_ (by simp) _)
    exact HBB.out
end Go.Proofs.YtkdooncfchmkfaaDoor
