/- The walks of the program's parts of years. -/
import Derived.Test.YtgncgbaoijcinaaDoorYp
import Derived.Test.YtgncgbaoijcinaaDoorSpan
import Derived.Test.YtgncgbaoijcinaaDoorRw5
import Derived.Laws.EntriesVeiled
namespace Go.Proofs.YtgncgbaoijcinaaDoor
open Go.RowKit
set_option maxHeartbeats 400000 in
theorem cntFixed_any (x y : Int) (w : World) (h0 : 0 ≤ x) (h : x ≤ y) (h1 : y ≤ 36524) :
    Calls Tryd.prog 29 #[.int .i64 x, .int .i64 y] w fun e w' => e = .returned (.tuple #[.int .i64 (y - x), .int .i64 365]) ∧ w = w' := by
  go_enter Tryd.func29, Tryd.ntmps29
  go_wp2_with fail
  go_ret2
  exact ⟨rfl, rfl⟩
set_option maxHeartbeats 400000 in
theorem cntMoney_any (x y : Int) (w : World) (h0 : 0 ≤ x) (h : x ≤ y) (h1 : y ≤ 36524) :
    Calls Tryd.prog 30 #[.int .i64 x, .int .i64 y] w fun e w' => e = .returned (.tuple #[.int .i64 (y - x), .int .i64 360]) ∧ w = w' := by
  go_enter Tryd.func30, Tryd.ntmps30
  go_wp2_with fail
  go_ret2
  exact ⟨rfl, rfl⟩
theorem Blk.cell3 {w w' : World} {b : Nat} {t : TypeId} {cs : Array Value} (h : Blk w b t cs) (i : Nat) (v : Value) (h2 : w' = w.setCell ⟨b, i, none⟩ v) : Blk w' b t (cs.setIfInBounds i v) := by
  subst h2
  unfold Blk at h ⊢
  simp only [World.setCell]
  rw [Array.getElem?_modify, if_pos rfl, h]
  rfl
set_option maxHeartbeats 1000000 in
theorem cntThirty_any (x y : Int) (w : World) (hT : Tab w) (h0 : 0 ≤ x) (h : x ≤ y) (h1 : y ≤ 36524) :
    Calls Tryd.prog 31 #[.int .i64 x, .int .i64 y] w fun e w' => e = .returned (.tuple #[.int .i64 (Yp.thirty x y), .int .i64 360]) ∧ Below w.heap.size w w' := by
  have HT := Lib.hid hT; clear hT
  have HX := Lib.hid (show dayB x = true from btw_t h0 (by omega))
  have HY := Lib.hid (show dayB y = true from btw_t (by omega) h1)
  have yx := Cal.Y_bd h0 (by omega)
  have yy := Cal.Y_bd (n := y) (by omega) h1
  have mx := Cal.M_bd h0 (by omega)
  have my := Cal.M_bd (n := y) (by omega) h1
  have dx := Cal.D_bd h0 (by omega)
  have dy := Cal.D_bd (n := y) (by omega) h1
  have ex : Yp.thirty x y = 360 * (Cal.Y y - Cal.Y x) + 30 * (Cal.M y - Cal.M x) + (if min (Cal.D x) 30 = 30 then min (Cal.D y) 30 else Cal.D y) - min (Cal.D x) 30 := rfl
  have HE := Lib.hid ex; clear ex
  obtain ⟨yx0, yx1⟩ := yx
  obtain ⟨yy0, yy1⟩ := yy
  obtain ⟨mx0, mx1⟩ := mx
  obtain ⟨my0, my1⟩ := my
  obtain ⟨dx0, _, dx1⟩ := dx
  obtain ⟨dy0, _, dy1⟩ := dy
  go_enter Tryd.func31, Tryd.ntmps31
  go_wp2_with fail
  refine (dateOf_yes _ _ HT.out HX.out).mono ?_
  rintro e w1 ⟨rfl, hb1⟩
  have HT1 := Lib.hid ((HT.out.below hb1 HT.out.pos).alloc (.cells #[.int .i64 (Cal.Y x), .int .i64 (Cal.M x), .int .i64 (Cal.D x)] 59))
  have kA := Blk.new w1 #[.int .i64 (Cal.Y x), .int .i64 (Cal.M x), .int .i64 (Cal.D x)] 59
  have hB1 := hb1.alloc hb1.size (.cells #[.int .i64 (Cal.Y x), .int .i64 (Cal.M x), .int .i64 (Cal.D x)] 59)
  go_wp2_with fail
  refine (dateOf_yes _ _ HT1.out HY.out).mono ?_
  rintro e w2 ⟨rfl, hb2⟩
  replace kA := kA.below hb2 kA.lt
  have hB2 := (hB1.trans (hb2.mono hB1.size)).alloc (hB1.trans (hb2.mono hB1.size)).size (.cells #[.int .i64 (Cal.Y y), .int .i64 (Cal.M y), .int .i64 (Cal.D y)] 59)
  have hlt : w1.heap.size < w2.heap.size := by have := hb2.size; simp at this; omega
  have hs1 : w.heap.size ≤ w1.heap.size := hb1.size
  obtain ⟨⟨a0, a1, a2⟩, fa0, fa1, fa2⟩ := kA.three
  have hset : ∀ v : Int, (w2.setCell ⟨w1.heap.size, 2, none⟩ (.int .i64 v)).cell? ⟨w1.heap.size, 0, none⟩ = some (.int .i64 (Cal.Y x)) ∧ (w2.setCell ⟨w1.heap.size, 2, none⟩ (.int .i64 v)).cell? ⟨w1.heap.size, 1, none⟩ = some (.int .i64 (Cal.M x)) ∧ (w2.setCell ⟨w1.heap.size, 2, none⟩ (.int .i64 v)).cell? ⟨w1.heap.size, 2, none⟩ = some (.int .i64 v) := fun v => by
    have k : Blk (w2.setCell ⟨w1.heap.size, 2, none⟩ (.int .i64 v)) w1.heap.size 59 #[.int .i64 (Cal.Y x), .int .i64 (Cal.M x), .int .i64 v] := kA.cell3 2 (.int .i64 v) rfl
    exact k.three.1
  have HS := Lib.hid hset
  have hb2' := hb2
  clear kA hb1 hb2 hset
  rcases Int.lt_trichotomy (Cal.D x) 30 with c1 | c1 | c1
  · have q : (Cal.D x == 30) = false := by simp; omega
    have HF := Lib.hid (show Yp.thirty x y = 360 * (Cal.Y y - Cal.Y x) + 30 * (Cal.M y - Cal.M x) + Cal.D y - Cal.D x by rw [HE.out]; rw [if_neg (by omega)]; omega)
    obtain ⟨s0, s1, s2⟩ := HS.out (Cal.D x)
    go_wp2_with fail
    go_ret2
    exact ⟨by rw [HF.out]; rfl, by first | exact hB2 | (refine Below.alloc (Below.setCell (hB1.trans (hb2'.mono hB1.size)) hs1 _) (by simp; omega) _)⟩
  · have q : (Cal.D x == 30) = true := by simp [c1]
    have c2 : Cal.D x ≤ 30 := by omega
    have C1 := Lib.hid c1; clear c1
    by_cases d1 : 30 < Cal.D y
    · have HF := Lib.hid (show Yp.thirty x y = 360 * (Cal.Y y - Cal.Y x) + 30 * (Cal.M y - Cal.M x) + 30 - Cal.D x by rw [HE.out]; have := C1.out; rw [if_pos (by omega)]; omega)
      obtain ⟨s0, s1, s2⟩ := HS.out (Cal.D x)
      go_wp2_with fail
      go_ret2
      exact ⟨by rw [HF.out]; rfl, by first | exact hB2 | (refine Below.alloc (Below.setCell (hB1.trans (hb2'.mono hB1.size)) hs1 _) (by simp; omega) _)⟩
    · have HF := Lib.hid (show Yp.thirty x y = 360 * (Cal.Y y - Cal.Y x) + 30 * (Cal.M y - Cal.M x) + Cal.D y - Cal.D x by rw [HE.out]; have := C1.out; rw [if_pos (by omega)]; omega)
      obtain ⟨s0, s1, s2⟩ := HS.out (Cal.D x)
      go_wp2_with fail
      go_ret2
      exact ⟨by rw [HF.out]; rfl, by first | exact hB2 | (refine Below.alloc (Below.setCell (hB1.trans (hb2'.mono hB1.size)) hs1 _) (by simp; omega) _)⟩
  · by_cases d1 : 30 < Cal.D y
    · have HF := Lib.hid (show Yp.thirty x y = 360 * (Cal.Y y - Cal.Y x) + 30 * (Cal.M y - Cal.M x) by rw [HE.out]; rw [if_pos (by omega)]; omega)
      obtain ⟨s0, s1, s2⟩ := HS.out (30)
      go_wp2_with fail
      go_ret2
      exact ⟨by rw [HF.out]; rfl, by first | exact hB2 | (refine Below.alloc (Below.setCell (hB1.trans (hb2'.mono hB1.size)) hs1 _) (by simp; omega) _)⟩
    · have HF := Lib.hid (show Yp.thirty x y = 360 * (Cal.Y y - Cal.Y x) + 30 * (Cal.M y - Cal.M x) + Cal.D y - 30 by rw [HE.out]; rw [if_pos (by omega)]; omega)
      obtain ⟨s0, s1, s2⟩ := HS.out (30)
      go_wp2_with fail
      go_ret2
      exact ⟨by rw [HF.out]; rfl, by first | exact hB2 | (refine Below.alloc (Below.setCell (hB1.trans (hb2'.mono hB1.size)) hs1 _) (by simp; omega) _)⟩
end Go.Proofs.YtgncgbaoijcinaaDoor
