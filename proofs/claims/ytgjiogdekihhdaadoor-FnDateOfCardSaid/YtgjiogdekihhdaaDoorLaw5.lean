/- The walk of the law of numbers and dates. -/
import Derived.Test.YtgjiogdekihhdaaDoorDraw3
import Derived.Test.YtgjiogdekihhdaaDoorMath1
namespace Go.Proofs.YtgjiogdekihhdaaDoor
open Go.RowKit
set_option maxHeartbeats 4000000 in
theorem lawDateOf (a : Option Addr) (len cap : Nat) (zs : List Int) (w : World) (h : IsRow .u8 w a len cap zs) (hT : Tab w) :
    Calls Tryd.prog 6 #[.slice a len cap] w fun e w' => e = .returned (.bool true) ∧ Below w.heap.size w w' := by
  have H := Lib.hid h; clear h
  have HT := Lib.hid hT; clear hT
  by_cases hl : 1048576 < (len : Int)
  · go_enter Tryd.func6, Tryd.ntmps6
    go_wp2_with fail
    go_ret
    exact ⟨rfl, Below.refl _ _⟩
  · have hl' := decide_eq_false hl
    clear hl
    go_enter Tryd.func6, Tryd.ntmps6
    go_wp2_with fail
    refine (drawDateOf_any _ _ _ _ _ H.out).mono ?_
    rintro e w1 ⟨n, rfl, ⟨nn0, nn1⟩, hb1⟩
    cases hd : dayB n with
    | false =>
      have HD := Lib.hid hd; clear hd
      go_wp2_with fail
      refine (dateOf_no _ _ HD.out).mono ?_
      rintro e w2 ⟨rfl, hb2⟩
      have hbA := hb1.trans (hb2.mono hb1.size)
      have kA := Blk.new w2 #[.int .i64 0, .int .i64 0, .int .i64 0] 28
      replace hbA := hbA.alloc hbA.size (.cells #[.int .i64 0, .int .i64 0, .int .i64 0] 28)
      go_wp2_with fail
      refine (sDateOf_no _ _ HD.out).mono ?_
      rintro e w3 ⟨rfl, hb3⟩
      replace kA := kA.below hb3 kA.lt
      replace hbA := hbA.trans (hb3.mono hbA.size)
      obtain ⟨⟨x0, x1, x2⟩, _, _⟩ := kA.three
      have hlt : w2.heap.size < w3.heap.size := kA.lt
      have hs := hbA.size
      go_wp2_with fail
      go_ret
      exact ⟨ret_bool (by simp), hbA.alloc hs _⟩
    | true =>
      have q := btw_iff.1 hd
      obtain ⟨n0, n1⟩ := q
      have HD := Lib.hid hd; clear hd
      have HT1 := Lib.hid (HT.out.below hb1 HT.out.pos)
      have HN := Lib.hid (dayV_dt n0 n1)
      have hnx : n < 36524 → (Cal.Y (n + 1) = Cal.Y n ∧ Cal.M (n + 1) = Cal.M n ∧ Cal.D (n + 1) = Cal.D n + 1) ∨ (Cal.Y (n + 1) = Cal.Y n ∧ Cal.M n < Cal.M (n + 1)) ∨ Cal.Y n < Cal.Y (n + 1) := by
        intro hlt
        rcases next_date n0 hlt with h | ⟨h1, _, _⟩
        · exact .inl h
        · have m1 := Cal.M_bd n0 n1
          have m2 := Cal.M_bd (n := n + 1) (by omega) (by omega)
          rcases Int.lt_trichotomy (Cal.Y n) (Cal.Y (n + 1)) with c | c | c
          · exact .inr (.inr c)
          · exact .inr (.inl ⟨c.symm, by omega⟩)
          · omega
      have HX := Lib.hid hnx; clear hnx
      have yb := Cal.Y_bd n0 n1
      have mb := Cal.M_bd n0 n1
      have db := Cal.D_bd n0 n1
      obtain ⟨yb1, yb2⟩ := yb
      obtain ⟨mb1, mb2⟩ := mb
      obtain ⟨db1, _, db2⟩ := db
      have hc1 : dayB (n + 1) = decide (n < 36524) := by unfold dayB btw; rw [decide_eq_decide]; omega
      have HC1 := Lib.hid hc1; clear hc1
      go_wp2_with fail
      refine (dateOf_yes _ _ HT1.out HD.out).mono ?_
      rintro e w2 ⟨rfl, hb2⟩
      have hbA := hb1.trans (hb2.mono hb1.size)
      have kA := Blk.new w2 #[.int .i64 (Cal.Y n), .int .i64 (Cal.M n), .int .i64 (Cal.D n)] 28
      have HT2 := Lib.hid ((HT1.out.below hb2 HT1.out.pos).alloc (.cells #[.int .i64 (Cal.Y n), .int .i64 (Cal.M n), .int .i64 (Cal.D n)] 28))
      replace hbA := hbA.alloc hbA.size (.cells #[.int .i64 (Cal.Y n), .int .i64 (Cal.M n), .int .i64 (Cal.D n)] 28)
      go_wp2_with fail
      refine (sDateOf_yes _ _ HD.out).mono ?_
      rintro e w3 ⟨rfl, hb3⟩
      replace kA := kA.below hb3 kA.lt
      replace hbA := hbA.trans (hb3.mono hbA.size)
      obtain ⟨⟨x0, x1, x2⟩, _, _⟩ := kA.three
      have hlt : w2.heap.size < w3.heap.size := kA.lt
      have HT3 := Lib.hid ((HT2.out.below hb3 HT2.out.pos).alloc (.cells #[.int .i64 (Cal.Y n), .int .i64 (Cal.M n), .int .i64 (Cal.D n)] 28))
      have hs := hbA.size
      go_wp2_with fail
      replace hbA := hbA.alloc hs (.cells #[.int .i64 (Cal.Y n), .int .i64 (Cal.M n), .int .i64 (Cal.D n)] 28)
      replace kA := kA.alloc (.cells #[.int .i64 (Cal.Y n), .int .i64 (Cal.M n), .int .i64 (Cal.D n)] 28)
      by_cases hm : n < 36524
      · have HM := Lib.hid (show dayB (n + 1) = true by rw [HC1.out]; simp [hm])
        refine (dateOf_yes _ _ HT3.out HM.out).mono ?_
        rintro e w4 ⟨rfl, hb4⟩
        replace kA := kA.below hb4 kA.lt
        replace hbA := hbA.trans (hb4.mono hbA.size)
        clear x0 x1 x2
        obtain ⟨⟨x0, x1, x2⟩, _, _⟩ := kA.three
        have hlt2 : w2.heap.size < w4.heap.size := kA.lt
        have hs2 := hbA.size
        have HT4 := Lib.hid ((HT3.out.below hb4 HT3.out.pos).alloc (.cells #[.int .i64 (Cal.Y (n + 1)), .int .i64 (Cal.M (n + 1)), .int .i64 (Cal.D (n + 1))] 28))
        replace hbA := hbA.alloc hs2 (.cells #[.int .i64 (Cal.Y (n + 1)), .int .i64 (Cal.M (n + 1)), .int .i64 (Cal.D (n + 1))] 28)
        have hm' := decide_eq_true hm
        have hx := HX.out hm
        have HNd := Lib.hid (fun W (hW : Tab W) => dayOf_any (Cal.Y n) (Cal.M n) (Cal.D n) W hW)
        generalize Cal.Y (n + 1) = ye at *
        generalize Cal.M (n + 1) = me at *
        generalize Cal.D (n + 1) = de at *
        generalize Cal.Y n = yn at *
        generalize Cal.M n = mn at *
        generalize Cal.D n = dn at *
        rcases hx with ⟨rfl, rfl, rfl⟩ | ⟨rfl, c⟩ | c
        all_goals
          go_wp2_with (go_at_call 23; refine (dayOf_any _ _ _ _ HT4.out).mono ?_; rw [HN.out]; rintro e w5 ⟨rfl, hb5⟩)
          go_ret
          exact ⟨ret_bool (by simp), hbA.trans (hb5.mono hbA.size)⟩
      · have HM := Lib.hid (show dayB (n + 1) = false by rw [HC1.out]; simp [hm])
        refine (dateOf_no _ _ HM.out).mono ?_
        rintro e w4 ⟨rfl, hb4⟩
        replace kA := kA.below hb4 kA.lt
        replace hbA := hbA.trans (hb4.mono hbA.size)
        clear x0 x1 x2
        obtain ⟨⟨x0, x1, x2⟩, _, _⟩ := kA.three
        have hlt2 : w2.heap.size < w4.heap.size := kA.lt
        have hs2 := hbA.size
        have HT4 := Lib.hid ((HT3.out.below hb4 HT3.out.pos).alloc (.cells #[.int .i64 0, .int .i64 0, .int .i64 0] 28))
        replace hbA := hbA.alloc hs2 (.cells #[.int .i64 0, .int .i64 0, .int .i64 0] 28)
        have hm' := decide_eq_false hm
        generalize Cal.Y n = yn at *
        generalize Cal.M n = mn at *
        generalize Cal.D n = dn at *
        go_wp2_with (go_at_call 23; refine (dayOf_any _ _ _ _ HT4.out).mono ?_; rw [HN.out]; rintro e w5 ⟨rfl, hb5⟩)
        go_ret
        exact ⟨ret_bool (by simp), hbA.trans (hb5.mono hbA.size)⟩
end Go.Proofs.YtgjiogdekihhdaaDoor
