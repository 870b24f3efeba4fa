/- The walks of the exact laws of the calendar. -/
import Derived.Test.YtgjiogdekihhdaaDoorSpec4
namespace Go.Proofs.YtgjiogdekihhdaaDoor
open Go.RowKit
set_option maxHeartbeats 400000 in
theorem exDaysIn (y m : Int) (w : World) (hT : Tab w) :
    Calls Tryd.prog 12 #[.int .i64 y, .int .i64 m] w fun e w' => e = .returned (.bool true) ∧ Below w.heap.size w w' := by
  have HT := Lib.hid hT; clear hT
  go_enter Tryd.func12, Tryd.ntmps12
  go_wp2_with fail
  refine (sDaysIn_top _ _ _).mono ?_
  rintro e w1 ⟨rfl, hb1⟩
  go_wp2_with fail
  refine (implDaysIn_any _ _ _ (HT.out.below hb1 HT.out.pos)).mono ?_
  rintro e w2 ⟨rfl, rfl⟩
  go_wp2_with fail
  go_ret
  exact ⟨rfl, hb1⟩
set_option maxHeartbeats 400000 in
theorem exAddMonths (n k : Int) (w : World) (hT : Tab w) :
    Calls Tryd.prog 16 #[.int .i64 n, .int .i64 k] w fun e w' => e = .returned (.bool true) ∧ Below w.heap.size w w' := by
  have HT := Lib.hid hT; clear hT
  go_enter Tryd.func16, Tryd.ntmps16
  go_wp2_with fail
  refine (sAddMonths_top _ _ _).mono ?_
  rintro e w1 ⟨rfl, hb1⟩
  go_wp2_with fail
  refine (addMonths_any _ _ _ (HT.out.below hb1 HT.out.pos)).mono ?_
  rintro e w2 ⟨rfl, hb2⟩
  go_wp2_with fail
  go_ret
  exact ⟨rfl, hb1.trans (hb2.mono hb1.size)⟩
set_option maxHeartbeats 400000 in
theorem toDate_any (y m d : Int) (w : World) :
    Calls Tryd.prog 32 #[.agg #[.int .i64 y, .int .i64 m, .int .i64 d]] w fun e w' => e = .returned (.agg #[.int .i64 y, .int .i64 m, .int .i64 d]) ∧ Below w.heap.size w w' := by
  go_enter Tryd.func32, Tryd.ntmps32
  go_wp2
  refine bodyPost_ret (v := .agg #[.int .i64 y, .int .i64 m, .int .i64 d]) (by simp [results, Tryd.results32, go_sem]) rfl ⟨rfl, ?_⟩
  exact (((Below.refl _ _).alloc (Nat.le_refl _) _).alloc (by simp) _).alloc (by simp; omega) _
set_option maxHeartbeats 400000 in
theorem exValidDate (y m d : Int) (w : World) (hT : Tab w) :
    Calls Tryd.prog 13 #[.agg #[.int .i64 y, .int .i64 m, .int .i64 d]] w fun e w' => e = .returned (.bool true) ∧ Below w.heap.size w w' := by
  have HT := Lib.hid hT; clear hT
  go_enter Tryd.func13, Tryd.ntmps13
  go_wp2_with fail
  refine (toDate_any _ _ _ _).mono ?_
  rintro e w1 ⟨rfl, hb1⟩
  go_wp2_with fail
  refine (sValidDate_top _ _ _ _).mono ?_
  rintro e w2 ⟨rfl, hb2⟩
  have hb3 : Below (w.heap.size + 1) (w.alloc (.cells #[.int .i64 y, .int .i64 m, .int .i64 d] 36)) w2 := by
    have h1 : Below (w.heap.size + 1) (w.alloc (.cells #[.int .i64 y, .int .i64 m, .int .i64 d] 36)) w1 := by simpa using hb1
    exact h1.trans (hb2.mono (by have := h1.size; simpa using this))
  obtain ⟨⟨x0, x1, x2⟩, _, hsz⟩ := new3 hb3
  clear hb1 hb2
  go_wp2_with fail
  refine (toDate_any _ _ _ _).mono ?_
  rintro e w3 ⟨rfl, hb4⟩
  have hb5 := hb3.trans (hb4.mono hsz)
  have hz := Nat.le_trans hsz hb4.size
  have HT3 := Lib.hid ((HT.out.alloc (.cells #[.int .i64 y, .int .i64 m, .int .i64 d] 36)).below hb5 (by omega))
  clear x0 x1 x2 hb3 hb4
  go_wp2_with fail
  refine (validDate_any _ _ _ _ HT3.out).mono ?_
  rintro e w4 ⟨rfl, hb6⟩
  go_wp2_with fail
  go_ret
  exact ⟨rfl, (((Below.refl _ _).alloc (Nat.le_refl _) _).trans (hb5.mono (by omega))).trans (hb6.mono (by omega))⟩
set_option maxHeartbeats 400000 in
theorem exDayOf (y m d : Int) (w : World) (hT : Tab w) :
    Calls Tryd.prog 14 #[.agg #[.int .i64 y, .int .i64 m, .int .i64 d]] w fun e w' => e = .returned (.bool true) ∧ Below w.heap.size w w' := by
  have HT := Lib.hid hT; clear hT
  go_enter Tryd.func14, Tryd.ntmps14
  go_wp2_with fail
  refine (toDate_any _ _ _ _).mono ?_
  rintro e w1 ⟨rfl, hb1⟩
  go_wp2_with fail
  refine (sDayOf_top _ _ _ _).mono ?_
  rintro e w2 ⟨rfl, hb2⟩
  have hb3 : Below (w.heap.size + 1) (w.alloc (.cells #[.int .i64 y, .int .i64 m, .int .i64 d] 36)) w2 := by
    have h1 : Below (w.heap.size + 1) (w.alloc (.cells #[.int .i64 y, .int .i64 m, .int .i64 d] 36)) w1 := by simpa using hb1
    exact h1.trans (hb2.mono (by have := h1.size; simpa using this))
  obtain ⟨⟨x0, x1, x2⟩, _, hsz⟩ := new3 hb3
  clear hb1 hb2
  go_wp2_with fail
  refine (toDate_any _ _ _ _).mono ?_
  rintro e w3 ⟨rfl, hb4⟩
  have hb5 := hb3.trans (hb4.mono hsz)
  have hz := Nat.le_trans hsz hb4.size
  have HT3 := Lib.hid ((HT.out.alloc (.cells #[.int .i64 y, .int .i64 m, .int .i64 d] 36)).below hb5 (by omega))
  clear x0 x1 x2 hb3 hb4
  go_wp2_with fail
  refine (dayOf_any _ _ _ _ HT3.out).mono ?_
  rintro e w4 ⟨rfl, hb6⟩
  go_wp2_with fail
  go_ret
  exact ⟨rfl, (((Below.refl _ _).alloc (Nat.le_refl _) _).trans (hb5.mono (by omega))).trans (hb6.mono (by omega))⟩
set_option maxHeartbeats 400000 in
theorem eqDate_same (y m d : Int) (w : World) :
    Calls Tryd.prog 33 #[.agg #[.int .i64 y, .int .i64 m, .int .i64 d], .agg #[.int .i64 y, .int .i64 m, .int .i64 d]] w fun e w' => e = .returned (.bool true) ∧ Below w.heap.size w w' := by
  have e1 : (y != y) = false := by simp
  have e2 : (m != m) = false := by simp
  have e3 : (d != d) = false := by simp
  go_enter Tryd.func33, Tryd.ntmps33
  go_wp2_with fail
  go_ret
  exact ⟨rfl, ((Below.refl _ _).alloc (Nat.le_refl _) _).alloc (by simp) _⟩
/-- What an old block of three cells reads as behind a new block. -/
theorem behind3 {w : World} {g : Nat} {a b c : Value} (hg : g + 1 ≤ w.heap.size) (x0 : w.cell? ⟨g, 0, none⟩ = some a) (x1 : w.cell? ⟨g, 1, none⟩ = some b) (x2 : w.cell? ⟨g, 2, none⟩ = some c) (o : Obj) :
    (w.alloc o).cell? ⟨g, 0, none⟩ = some a ∧ (w.alloc o).cell? ⟨g, 1, none⟩ = some b ∧ (w.alloc o).cell? ⟨g, 2, none⟩ = some c := by
  refine ⟨?_, ?_, ?_⟩
  · rw [World.cell?_alloc_lt _ _ ⟨g, 0, none⟩ hg]; exact x0
  · rw [World.cell?_alloc_lt _ _ ⟨g, 1, none⟩ hg]; exact x1
  · rw [World.cell?_alloc_lt _ _ ⟨g, 2, none⟩ hg]; exact x2
set_option maxHeartbeats 400000 in
theorem exDateOf (n : Int) (w : World) (hT : Tab w) :
    Calls Tryd.prog 15 #[.int .i64 n] w fun e w' => e = .returned (.bool true) ∧ Below w.heap.size w w' := by
  have HT := Lib.hid hT; clear hT
  cases hd : dayB n with
  | false =>
    go_enter Tryd.func15, Tryd.ntmps15
    go_wp2_with fail
    refine (sDateOf_no _ _ hd).mono ?_
    rintro e w1 ⟨rfl, hb1⟩
    go_wp2_with fail
    refine (dateOf_no _ _ hd).mono ?_
    rintro e w2 ⟨rfl, hb2⟩
    have hb0 : Below (w1.heap.size + 1) (w1.alloc (.cells #[.int .i64 0, .int .i64 0, .int .i64 0] 28)) w2 := by simpa using hb2
    obtain ⟨⟨x0, x1, x2⟩, _, hsz⟩ := new3 hb0
    obtain ⟨q0, q1, q2⟩ := behind3 hsz x0 x1 x2 (.cells #[.int .i64 0, .int .i64 0, .int .i64 0] 28)
    clear x0 x1 x2
    go_wp2_with (go_at_call 33; refine (eqDate_same _ _ _ _).mono ?_; rintro e w3 ⟨rfl, hb3⟩)
    go_ret
    have z1 := hb1.size
    exact ⟨rfl, (((hb1.alloc hb1.size _).trans (hb0.mono (by omega))).alloc (by omega) _).trans (hb3.mono (by simp; omega))⟩
  | true =>
    go_enter Tryd.func15, Tryd.ntmps15
    go_wp2_with fail
    refine (sDateOf_yes _ _ hd).mono ?_
    rintro e w1 ⟨rfl, hb1⟩
    go_wp2_with fail
    have HT1 := Lib.hid ((HT.out.below hb1 HT.out.pos).alloc (.cells #[.int .i64 (Cal.Y n), .int .i64 (Cal.M n), .int .i64 (Cal.D n)] 28))
    refine (dateOf_yes _ _ HT1.out hd).mono ?_
    rintro e w2 ⟨rfl, hb2⟩
    have hb0 : Below (w1.heap.size + 1) (w1.alloc (.cells #[.int .i64 (Cal.Y n), .int .i64 (Cal.M n), .int .i64 (Cal.D n)] 28)) w2 := by simpa using hb2
    obtain ⟨⟨x0, x1, x2⟩, _, hsz⟩ := new3 hb0
    obtain ⟨q0, q1, q2⟩ := behind3 hsz x0 x1 x2 (.cells #[.int .i64 (Cal.Y n), .int .i64 (Cal.M n), .int .i64 (Cal.D n)] 28)
    clear x0 x1 x2
    go_wp2_with (go_at_call 33; refine (eqDate_same _ _ _ _).mono ?_; rintro e w3 ⟨rfl, hb3⟩)
    go_ret
    have z1 := hb1.size
    exact ⟨rfl, (((hb1.alloc hb1.size _).trans (hb0.mono (by omega))).alloc (by omega) _).trans (hb3.mono (by simp; omega))⟩
end Go.Proofs.YtgjiogdekihhdaaDoor
