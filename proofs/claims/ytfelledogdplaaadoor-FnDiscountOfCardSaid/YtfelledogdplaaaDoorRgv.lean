/- The walks of the program's ranges: the functions that the laws call. -/
import Derived.Test.YtfelledogdplaaaDoorRgz
namespace Go.Proofs.YtfelledogdplaaaDoor
open Go.RowKit
theorem neqNil (W : World) : (binOp .neq 45 .nilIface .nilIface).run Tryd.prog W = .ok (.bool false) W := run_neq_nil_nil _ _ (by kernel_rfl)
theorem neqErr (a : Addr) (W : World) : (binOp .neq 45 (erV a) .nilIface).run Tryd.prog W = .ok (.bool true) W := run_neq_held_nil _ _ _ _ (by kernel_rfl)
theorem Blk.set2 {W : World} {g : Nat} {T : TypeId} {x y : Value} (h : Blk W g T #[x, y]) (p q : Value) : Blk ((W.setCell ⟨g, 0, none⟩ p).setCell ⟨g, 1, none⟩ q) g T #[p, q] := by
  unfold Blk at *
  simp only [World.setCell, Array.getElem?_modify, if_true, h]
  simp
theorem Blk.set {W : World} {g : Nat} {T : TypeId} {cs : Array Value} (h : Blk W g T cs) {q : Addr} (hq : g ≠ q.block) (u : Value) : Blk (W.setCell q u) g T cs := by
  unfold Blk at *
  simp only [World.setCell, Array.getElem?_modify]
  rw [if_neg (fun e => hq e.symm), h]
theorem good_cases {r : Rg.R} (h : Rg.Good r) : (∃ m n, r = (m, n, true)) ∨ r = Rg.no := by
  rcases h with ⟨h, _⟩ | h
  · left; obtain ⟨x, y, z⟩ := r; exact ⟨x, y, by simp at h; rw [h]⟩
  · exact .inr h
theorem tv_yes {r : Rg.R} {m n : Int} (h : r = (m, n, true)) : tv r = .tuple #[rV m n, .bool true] := by rw [h]
theorem tv_no {r : Rg.R} (h : r = Rg.no) : tv r = .tuple #[rV 0 0, .bool false] := by rw [h]; rfl
theorem accept_yes (a : Addr) (m n : Int) (w : World) (hS : Sen a w) : Calls Tryd.prog 22 #[rV m n, .nilIface] w fun e w' => e = .returned (.tuple #[rV m n, .bool true]) ∧ Below w.heap.size w w' :=
  acceptedV_any a m n true w hS
theorem accept_no (a : Addr) (w : World) (hS : Sen a w) : Calls Tryd.prog 22 #[rV 0 0, erV a] w fun e w' => e = .returned (.tuple #[rV 0 0, .bool false]) ∧ Below w.heap.size w w' :=
  acceptedV_any a 0 0 false w hS
set_option maxHeartbeats 1000000 in
theorem mulRange_any (a : Addr) (p q r s : Int) (w : World) (hS : Sen a w) :
    Calls Tryd.prog 10 #[rV p q, rV r s] w fun e w' => e = .returned (tv (Rg.mul p q r s)) ∧ Below w.heap.size w w' := by
  have kR := Blk.new ((w.alloc (.cells #[.int .i64 p, .int .i64 q] 26)).alloc (.cells #[.int .i64 r, .int .i64 s] 26)) #[.int .i64 0, .int .i64 0] 26
  have hbA := (((Below.refl w.heap.size w).alloc (Nat.le_refl _) (.cells #[.int .i64 p, .int .i64 q] 26)).alloc (by simp) (.cells #[.int .i64 r, .int .i64 s] 26)).alloc (by simp; omega) (.cells #[.int .i64 0, .int .i64 0] 26)
  simp only [World.size_alloc] at kR
  have hp := hS.pos
  rcases good_cases (Rg.good_mul p q r s) with ⟨m, n, hr⟩ | hr
  · have PL : ∀ W : World, Sen a W → Calls Tryd.prog 23 #[rV p q, rV r s] W fun e w' => e = .returned (.tuple #[rV m n, .nilIface]) ∧ Below W.heap.size W w' := fun W hW => by
      have := times_any a p q r s W hW
      rw [te_yes hr] at this
      exact this
    have E := Lib.hid (tv_yes hr)
    have P := Lib.hid PL
    clear hr PL
    go_enter Tryd.func10, Tryd.ntmps10
    go_wp2_with fail
    refine (P.out _ (hS.below hbA hp)).mono ?_
    rintro e w1 ⟨rfl, hb1⟩
    replace kR := kR.below hb1 (by simp)
    replace hbA := hbA.trans (hb1.mono hbA.size)
    go_wp2_with fail
    refine (accept_yes a m n _ (hS.below hbA hp)).mono ?_
    rintro e w2 ⟨rfl, hb2⟩
    replace kR := kR.below hb2 kR.lt
    replace hbA := hbA.trans (hb2.mono hbA.size)
    obtain ⟨⟨r0, r1⟩, f0, f1⟩ := kR.two
    go_wp2_with fail
    refine bodyPost_ret (v := .tuple #[rV m n, .bool true]) (by simp [results, Tryd.results10, go_sem, r0, r1]) rfl ⟨by rw [E.out], ?_⟩
    repeat (first | exact Below.refl _ _ | exact hbA | refine Below.drew ?_ | refine Below.setCell ?_ (by simp <;> omega) _ | refine Below.alloc ?_ (by simp <;> omega) _)
  · have PL : ∀ W : World, Sen a W → Calls Tryd.prog 23 #[rV p q, rV r s] W fun e w' => e = .returned (.tuple #[rV 0 0, erV a]) ∧ Below W.heap.size W w' := fun W hW => by
      have := times_any a p q r s W hW
      rw [te_no hr] at this
      exact this
    have E := Lib.hid (tv_no hr)
    have P := Lib.hid PL
    clear hr PL
    go_enter Tryd.func10, Tryd.ntmps10
    go_wp2_with fail
    refine (P.out _ (hS.below hbA hp)).mono ?_
    rintro e w1 ⟨rfl, hb1⟩
    replace kR := kR.below hb1 (by simp)
    replace hbA := hbA.trans (hb1.mono hbA.size)
    go_wp2_with fail
    refine (accept_no a _ (hS.below hbA hp)).mono ?_
    rintro e w2 ⟨rfl, hb2⟩
    replace kR := kR.below hb2 kR.lt
    replace hbA := hbA.trans (hb2.mono hbA.size)
    obtain ⟨⟨r0, r1⟩, f0, f1⟩ := kR.two
    go_wp2_with fail
    refine bodyPost_ret (v := .tuple #[rV 0 0, .bool false]) (by simp [results, Tryd.results10, go_sem, r0, r1]) rfl ⟨by rw [E.out], ?_⟩
    repeat (first | exact Below.refl _ _ | exact hbA | refine Below.drew ?_ | refine Below.setCell ?_ (by simp <;> omega) _ | refine Below.alloc ?_ (by simp <;> omega) _)
set_option maxHeartbeats 1000000 in
theorem divRange_any (a : Addr) (p q r s : Int) (w : World) (hS : Sen a w) :
    Calls Tryd.prog 25 #[rV p q, rV r s] w fun e w' => e = .returned (tv (Rg.div p q r s)) ∧ Below w.heap.size w w' := by
  have kR := Blk.new ((w.alloc (.cells #[.int .i64 p, .int .i64 q] 26)).alloc (.cells #[.int .i64 r, .int .i64 s] 26)) #[.int .i64 0, .int .i64 0] 26
  have hbA := (((Below.refl w.heap.size w).alloc (Nat.le_refl _) (.cells #[.int .i64 p, .int .i64 q] 26)).alloc (by simp) (.cells #[.int .i64 r, .int .i64 s] 26)).alloc (by simp; omega) (.cells #[.int .i64 0, .int .i64 0] 26)
  simp only [World.size_alloc] at kR
  have hp := hS.pos
  rcases good_cases (Rg.good_div p q r s) with ⟨m, n, hr⟩ | hr
  · have PL : ∀ W : World, Sen a W → Calls Tryd.prog 39 #[rV p q, rV r s] W fun e w' => e = .returned (.tuple #[rV m n, .nilIface]) ∧ Below W.heap.size W w' := fun W hW => by
      have := over_any a p q r s W hW
      rw [te_yes hr] at this
      exact this
    have E := Lib.hid (tv_yes hr)
    have P := Lib.hid PL
    clear hr PL
    go_enter Tryd.func25, Tryd.ntmps25
    go_wp2_with fail
    refine (P.out _ (hS.below hbA hp)).mono ?_
    rintro e w1 ⟨rfl, hb1⟩
    replace kR := kR.below hb1 (by simp)
    replace hbA := hbA.trans (hb1.mono hbA.size)
    go_wp2_with fail
    refine (accept_yes a m n _ (hS.below hbA hp)).mono ?_
    rintro e w2 ⟨rfl, hb2⟩
    replace kR := kR.below hb2 kR.lt
    replace hbA := hbA.trans (hb2.mono hbA.size)
    obtain ⟨⟨r0, r1⟩, f0, f1⟩ := kR.two
    go_wp2_with fail
    refine bodyPost_ret (v := .tuple #[rV m n, .bool true]) (by simp [results, Tryd.results25, go_sem, r0, r1]) rfl ⟨by rw [E.out], ?_⟩
    repeat (first | exact Below.refl _ _ | exact hbA | refine Below.drew ?_ | refine Below.setCell ?_ (by simp <;> omega) _ | refine Below.alloc ?_ (by simp <;> omega) _)
  · have PL : ∀ W : World, Sen a W → Calls Tryd.prog 39 #[rV p q, rV r s] W fun e w' => e = .returned (.tuple #[rV 0 0, erV a]) ∧ Below W.heap.size W w' := fun W hW => by
      have := over_any a p q r s W hW
      rw [te_no hr] at this
      exact this
    have E := Lib.hid (tv_no hr)
    have P := Lib.hid PL
    clear hr PL
    go_enter Tryd.func25, Tryd.ntmps25
    go_wp2_with fail
    refine (P.out _ (hS.below hbA hp)).mono ?_
    rintro e w1 ⟨rfl, hb1⟩
    replace kR := kR.below hb1 (by simp)
    replace hbA := hbA.trans (hb1.mono hbA.size)
    go_wp2_with fail
    refine (accept_no a _ (hS.below hbA hp)).mono ?_
    rintro e w2 ⟨rfl, hb2⟩
    replace kR := kR.below hb2 kR.lt
    replace hbA := hbA.trans (hb2.mono hbA.size)
    obtain ⟨⟨r0, r1⟩, f0, f1⟩ := kR.two
    go_wp2_with fail
    refine bodyPost_ret (v := .tuple #[rV 0 0, .bool false]) (by simp [results, Tryd.results25, go_sem, r0, r1]) rfl ⟨by rw [E.out], ?_⟩
    repeat (first | exact Below.refl _ _ | exact hbA | refine Below.drew ?_ | refine Below.setCell ?_ (by simp <;> omega) _ | refine Below.alloc ?_ (by simp <;> omega) _)
def inB (p q n : Int) : Bool := Rg.vr p q && btw n p q
end Go.Proofs.YtfelledogdplaaaDoor
