/- The walks of the program's ranges: the functions that the laws call. -/
import Derived.Test.YtcoljkafbpnpnaaDoorRgz
namespace Go.Proofs.YtcoljkafbpnpnaaDoor
open Go.RowKit
theorem neqNil (W : World) : (binOp .neq 45 .nilIface .nilIface).run Tryd.prog W = .ok (.bool false) W := run_neq_nil_nil _ _ (by kernel_rfl)
theorem neqErr (a : Addr) (W : World) : (binOp .neq 45 (erV a) .nilIface).run Tryd.prog W = .ok (.bool true) W := run_neq_held_nil _ _ _ _ (by kernel_rfl)
theorem Blk.set2 {W : World} {g : Nat} {T : TypeId} {x y : Value} (h : Blk W g T #[x, y]) (p q : Value) : Blk ((W.setCell ⟨g, 0, none⟩ p).setCell ⟨g, 1, none⟩ q) g T #[p, q] := by
  unfold Blk at *
  simp only [World.setCell, Array.getElem?_modify, if_true, h]
  simp
theorem Blk.set {W : World} {g : Nat} {T : TypeId} {cs : Array Value} (h : Blk W g T cs) {q : Addr} (hq : g ≠ q.block) (u : Value) : Blk (W.setCell q u) g T cs := by
  unfold Blk at *
  simp only [World.setCell, Array.getElem?_modify]
  rw [if_neg (fun e => hq e.symm), h]
theorem good_cases {r : Rg.R} (h : Rg.Good r) : (∃ m n, r = (m, n, true)) ∨ r = Rg.no := by
  rcases h with ⟨h, _⟩ | h
  · left; obtain ⟨x, y, z⟩ := r; exact ⟨x, y, by simp at h; rw [h]⟩
  · exact .inr h
theorem tv_yes {r : Rg.R} {m n : Int} (h : r = (m, n, true)) : tv r = .tuple #[rV m n, .bool true] := by rw [h]
theorem tv_no {r : Rg.R} (h : r = Rg.no) : tv r = .tuple #[rV 0 0, .bool false] := by rw [h]; rfl
theorem accept_yes (a : Addr) (m n : Int) (w : World) (hS : Sen a w) : Calls Tryd.prog 33 #[rV m n, .nilIface] w fun e w' => e = .returned (.tuple #[rV m n, .bool true]) ∧ Below w.heap.size w w' :=
  acceptedV_any a m n true w hS
theorem accept_no (a : Addr) (w : World) (hS : Sen a w) : Calls Tryd.prog 33 #[rV 0 0, erV a] w fun e w' => e = .returned (.tuple #[rV 0 0, .bool false]) ∧ Below w.heap.size w w' :=
  acceptedV_any a 0 0 false w hS
set_option maxHeartbeats 1000000 in
theorem addRange_any (a : Addr) (p q r s : Int) (w : World) (hS : Sen a w) :
    Calls Tryd.prog 16 #[rV p q, rV r s] w fun e w' => e = .returned (tv (Rg.add p q r s)) ∧ Below w.heap.size w w' := by
  have kR := Blk.new ((w.alloc (.cells #[.int .i64 p, .int .i64 q] 24)).alloc (.cells #[.int .i64 r, .int .i64 s] 24)) #[.int .i64 0, .int .i64 0] 24
  have hbA := (((Below.refl w.heap.size w).alloc (Nat.le_refl _) (.cells #[.int .i64 p, .int .i64 q] 24)).alloc (by simp) (.cells #[.int .i64 r, .int .i64 s] 24)).alloc (by simp; omega) (.cells #[.int .i64 0, .int .i64 0] 24)
  simp only [World.size_alloc] at kR
  have hp := hS.pos
  rcases good_cases (Rg.good_add p q r s) with ⟨m, n, hr⟩ | hr
  · have PL : ∀ W : World, Sen a W → Calls Tryd.prog 34 #[rV p q, rV r s] W fun e w' => e = .returned (.tuple #[rV m n, .nilIface]) ∧ Below W.heap.size W w' := fun W hW => by
      have := plus_any a p q r s W hW
      rw [te_yes hr] at this
      exact this
    have E := Lib.hid (tv_yes hr)
    have P := Lib.hid PL
    clear hr PL
    go_enter Tryd.func16, Tryd.ntmps16
    go_wp2_with fail
    refine (P.out _ (hS.below hbA hp)).mono ?_
    rintro e w1 ⟨rfl, hb1⟩
    replace kR := kR.below hb1 (by simp)
    replace hbA := hbA.trans (hb1.mono hbA.size)
    go_wp2_with fail
    refine (accept_yes a m n _ (hS.below hbA hp)).mono ?_
    rintro e w2 ⟨rfl, hb2⟩
    replace kR := kR.below hb2 kR.lt
    replace hbA := hbA.trans (hb2.mono hbA.size)
    obtain ⟨⟨r0, r1⟩, f0, f1⟩ := kR.two
    go_wp2_with fail
    refine bodyPost_ret (v := .tuple #[rV m n, .bool true]) (by simp [results, Tryd.results16, go_sem, r0, r1]) rfl ⟨by rw [E.out], ?_⟩
    repeat (first | exact Below.refl _ _ | exact hbA | refine Below.drew ?_ | refine Below.setCell ?_ (by simp <;> omega) _ | refine Below.alloc ?_ (by simp <;> omega) _)
  · have PL : ∀ W : World, Sen a W → Calls Tryd.prog 34 #[rV p q, rV r s] W fun e w' => e = .returned (.tuple #[rV 0 0, erV a]) ∧ Below W.heap.size W w' := fun W hW => by
      have := plus_any a p q r s W hW
      rw [te_no hr] at this
      exact this
    have E := Lib.hid (tv_no hr)
    have P := Lib.hid PL
    clear hr PL
    go_enter Tryd.func16, Tryd.ntmps16
    go_wp2_with fail
    refine (P.out _ (hS.below hbA hp)).mono ?_
    rintro e w1 ⟨rfl, hb1⟩
    replace kR := kR.below hb1 (by simp)
    replace hbA := hbA.trans (hb1.mono hbA.size)
    go_wp2_with fail
    refine (accept_no a _ (hS.below hbA hp)).mono ?_
    rintro e w2 ⟨rfl, hb2⟩
    replace kR := kR.below hb2 kR.lt
    replace hbA := hbA.trans (hb2.mono hbA.size)
    obtain ⟨⟨r0, r1⟩, f0, f1⟩ := kR.two
    go_wp2_with fail
    refine bodyPost_ret (v := .tuple #[rV 0 0, .bool false]) (by simp [results, Tryd.results16, go_sem, r0, r1]) rfl ⟨by rw [E.out], ?_⟩
    repeat (first | exact Below.refl _ _ | exact hbA | refine Below.drew ?_ | refine Below.setCell ?_ (by simp <;> omega) _ | refine Below.alloc ?_ (by simp <;> omega) _)
set_option maxHeartbeats 1000000 in
theorem mulRange_any (a : Addr) (p q r s : Int) (w : World) (hS : Sen a w) :
    Calls Tryd.prog 20 #[rV p q, rV r s] w fun e w' => e = .returned (tv (Rg.mul p q r s)) ∧ Below w.heap.size w w' := by
  have kR := Blk.new ((w.alloc (.cells #[.int .i64 p, .int .i64 q] 24)).alloc (.cells #[.int .i64 r, .int .i64 s] 24)) #[.int .i64 0, .int .i64 0] 24
  have hbA := (((Below.refl w.heap.size w).alloc (Nat.le_refl _) (.cells #[.int .i64 p, .int .i64 q] 24)).alloc (by simp) (.cells #[.int .i64 r, .int .i64 s] 24)).alloc (by simp; omega) (.cells #[.int .i64 0, .int .i64 0] 24)
  simp only [World.size_alloc] at kR
  have hp := hS.pos
  rcases good_cases (Rg.good_mul p q r s) with ⟨m, n, hr⟩ | hr
  · have PL : ∀ W : World, Sen a W → Calls Tryd.prog 39 #[rV p q, rV r s] W fun e w' => e = .returned (.tuple #[rV m n, .nilIface]) ∧ Below W.heap.size W w' := fun W hW => by
      have := times_any a p q r s W hW
      rw [te_yes hr] at this
      exact this
    have E := Lib.hid (tv_yes hr)
    have P := Lib.hid PL
    clear hr PL
    go_enter Tryd.func20, Tryd.ntmps20
    go_wp2_with fail
    refine (P.out _ (hS.below hbA hp)).mono ?_
    rintro e w1 ⟨rfl, hb1⟩
    replace kR := kR.below hb1 (by simp)
    replace hbA := hbA.trans (hb1.mono hbA.size)
    go_wp2_with fail
    refine (accept_yes a m n _ (hS.below hbA hp)).mono ?_
    rintro e w2 ⟨rfl, hb2⟩
    replace kR := kR.below hb2 kR.lt
    replace hbA := hbA.trans (hb2.mono hbA.size)
    obtain ⟨⟨r0, r1⟩, f0, f1⟩ := kR.two
    go_wp2_with fail
    refine bodyPost_ret (v := .tuple #[rV m n, .bool true]) (by simp [results, Tryd.results20, go_sem, r0, r1]) rfl ⟨by rw [E.out], ?_⟩
    repeat (first | exact Below.refl _ _ | exact hbA | refine Below.drew ?_ | refine Below.setCell ?_ (by simp <;> omega) _ | refine Below.alloc ?_ (by simp <;> omega) _)
  · have PL : ∀ W : World, Sen a W → Calls Tryd.prog 39 #[rV p q, rV r s] W fun e w' => e = .returned (.tuple #[rV 0 0, erV a]) ∧ Below W.heap.size W w' := fun W hW => by
      have := times_any a p q r s W hW
      rw [te_no hr] at this
      exact this
    have E := Lib.hid (tv_no hr)
    have P := Lib.hid PL
    clear hr PL
    go_enter Tryd.func20, Tryd.ntmps20
    go_wp2_with fail
    refine (P.out _ (hS.below hbA hp)).mono ?_
    rintro e w1 ⟨rfl, hb1⟩
    replace kR := kR.below hb1 (by simp)
    replace hbA := hbA.trans (hb1.mono hbA.size)
    go_wp2_with fail
    refine (accept_no a _ (hS.below hbA hp)).mono ?_
    rintro e w2 ⟨rfl, hb2⟩
    replace kR := kR.below hb2 kR.lt
    replace hbA := hbA.trans (hb2.mono hbA.size)
    obtain ⟨⟨r0, r1⟩, f0, f1⟩ := kR.two
    go_wp2_with fail
    refine bodyPost_ret (v := .tuple #[rV 0 0, .bool false]) (by simp [results, Tryd.results20, go_sem, r0, r1]) rfl ⟨by rw [E.out], ?_⟩
    repeat (first | exact Below.refl _ _ | exact hbA | refine Below.drew ?_ | refine Below.setCell ?_ (by simp <;> omega) _ | refine Below.alloc ?_ (by simp <;> omega) _)
set_option maxHeartbeats 1000000 in
theorem divRange_any (a : Addr) (p q r s : Int) (w : World) (hS : Sen a w) :
    Calls Tryd.prog 24 #[rV p q, rV r s] w fun e w' => e = .returned (tv (Rg.div p q r s)) ∧ Below w.heap.size w w' := by
  have kR := Blk.new ((w.alloc (.cells #[.int .i64 p, .int .i64 q] 24)).alloc (.cells #[.int .i64 r, .int .i64 s] 24)) #[.int .i64 0, .int .i64 0] 24
  have hbA := (((Below.refl w.heap.size w).alloc (Nat.le_refl _) (.cells #[.int .i64 p, .int .i64 q] 24)).alloc (by simp) (.cells #[.int .i64 r, .int .i64 s] 24)).alloc (by simp; omega) (.cells #[.int .i64 0, .int .i64 0] 24)
  simp only [World.size_alloc] at kR
  have hp := hS.pos
  rcases good_cases (Rg.good_div p q r s) with ⟨m, n, hr⟩ | hr
  · have PL : ∀ W : World, Sen a W → Calls Tryd.prog 41 #[rV p q, rV r s] W fun e w' => e = .returned (.tuple #[rV m n, .nilIface]) ∧ Below W.heap.size W w' := fun W hW => by
      have := over_any a p q r s W hW
      rw [te_yes hr] at this
      exact this
    have E := Lib.hid (tv_yes hr)
    have P := Lib.hid PL
    clear hr PL
    go_enter Tryd.func24, Tryd.ntmps24
    go_wp2_with fail
    refine (P.out _ (hS.below hbA hp)).mono ?_
    rintro e w1 ⟨rfl, hb1⟩
    replace kR := kR.below hb1 (by simp)
    replace hbA := hbA.trans (hb1.mono hbA.size)
    go_wp2_with fail
    refine (accept_yes a m n _ (hS.below hbA hp)).mono ?_
    rintro e w2 ⟨rfl, hb2⟩
    replace kR := kR.below hb2 kR.lt
    replace hbA := hbA.trans (hb2.mono hbA.size)
    obtain ⟨⟨r0, r1⟩, f0, f1⟩ := kR.two
    go_wp2_with fail
    refine bodyPost_ret (v := .tuple #[rV m n, .bool true]) (by simp [results, Tryd.results24, go_sem, r0, r1]) rfl ⟨by rw [E.out], ?_⟩
    repeat (first | exact Below.refl _ _ | exact hbA | refine Below.drew ?_ | refine Below.setCell ?_ (by simp <;> omega) _ | refine Below.alloc ?_ (by simp <;> omega) _)
  · have PL : ∀ W : World, Sen a W → Calls Tryd.prog 41 #[rV p q, rV r s] W fun e w' => e = .returned (.tuple #[rV 0 0, erV a]) ∧ Below W.heap.size W w' := fun W hW => by
      have := over_any a p q r s W hW
      rw [te_no hr] at this
      exact this
    have E := Lib.hid (tv_no hr)
    have P := Lib.hid PL
    clear hr PL
    go_enter Tryd.func24, Tryd.ntmps24
    go_wp2_with fail
    refine (P.out _ (hS.below hbA hp)).mono ?_
    rintro e w1 ⟨rfl, hb1⟩
    replace kR := kR.below hb1 (by simp)
    replace hbA := hbA.trans (hb1.mono hbA.size)
    go_wp2_with fail
    refine (accept_no a _ (hS.below hbA hp)).mono ?_
    rintro e w2 ⟨rfl, hb2⟩
    replace kR := kR.below hb2 kR.lt
    replace hbA := hbA.trans (hb2.mono hbA.size)
    obtain ⟨⟨r0, r1⟩, f0, f1⟩ := kR.two
    go_wp2_with fail
    refine bodyPost_ret (v := .tuple #[rV 0 0, .bool false]) (by simp [results, Tryd.results24, go_sem, r0, r1]) rfl ⟨by rw [E.out], ?_⟩
    repeat (first | exact Below.refl _ _ | exact hbA | refine Below.drew ?_ | refine Below.setCell ?_ (by simp <;> omega) _ | refine Below.alloc ?_ (by simp <;> omega) _)
def inB (p q n : Int) : Bool := Rg.vr p q && btw n p q
set_option maxHeartbeats 1000000 in
theorem inR_any (p q n : Int) (w : World) :
    Calls Tryd.prog 18 #[rV p q, .int .i64 n] w fun e w' => e = .returned (.bool (inB p q n)) ∧ Below w.heap.size w w' := by
  have kA := Blk.new w #[.int .i64 p, .int .i64 q] 24
  have hbA := (Below.refl w.heap.size w).alloc (Nat.le_refl _) (.cells #[.int .i64 p, .int .i64 q] 24)
  cases hv : Rg.vr p q with
  | false =>
    have E := Lib.hid (show inB p q n = false by unfold inB; rw [hv]; rfl)
    go_enter Tryd.func18, Tryd.ntmps18
    go_wp2_with fail
    refine (validR_any _ _ _).mono ?_
    rintro e w1 ⟨rfl, hb1⟩
    replace hbA := hbA.trans (hb1.mono hbA.size)
    go_wp2_with fail
    go_ret
    exact ⟨ret_bool E.out.symm, hbA⟩
  | true =>
    have E := Lib.hid (show inB p q n = btw n p q by unfold inB; rw [hv]; rfl)
    go_enter Tryd.func18, Tryd.ntmps18
    go_wp2_with fail
    refine (validR_any _ _ _).mono ?_
    rintro e w1 ⟨rfl, hb1⟩
    replace kA := kA.below hb1 kA.lt
    replace hbA := hbA.trans (hb1.mono hbA.size)
    obtain ⟨⟨x0, x1⟩, _, _⟩ := kA.two
    go_wp2_with fail
    refine (between_any _ _ _ _).mono ?_
    rintro e w2 ⟨rfl, rfl⟩
    go_wp2_with fail
    go_ret
    exact ⟨ret_bool E.out.symm, hbA⟩

set_option maxHeartbeats 2000000 in
theorem power_any (a : Addr) (p q n : Int) (w : World) (hS : Sen a w) :
    Calls Tryd.prog 44 #[rV p q, .int .i64 n] w fun e w' => e = .returned (te a (Rg.pow p q n)) ∧ Below w.heap.size w w' := by
  have kA := (Blk.new w #[.int .i64 p, .int .i64 q] 24).alloc (.cells #[.int .i64 0, .int .i64 0] 24)
  have kR := Blk.new (w.alloc (.cells #[.int .i64 p, .int .i64 q] 24)) #[.int .i64 0, .int .i64 0] 24
  have hbA := ((Below.refl w.heap.size w).alloc (Nat.le_refl _) (.cells #[.int .i64 p, .int .i64 q] 24)).alloc (by simp) (.cells #[.int .i64 0, .int .i64 0] 24)
  simp only [World.size_alloc] at kA kR
  have hp := hS.pos
  cases hv : Rg.vr p q with
  | false =>
    have E := Lib.hid (te_no (a := a) (Rg.pow_no (a := p) (b := q) (n := n) (Rg.pok_f (fun k => by rw [hv] at k; cases k.1))))
    go_enter Tryd.func44, Tryd.ntmps44
    go_wp2_with fail
    refine (validR_any _ _ _).mono ?_
    rintro e w1 ⟨rfl, hb1⟩
    replace kA := kA.below hb1 (by simp <;> omega)
    replace kR := kR.below hb1 (by simp)
    replace hbA := hbA.trans (hb1.mono hbA.size)
    obtain ⟨⟨x0, x1⟩, _, _⟩ := kA.two
    have s0 := (hS.below hbA hp).cell
    obtain ⟨⟨r0, r1⟩, f0, f1⟩ := kR.two
    go_wp2_with fail
    go_region
    go_wp2_with fail
    refine bodyPost_ret (v := .tuple #[rV 0 0, erV a]) (by simp [results, Tryd.results44, go_sem, r0, r1]) rfl ⟨by rw [E.out], ?_⟩
    repeat (first | exact Below.refl _ _ | exact hbA | refine Below.drew ?_ | refine Below.setCell ?_ (by simp <;> omega) _ | refine Below.alloc ?_ (by simp <;> omega) _)
  | true =>
    by_cases c1 : p < 0
    · have d1 := decide_eq_true c1
      have E := Lib.hid (te_no (a := a) (Rg.pow_no (a := p) (b := q) (n := n) (Rg.pok_f (fun k => by omega))))
      go_enter Tryd.func44, Tryd.ntmps44
      go_wp2_with fail
      refine (validR_any _ _ _).mono ?_
      rintro e w1 ⟨rfl, hb1⟩
      replace kA := kA.below hb1 (by simp <;> omega)
      replace kR := kR.below hb1 (by simp)
      replace hbA := hbA.trans (hb1.mono hbA.size)
      obtain ⟨⟨x0, x1⟩, _, _⟩ := kA.two
      have s0 := (hS.below hbA hp).cell
      obtain ⟨⟨r0, r1⟩, f0, f1⟩ := kR.two
      go_wp2_with fail
      go_region
      go_wp2_with fail
      refine bodyPost_ret (v := .tuple #[rV 0 0, erV a]) (by simp [results, Tryd.results44, go_sem, r0, r1]) rfl ⟨by rw [E.out], ?_⟩
      repeat (first | exact Below.refl _ _ | exact hbA | refine Below.drew ?_ | refine Below.setCell ?_ (by simp <;> omega) _ | refine Below.alloc ?_ (by simp <;> omega) _)
    · have d1 := decide_eq_false c1
      cases hb : btw n 0 40 with
      | false =>
        have E := Lib.hid (te_no (a := a) (Rg.pow_no (a := p) (b := q) (n := n) (Rg.pok_f (fun k => by have := btw_iff_f.1 hb; omega))))
        go_enter Tryd.func44, Tryd.ntmps44
        go_wp2_with fail
        refine (validR_any _ _ _).mono ?_
        rintro e w1 ⟨rfl, hb1⟩
        replace kA := kA.below hb1 (by simp <;> omega)
        replace kR := kR.below hb1 (by simp)
        replace hbA := hbA.trans (hb1.mono hbA.size)
        obtain ⟨⟨x0, x1⟩, _, _⟩ := kA.two
        have s0 := (hS.below hbA hp).cell
        obtain ⟨⟨r0, r1⟩, f0, f1⟩ := kR.two
        go_wp2_with fail
        refine (between_any _ _ _ _).mono ?_
        rw [hb]
        rintro e w2 ⟨rfl, rfl⟩
        go_wp2_with fail
        go_region
        go_wp2_with fail
        refine bodyPost_ret (v := .tuple #[rV 0 0, erV a]) (by simp [results, Tryd.results44, go_sem, r0, r1]) rfl ⟨by rw [E.out], ?_⟩
        repeat (first | exact Below.refl _ _ | exact hbA | refine Below.drew ?_ | refine Below.setCell ?_ (by simp <;> omega) _ | refine Below.alloc ?_ (by simp <;> omega) _)
      | true =>
        obtain ⟨n0, n1⟩ := btw_iff.1 hb
        have E := Lib.hid (Rg.pow_yes' (Rg.pok_iff.2 ⟨hv, by omega, n0, n1⟩))
        obtain ⟨N, rfl⟩ := Int.eq_ofNat_of_zero_le n0
        have q1 := fun W => neqNil W
        have q2 := fun W => neqErr a W
        simp only [Int.toNat_natCast] at E
        go_enter Tryd.func44, Tryd.ntmps44
        go_wp2_with fail
        refine (validR_any _ _ _).mono ?_
        rintro e w1 ⟨rfl, hb1⟩
        replace kA := kA.below hb1 (by simp <;> omega)
        replace kR := kR.below hb1 (by simp)
        replace hbA := hbA.trans (hb1.mono hbA.size)
        obtain ⟨⟨x0, x1⟩, _, _⟩ := kA.two
        have s0 := (hS.below hbA hp).cell
        obtain ⟨⟨r0, r1⟩, f0, f1⟩ := kR.two
        go_wp2_with fail
        refine (between_any _ _ _ _).mono ?_
        rw [hb]
        rintro e w2 ⟨rfl, rfl⟩
        go_wp2_with fail
        refine (exactly_any _ _).mono ?_
        rintro e w2 ⟨rfl, hb2⟩
        have kP := Blk.new w2 #[.int .i64 1000000, .int .i64 1000000] 24
        replace kA := (kA.below hb2 kA.lt).alloc (.cells #[.int .i64 1000000, .int .i64 1000000] 24)
        have hl2 : w.heap.size + 1 < w2.heap.size := (kR.below hb2 kR.lt).lt
        replace kR := (kR.below hb2 kR.lt).alloc (.cells #[.int .i64 1000000, .int .i64 1000000] 24)
        replace hbA := hbA.trans (hb2.mono hbA.size)
        have hsz := hbA.size
        replace hbA := hbA.alloc hsz (.cells #[.int .i64 1000000, .int .i64 1000000] 24)
        clear x0 x1 s0 r0 r1 f0 f1 hb1 hb2
        go_wp2_with fail
        go_loopw [26] (fun x wr => ∃ (i : Nat) (u v : Int), i ≤ N ∧ x = .int .i64 i ∧ Hid (Rg.pw p q i = (u, v, true)) ∧ Hid (Blk wr w2.heap.size 24 #[.int .i64 u, .int .i64 v]) ∧ Hid (Blk wr w.heap.size 24 #[.int .i64 p, .int .i64 q]) ∧ Hid (Blk wr (w.heap.size + 1) 24 #[.int .i64 0, .int .i64 0]) ∧ Hid (Below w.heap.size w wr)) (fun x _ => N - (intOf x).toNat)
        case atStart => exact ⟨0, 1000000, 1000000, by omega, rfl, Lib.hid rfl, Lib.hid kP, Lib.hid kA, Lib.hid kR, Lib.hid hbA⟩
        case round =>
          obtain ⟨i, u, v, hi, rfl, HW, HP, HA, HR, HB⟩ := hrel
          by_cases hlt : i < N
          · have kp := HP.out
            have ka := HA.out
            have kr := HR.out
            have kb := HB.out
            obtain ⟨⟨u0, u1⟩, uf0, uf1⟩ := kp.two
            obtain ⟨⟨a0, a1⟩, _, _⟩ := ka.two
            have hS' := hS.below kb hp
            have hbs := kb.size
            have hps := kp.lt
            rcases good_cases (Rg.good_mul u v p q) with ⟨m, k, hr⟩ | hr
            · have TM : ∀ W : World, Sen a W → Calls Tryd.prog 39 #[rV u v, rV p q] W fun e w' => e = .returned (.tuple #[rV m k, .nilIface]) ∧ Below W.heap.size W w' := fun W hW => by
                have := times_any a u v p q W hW
                rw [te_yes hr] at this
                exact this
              have HN := Lib.hid ((Rg.pw_next HW.out).trans hr)
              have T := Lib.hid TM
              clear hr TM
              go_wp2_with fail
              refine (T.out _ hS').mono ?_
              rintro e w3 ⟨rfl, hb3⟩
              replace kp := kp.below hb3 kp.lt
              replace ka := ka.below hb3 ka.lt
              replace kr := kr.below hb3 kr.lt
              replace kb := kb.trans (hb3.mono kb.size)
              clear u0 u1 uf0 uf1 a0 a1
              replace kp := kp.alloc (.cells #[.int .i64 m, .int .i64 k] 24)
              replace ka := ka.alloc (.cells #[.int .i64 m, .int .i64 k] 24)
              replace kr := kr.alloc (.cells #[.int .i64 m, .int .i64 k] 24)
              have kbs := kb.size
              replace kb := kb.alloc kbs (.cells #[.int .i64 m, .int .i64 k] 24)
              obtain ⟨⟨u0, u1⟩, uf0, uf1⟩ := kp.two
              go_wp2_with fail
              go_round
              case rel => exact ⟨i + 1, m, k, by omega, by simp, HN, Lib.hid (kp.set2 _ _), Lib.hid ((ka.set (by dsimp only; omega) _).set (by dsimp only; omega) _), Lib.hid ((kr.set (by dsimp only; omega) _).set (by dsimp only; omega) _), Lib.hid ((kb.setCell (by simp; omega) _).setCell (by simp; omega) _)⟩
              case measure => simp [intOf]; omega
            · have TM : ∀ W : World, Sen a W → Calls Tryd.prog 39 #[rV u v, rV p q] W fun e w' => e = .returned (.tuple #[rV 0 0, erV a]) ∧ Below W.heap.size W w' := fun W hW => by
                have := times_any a u v p q W hW
                rw [te_no hr] at this
                exact this
              have HN : Hid (Rg.pw p q N = Rg.no) := Lib.hid (by
                have := Rg.pw_stop ((Rg.pw_next HW.out).trans hr) (N - (i + 1))
                rwa [show i + 1 + (N - (i + 1)) = N by omega] at this)
              have E2 := Lib.hid (te_no (a := a) (E.out.trans HN.out))
              have T := Lib.hid TM
              clear hr TM
              go_wp2_with fail
              refine (T.out _ hS').mono ?_
              rintro e w3 ⟨rfl, hb3⟩
              replace kr := kr.below hb3 kr.lt
              replace kb := kb.trans (hb3.mono kb.size)
              clear u0 u1 uf0 uf1 a0 a1
              replace kr := kr.alloc (.cells #[.int .i64 0, .int .i64 0] 24)
              have kbs := kb.size
              have hbA := kb.alloc kbs (.cells #[.int .i64 0, .int .i64 0] 24)
              obtain ⟨⟨r0, r1⟩, rf0, rf1⟩ := kr.two
              go_wp2_with fail
              refine bodyPost_ret (v := .tuple #[rV 0 0, erV a]) (by simp [results, Tryd.results44, go_sem, r0, r1]) rfl ⟨by rw [E2.out], ?_⟩
              repeat (first | exact Below.refl _ _ | exact hbA | refine Below.drew ?_ | refine Below.setCell ?_ (by simp <;> omega) _ | refine Below.alloc ?_ (by simp <;> omega) _)
          · have h1 : decide ((i : Int) < (N : Int)) = false := decide_eq_false (by omega)
            obtain rfl : i = N := by omega
            have kp := HP.out
            have kr := HR.out
            have kb := HB.out
            have hbA := kb
            have hps := kp.lt
            have E2 := Lib.hid (E.out.trans HW.out)
            obtain ⟨⟨u0, u1⟩, uf0, uf1⟩ := kp.two
            obtain ⟨⟨r0, r1⟩, rf0, rf1⟩ := kr.two
            go_wp2_with fail
            refine bodyPost_ret (v := .tuple #[rV u v, .nilIface]) (by simp [results, Tryd.results44, go_sem, r0, r1]) rfl ⟨by rw [te_yes E2.out], ?_⟩
            repeat (first | exact Below.refl _ _ | exact hbA | refine Below.drew ?_ | refine Below.setCell ?_ (by simp <;> omega) _ | refine Below.alloc ?_ (by simp <;> omega) _)

set_option maxHeartbeats 1000000 in
theorem powRange_any (a : Addr) (p q n : Int) (w : World) (hS : Sen a w) :
    Calls Tryd.prog 27 #[rV p q, .int .i64 n] w fun e w' => e = .returned (tv (Rg.pow p q n)) ∧ Below w.heap.size w w' := by
  have kR := Blk.new (w.alloc (.cells #[.int .i64 p, .int .i64 q] 24)) #[.int .i64 0, .int .i64 0] 24
  have hbA := ((Below.refl w.heap.size w).alloc (Nat.le_refl _) (.cells #[.int .i64 p, .int .i64 q] 24)).alloc (by simp) (.cells #[.int .i64 0, .int .i64 0] 24)
  simp only [World.size_alloc] at kR
  have hp := hS.pos
  rcases good_cases (Rg.good_pow p q n) with ⟨m, n2, hr⟩ | hr
  · have PL : ∀ W : World, Sen a W → Calls Tryd.prog 44 #[rV p q, .int .i64 n] W fun e w' => e = .returned (.tuple #[rV m n2, .nilIface]) ∧ Below W.heap.size W w' := fun W hW => by
      have := power_any a p q n W hW
      rw [te_yes hr] at this
      exact this
    have E := Lib.hid (tv_yes hr)
    have P := Lib.hid PL
    clear hr PL
    go_enter Tryd.func27, Tryd.ntmps27
    go_wp2_with fail
    refine (P.out _ (hS.below hbA hp)).mono ?_
    rintro e w1 ⟨rfl, hb1⟩
    replace kR := kR.below hb1 (by simp)
    replace hbA := hbA.trans (hb1.mono hbA.size)
    go_wp2_with fail
    refine (accept_yes a m n2 _ (hS.below hbA hp)).mono ?_
    rintro e w2 ⟨rfl, hb2⟩
    replace kR := kR.below hb2 kR.lt
    replace hbA := hbA.trans (hb2.mono hbA.size)
    obtain ⟨⟨r0, r1⟩, f0, f1⟩ := kR.two
    go_wp2_with fail
    refine bodyPost_ret (v := .tuple #[rV m n2, .bool true]) (by simp [results, Tryd.results27, go_sem, r0, r1]) rfl ⟨by rw [E.out], ?_⟩
    repeat (first | exact Below.refl _ _ | exact hbA | refine Below.drew ?_ | refine Below.setCell ?_ (by simp <;> omega) _ | refine Below.alloc ?_ (by simp <;> omega) _)
  · have PL : ∀ W : World, Sen a W → Calls Tryd.prog 44 #[rV p q, .int .i64 n] W fun e w' => e = .returned (.tuple #[rV 0 0, erV a]) ∧ Below W.heap.size W w' := fun W hW => by
      have := power_any a p q n W hW
      rw [te_no hr] at this
      exact this
    have E := Lib.hid (tv_no hr)
    have P := Lib.hid PL
    clear hr PL
    go_enter Tryd.func27, Tryd.ntmps27
    go_wp2_with fail
    refine (P.out _ (hS.below hbA hp)).mono ?_
    rintro e w1 ⟨rfl, hb1⟩
    replace kR := kR.below hb1 (by simp)
    replace hbA := hbA.trans (hb1.mono hbA.size)
    go_wp2_with fail
    refine (accept_no a _ (hS.below hbA hp)).mono ?_
    rintro e w2 ⟨rfl, hb2⟩
    replace kR := kR.below hb2 kR.lt
    replace hbA := hbA.trans (hb2.mono hbA.size)
    obtain ⟨⟨r0, r1⟩, f0, f1⟩ := kR.two
    go_wp2_with fail
    refine bodyPost_ret (v := .tuple #[rV 0 0, .bool false]) (by simp [results, Tryd.results27, go_sem, r0, r1]) rfl ⟨by rw [E.out], ?_⟩
    repeat (first | exact Below.refl _ _ | exact hbA | refine Below.drew ?_ | refine Below.setCell ?_ (by simp <;> omega) _ | refine Below.alloc ?_ (by simp <;> omega) _)
end Go.Proofs.YtcoljkafbpnpnaaDoor
