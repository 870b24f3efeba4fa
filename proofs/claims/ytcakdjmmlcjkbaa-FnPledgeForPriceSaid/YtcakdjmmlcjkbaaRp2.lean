/- Margin calls and loans that are continued, on both sides. -/
import Derived.Test.YtcakdjmmlcjkbaaRep
import Derived.RegionTactic
import Derived.Deep.RegionHeld3
import Derived.Deep.DeepCutAuto
import Derived.Outline
namespace Go.Proofs.Ytcakdjmmlcjkbaa
open Go.RowKit
/-- The bonds that are missing. -/
def Rp.mrg (c r f t h p m : Int) : Int := if (Rp.ok c r f t h = true ∧ btw p 1 50000 = true) ∧ btw m 0 1000000000 = true then max (Rp.plg c r f t h p - m) 0 else -1
set_option maxHeartbeats 1000000 in
theorem mrg_any (c r f t h p m : Int) (w : World) :
    Calls Try.prog 17 #[rpV c r f t h, .int .i64 p, .int .i64 m] w fun e w' => e = .returned (.int .i64 (Rp.mrg c r f t h p m)) ∧ Below w.heap.size w w' := by
  have hbA := (Below.refl w.heap.size w).alloc (Nat.le_refl _) (.cells (rpA c r f t h) 24)
  have kA := Blk.new w (rpA c r f t h) 24
  obtain ⟨b0, b1⟩ := Rp.plg_bd (c := c) (r := r) (f := f) (t := t) (h := h) (p := p)
  by_cases hv : Rp.ok c r f t h = true ∧ btw p 1 50000 = true
  · have hn : ¬ (Rp.plg c r f t h p < 0) := by have := Rp.plg_nn hv.1 hv.2; omega
    have hn' := decide_eq_false hn
    cases h2 : btw m 0 1000000000 with
    | false =>
      have E := Lib.hid (show Rp.mrg c r f t h p m = -1 by unfold Rp.mrg; rw [if_neg (by rw [h2]; simp)])
      go_enter Try.func17, Try.ntmps17
      go_wp2_with fail
      refine (plg_any _ _ _ _ _ _ _).mono ?_
      rintro e w1 ⟨rfl, hb1⟩
      replace hbA := hbA.trans (hb1.mono hbA.size)
      clear hb1 kA hv hn
      generalize Rp.plg c r f t h p = n at *
      go_wp2_with fail
      refine (between_any _ _ _ _).mono ?_
      rintro e w2 ⟨rfl, rfl⟩
      rw [h2]
      go_wp2_with fail
      go_ret
      exact ⟨ret_int E.out.symm, hbA⟩
    | true =>
      obtain ⟨m0, m1⟩ := btw_iff.1 h2
      have E := Lib.hid (show Rp.mrg c r f t h p m = max (Rp.plg c r f t h p - m) 0 by unfold Rp.mrg; rw [if_pos ⟨hv, h2⟩])
      go_enter Try.func17, Try.ntmps17
      go_wp2_with fail
      refine (plg_any _ _ _ _ _ _ _).mono ?_
      rintro e w1 ⟨rfl, hb1⟩
      replace hbA := hbA.trans (hb1.mono hbA.size)
      clear hb1 kA hv hn
      generalize Rp.plg c r f t h p = n at *
      have fmax : ∀ W : World, (Builtin.max_ #[3, 3] 3 #[.int .i64 (n - m), .int .i64 0]).run Try.prog W = .ok (.int .i64 (max (n - m) 0)) W := fun W => run_max2' _ _ _ _ W
      go_wp2_with fail
      refine (between_any _ _ _ _).mono ?_
      rintro e w2 ⟨rfl, rfl⟩
      rw [h2]
      go_wp2_with fail
      go_ret
      exact ⟨ret_int E.out.symm, hbA⟩
  · have hn : Rp.plg c r f t h p = -1 := if_neg hv
    have E := Lib.hid (show Rp.mrg c r f t h p m = -1 by unfold Rp.mrg; rw [if_neg (fun q => hv q.1)])
    go_enter Try.func17, Try.ntmps17
    go_wp2_with fail
    refine (plg_any _ _ _ _ _ _ _).mono ?_
    rw [hn]
    rintro e w1 ⟨rfl, hb1⟩
    replace hbA := hbA.trans (hb1.mono hbA.size)
    clear hb1 kA hv hn
    go_wp2_with fail
    go_ret
    exact ⟨ret_int E.out.symm, hbA⟩
set_option maxHeartbeats 1000000 in
theorem smrg_any (c r f t h p m : Int) (w : World) :
    Calls Try.prog 18 #[rpV c r f t h, .int .i64 p, .int .i64 m] w fun e w' => e = .returned (.int .i64 (Rp.mrg c r f t h p m)) ∧ Below w.heap.size w w' := by
  have hbA := (Below.refl w.heap.size w).alloc (Nat.le_refl _) (.cells (rpA c r f t h) 24)
  have kA := Blk.new w (rpA c r f t h) 24
  cases h1 : Rp.ok c r f t h with
  | false =>
    have E := Lib.hid (show Rp.mrg c r f t h p m = -1 by unfold Rp.mrg; rw [if_neg (by rw [h1]; simp)])
    go_enter Try.func18, Try.ntmps18
    go_wp2_with fail
    refine (svRepo_any _ _ _ _ _ _).mono ?_
    rintro e w1 ⟨rfl, hb1⟩
    rw [h1]
    go_wp2_with fail
    go_ret
    exact ⟨ret_int E.out.symm, hbA.trans (hb1.mono hbA.size)⟩
  | true =>
    cases h2 : btw p 1 50000 with
    | false =>
      have E := Lib.hid (show Rp.mrg c r f t h p m = -1 by unfold Rp.mrg; rw [if_neg (by rw [h2]; simp)])
      go_enter Try.func18, Try.ntmps18
      go_wp2_with fail
      refine (svRepo_any _ _ _ _ _ _).mono ?_
      rintro e w1 ⟨rfl, hb1⟩
      rw [h1]
      go_wp2_with fail
      refine (inRange_any _ _ _ _).mono ?_
      rintro e w2 ⟨rfl, rfl⟩
      rw [h2]
      go_wp2_with fail
      go_ret
      exact ⟨ret_int E.out.symm, hbA.trans (hb1.mono hbA.size)⟩
    | true =>
      cases h3 : btw m 0 1000000000 with
      | false =>
        have E := Lib.hid (show Rp.mrg c r f t h p m = -1 by unfold Rp.mrg; rw [if_neg (by rw [h3]; simp)])
        go_enter Try.func18, Try.ntmps18
        go_wp2_with fail
        refine (svRepo_any _ _ _ _ _ _).mono ?_
        rintro e w1 ⟨rfl, hb1⟩
        rw [h1]
        go_wp2_with fail
        refine (inRange_any _ _ _ _).mono ?_
        rintro e w2 ⟨rfl, rfl⟩
        rw [h2]
        go_wp2_with fail
        refine (inRange_any _ _ _ _).mono ?_
        rintro e w3 ⟨rfl, rfl⟩
        rw [h3]
        go_wp2_with fail
        go_ret
        exact ⟨ret_int E.out.symm, hbA.trans (hb1.mono hbA.size)⟩
      | true =>
        obtain ⟨m0, m1⟩ := btw_iff.1 h3
        obtain ⟨b0, b1⟩ := Rp.plg_bd (c := c) (r := r) (f := f) (t := t) (h := h) (p := p)
        have E := Lib.hid (show Rp.mrg c r f t h p m = max 0 (Rp.plg c r f t h p - m) by unfold Rp.mrg; rw [if_pos ⟨⟨h1, h2⟩, h3⟩, Int.max_comm])
        have fmax : ∀ W : World, (Builtin.max_ #[3, 3] 3 #[.int .i64 0, .int .i64 (Rp.plg c r f t h p - m)]).run Try.prog W = .ok (.int .i64 (max 0 (Rp.plg c r f t h p - m))) W := fun W => run_max2' _ _ _ _ W
        go_enter Try.func18, Try.ntmps18
        go_wp2_with fail
        refine (svRepo_any _ _ _ _ _ _).mono ?_
        rintro e w1 ⟨rfl, hb1⟩
        rw [h1]
        obtain ⟨x0, x1, x2, x3, x4⟩ := (kA.below hb1 kA.lt).rp
        replace hbA := hbA.trans (hb1.mono hbA.size)
        clear hb1 kA
        go_wp2_with fail
        refine (inRange_any _ _ _ _).mono ?_
        rintro e w2 ⟨rfl, rfl⟩
        rw [h2]
        go_wp2_with fail
        refine (inRange_any _ _ _ _).mono ?_
        rintro e w3 ⟨rfl, rfl⟩
        rw [h3]
        go_wp2_with fail
        refine (splg_any _ _ _ _ _ _ _).mono ?_
        rintro e w4 ⟨rfl, hb4⟩
        replace hbA := hbA.trans (hb4.mono hbA.size)
        go_wp2_with fail
        go_ret
        exact ⟨ret_int E.out.symm, hbA⟩
end Go.Proofs.Ytcakdjmmlcjkbaa
