/- Lots and gains, the model whole. -/
import Derived.Test.YtkbojibgbmbmdaaLtS
namespace Go.Proofs.Ytkbojibgbmbmdaa
open Go.RowKit
set_option maxHeartbeats 1000000 in
theorem slots_any (w : World) (v : Value) (ps : List Tri) (hv : R3o w v ps) (hm : ps.length ≤ 9223372036854775807) :
    Calls Try.prog 23 #[v] w fun e w' => (∃ u, e = .returned u ∧ TRow2 33 w' w.heap.size u (Lt.lots ps)) ∧ Below w.heap.size w w' := by
  have VT := Lib.hid (svtrades_any w v ps hv hm)
  have HV := Lib.hid hv
  obtain ⟨⟨a, c, rfl⟩, -⟩ := hv
  cases h : Td.ok ps with
  | false =>
    have E := Lib.hid (show Lt.lots ps = [] by unfold Lt.lots; rw [h]; rfl)
    rw [h] at VT
    clear h
    go_enter Try.func23, Try.ntmps23
    go_wp2_with fail
    refine VT.out.mono ?_
    rintro e w1 ⟨rfl, hb1⟩
    go_wp2_with fail
    go_ret
    exact ⟨⟨_, rfl, by rw [E.out]; exact TRow2.nil _ _ _⟩, hb1⟩
  | true =>
    have E := Lib.hid (show Lt.lots ps = (Lt.st ps).1 by unfold Lt.lots; rw [h]; rfl)
    have QO := Lib.hid (fun W (hb : Below w.heap.size w W) => settle_any W _ ps (HV.out.below hb (Nat.le_refl _)) (Td.parts h).1 (Lt.tones h))
    rw [h] at VT
    clear h
    go_enter Try.func23, Try.ntmps23
    go_wp2_with fail
    refine VT.out.mono ?_
    rintro e w1 ⟨rfl, hb1⟩
    have HB1 := Lib.hid hb1; clear hb1
    go_wp2_with fail
    refine (QO.out _ HB1.out).mono ?_
    rintro e w2 ⟨⟨u, rfl, hr, -⟩, hb2⟩
    have HR := Lib.hid (hr.lower HB1.out.size)
    have HB2 := Lib.hid (HB1.out.trans (hb2.mono HB1.out.size))
    clear hr hb2
    go_wp2_with fail
    go_ret
    exact ⟨⟨_, rfl, by rw [E.out]; exact HR.out⟩, HB2.out⟩
set_option maxHeartbeats 1000000 in
theorem sgain_any (w : World) (v : Value) (ps : List Tri) (hv : R3o w v ps) (hm : ps.length ≤ 9223372036854775807) :
    Calls Try.prog 26 #[v] w fun e w' => e = .returned (.int .i64 (Lt.gain ps)) ∧ Below w.heap.size w w' := by
  have VT := Lib.hid (svtrades_any w v ps hv hm)
  have HV := Lib.hid hv
  obtain ⟨⟨a, c, rfl⟩, -⟩ := hv
  cases h : Td.ok ps with
  | false =>
    have E := Lib.hid (show Lt.gain ps = 0 by unfold Lt.gain; rw [h]; rfl)
    rw [h] at VT
    clear h
    go_enter Try.func26, Try.ntmps26
    go_wp2_with fail
    refine VT.out.mono ?_
    rintro e w1 ⟨rfl, hb1⟩
    go_wp2_with fail
    go_ret
    exact ⟨ret_int E.out.symm, hb1⟩
  | true =>
    have E := Lib.hid (show Lt.gain ps = (Lt.st ps).2 by unfold Lt.gain; rw [h]; rfl)
    have QO := Lib.hid (fun W (hb : Below w.heap.size w W) => settle_any W _ ps (HV.out.below hb (Nat.le_refl _)) (Td.parts h).1 (Lt.tones h))
    rw [h] at VT
    clear h
    go_enter Try.func26, Try.ntmps26
    go_wp2_with fail
    refine VT.out.mono ?_
    rintro e w1 ⟨rfl, hb1⟩
    have HB1 := Lib.hid hb1; clear hb1
    go_wp2_with fail
    refine (QO.out _ HB1.out).mono ?_
    rintro e w2 ⟨⟨u, rfl, hr, -⟩, hb2⟩
    have HB2 := Lib.hid (HB1.out.trans (hb2.mono HB1.out.size))
    clear hr hb2
    go_wp2_with fail
    go_ret
    exact ⟨ret_int E.out.symm, HB2.out⟩
end Go.Proofs.Ytkbojibgbmbmdaa
