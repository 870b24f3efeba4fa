/- Weights: which are valid, the program. -/
import Derived.Test.YtgkldgljebhcgaaAvWt
import Derived.Test.YtgkldgljebhcgaaPrB
namespace Go.Proofs.Ytgkldgljebhcgaa
open Go.RowKit
set_option maxHeartbeats 400000 in
theorem weightsOk_any (w : World) (v : Value) (xs : List Int) (hv : R1o w v xs) (hm : xs.length ≤ 9223372036854775807) :
    Calls Try.prog 21 #[v] w fun x w' => x = .returned (.bool (Cw.ok xs)) ∧ Below w.heap.size w w' := by
  have HX := Lib.hid (av_Wt w v xs 1 8 hv hm)
  have E := Lib.hid (show Cw.ok xs = (Cw.pre xs && (xs.sum == 1000)) from rfl)
  have HV := Lib.hid hv
  obtain ⟨⟨a, c, rfl⟩, -⟩ := hv
  cases hp : Cw.pre xs with
  | false =>
    have HX' := Lib.hid (show (btw xs.length 1 8 && xs.all wtB) = false from hp)
    have H := Lib.hid (show Cw.ok xs = false by rw [E.out, hp]; rfl)
    clear hp
    go_enter Try.func21, Try.ntmps21
    go_wp2_with fail
    refine HX.out.mono ?_
    rw [HX'.out]
    rintro e w1 ⟨rfl, hb⟩
    go_wp2_with fail
    go_ret
    exact ⟨ret_bool H.out.symm, hb⟩
  | true =>
    have HX' := Lib.hid (show (btw xs.length 1 8 && xs.all wtB) = true from hp)
    have H := Lib.hid (show Cw.ok xs = (xs.sum == 1000) by rw [E.out, hp]; rfl)
    have hq := (Bool.and_eq_true _ _).mp (show (btw xs.length 1 8 && xs.all wtB) = true from hp)
    have hl := btw_iff.1 hq.1
    have HSm := Lib.hid (Cw.small hq.2)
    clear hp hq
    have SI := Lib.hid (fun W (hb : Below w.heap.size w W) => sumInts_any W _ xs (HV.out.below hb (Nat.le_refl _)) (by omega) HSm.out)
    go_enter Try.func21, Try.ntmps21
    go_wp2_with fail
    refine HX.out.mono ?_
    rw [HX'.out]
    rintro e w1 ⟨rfl, hb⟩
    have HB := Lib.hid hb; clear hb
    go_wp2_with fail
    refine (SI.out _ HB.out).mono ?_
    rintro e w2 ⟨rfl, rfl⟩
    go_wp2_with fail
    go_ret
    exact ⟨ret_bool H.out.symm, HB.out⟩
end Go.Proofs.Ytgkldgljebhcgaa
