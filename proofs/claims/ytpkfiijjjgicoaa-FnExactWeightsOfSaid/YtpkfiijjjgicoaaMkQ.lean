/- Positions of which no bonds were sold. -/
import Derived.Test.YtpkfiijjjgicoaaMkB
namespace Go.Proofs.Ytpkfiijjjgicoaa
open Go.RowKit
def Mk.bo (p : Tri) : Bool := Mk.one p && decide (0 ≤ p.1)
set_option maxHeartbeats 800000 in
theorem bought_any (p : Tri) (w : World) :
    Calls Try.prog 46 #[triV p] w fun e w' => e = .returned (.bool (Mk.bo p)) ∧ Below w.heap.size w w' := by
  obtain ⟨m, c, a⟩ := p
  have K := (Kp.refl w).new 33 (mkA (m, c, a))
  have VM := Lib.hid (fun W => mvalid_any (m, c, a) W)
  cases h : Mk.one (m, c, a) with
  | false =>
    have E := Lib.hid (show Mk.bo (m, c, a) = false by unfold Mk.bo; rw [h]; rfl)
    have H := Lib.hid h; clear h
    obtain ⟨x0, x1, x2⟩ := K.s1
    go_enter Try.func46, Try.ntmps46
    go_wp2_with fail
    refine (VM.out _).mono ?_
    rintro e w1 ⟨rfl, hb1⟩
    rw [H.out]
    replace K := K.below hb1
    clear hb1 x0 x1 x2
    go_wp2_with fail
    go_ret
    exact ⟨ret_bool E.out.symm, K.1⟩
  | true =>
    have E := Lib.hid (show Mk.bo (m, c, a) = decide (0 ≤ m) by unfold Mk.bo; rw [h]; rfl)
    have H := Lib.hid h; clear h
    obtain ⟨x0, x1, x2⟩ := K.s1
    go_enter Try.func46, Try.ntmps46
    go_wp2_with fail
    refine (VM.out _).mono ?_
    rintro e w1 ⟨rfl, hb1⟩
    rw [H.out]
    replace K := K.below hb1
    clear hb1 x0 x1 x2
    obtain ⟨x0, x1, x2⟩ := K.s1
    go_wp2_with fail
    go_ret
    exact ⟨ret_bool E.out.symm, K.1⟩
end Go.Proofs.Ytpkfiijjjgicoaa
