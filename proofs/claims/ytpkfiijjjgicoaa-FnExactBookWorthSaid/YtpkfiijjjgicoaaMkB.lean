/- What positions are worth, on both sides. -/
import Derived.Test.YtpkfiijjjgicoaaMkA
import Derived.Deep.RegionHeld3
namespace Go.Proofs.Ytpkfiijjjgicoaa
open Go.RowKit
abbrev MkS (b : Nat) (m c a : Int) (w : World) : Prop := w.cell? ⟨b, 0, none⟩ = some (.int .i64 m) ∧ w.cell? ⟨b, 1, none⟩ = some (.int .i64 c) ∧ w.cell? ⟨b, 2, none⟩ = some (.int .i64 a)
theorem Kp.s1 {w W : World} {l : List (Nat × TypeId × Array Value)} {b : Nat} {T : TypeId} {m c a : Int} (k : Kp w ((b, T, mkA (m, c, a)) :: l) W) : MkS b m c a W := k.first.three.1
theorem Kp.s2 {w W : World} {x : Nat × TypeId × Array Value} {l : List (Nat × TypeId × Array Value)} {b : Nat} {T : TypeId} {m c a : Int} (k : Kp w (x :: (b, T, mkA (m, c, a)) :: l) W) : MkS b m c a W := k.second.three.1
set_option maxHeartbeats 800000 in
theorem dirty_any (m c a : Int) (w : World) (h : Mk.one (m, c, a) = true) :
    Calls Try.prog 66 #[triV (m, c, a)] w fun e w' => e = .returned (.int .i64 (c + a)) ∧ Below w.heap.size w w' := by
  have K := (Kp.refl w).new 33 (mkA (m, c, a))
  obtain ⟨-, ⟨c0, c1⟩, a0, a1⟩ := Mk.one_iff.1 h
  clear h
  go_enter Try.func66, Try.ntmps66
  go_wp2_with fail
  go_ret
  exact ⟨rfl, K.1⟩
set_option maxHeartbeats 800000 in
theorem worth_any (m c a : Int) (w : World) (h : Mk.one (m, c, a) = true) :
    Calls Try.prog 43 #[triV (m, c, a)] w fun e w' => e = .returned (.int .i64 (m * (c + a))) ∧ Below w.heap.size w w' := by
  have K := (Kp.refl w).new 33 (mkA (m, c, a))
  have DM := Lib.hid (fun W => dirty_any m c a W h)
  have hwb := Mk.wor_bd h
  have W1 : IntKind.i64.wrap (m * (c + a)) = m * (c + a) := IntWalk.i64_in _ (by omega)
  clear h
  go_enter Try.func43, Try.ntmps43
  go_wp2_with fail
  go_region_held3 (MkS w.heap.size m c a) (first | with_reducible exact K.drew.s1 | with_reducible exact K1.s1 | fail "nokeep") ((go_at_call 66; (with_reducible refine (DM.out _).mono ?_); rintro e w1 ⟨rfl, hb1⟩; have K1 := K.drew.below hb1))
  all_goals (go_wp2_with fail; go_ret; exact ⟨rfl, K1.1⟩)
set_option maxHeartbeats 800000 in
theorem sworth_any (m c a : Int) (w : World) (h : Mk.one (m, c, a) = true) :
    Calls Try.prog 45 #[triV (m, c, a)] w fun e w' => e = .returned (.int .i64 (m * (c + a))) ∧ Below w.heap.size w w' := by
  have K := (Kp.refl w).new 33 (mkA (m, c, a))
  have hwb := Mk.wor_bd h
  have W1 : IntKind.i64.wrap (m * (c + a)) = m * (c + a) := IntWalk.i64_in _ (by omega)
  obtain ⟨-, ⟨c0, c1⟩, a0, a1⟩ := Mk.one_iff.1 h
  clear h
  go_enter Try.func45, Try.ntmps45
  go_wp2_with fail
  go_ret
  exact ⟨rfl, K.1⟩
/-- What WorthOf gives: its number and whether there is one. -/
def Mk.wv (p : Tri) : Int := if Mk.one p = true then p.1 * (p.2.1 + p.2.2) else 0
theorem Mk.wv_yes {m c a : Int} (h : Mk.one (m, c, a) = true) : Mk.wv (m, c, a) = m * (c + a) := if_pos h
theorem Mk.wv_no {m c a : Int} (h : Mk.one (m, c, a) = false) : Mk.wv (m, c, a) = 0 := if_neg (by rw [h]; simp)
set_option maxHeartbeats 800000 in
theorem worthOf_any (m c a : Int) (w : World) :
    Calls Try.prog 21 #[triV (m, c, a)] w fun e w' => e = .returned (.tuple #[.int .i64 (Mk.wv (m, c, a)), .bool (Mk.one (m, c, a))]) ∧ Below w.heap.size w w' := by
  have K := (Kp.refl w).new 33 (mkA (m, c, a))
  obtain ⟨x0, x1, x2⟩ := K.s1
  have VM := Lib.hid (fun W => mvalid_any (m, c, a) W)
  cases h : Mk.one (m, c, a) with
  | false =>
    rw [Mk.wv_no h]
    have H := Lib.hid h; clear h
    go_enter Try.func21, Try.ntmps21
    go_wp2_with fail
    refine (VM.out _).mono ?_
    rintro e w1 ⟨rfl, hb1⟩
    rw [H.out]
    replace K := K.below hb1
    clear hb1 x0 x1 x2
    go_wp2_with fail
    go_ret2
    exact ⟨rfl, K.1⟩
  | true =>
    rw [Mk.wv_yes h]
    have WM := Lib.hid (fun W => worth_any m c a W h)
    have H := Lib.hid h; clear h
    go_enter Try.func21, Try.ntmps21
    go_wp2_with fail
    refine (VM.out _).mono ?_
    rintro e w1 ⟨rfl, hb1⟩
    rw [H.out]
    replace K := K.below hb1
    clear hb1 x0 x1 x2
    obtain ⟨x0, x1, x2⟩ := K.s1
    go_wp2_with fail
    refine (WM.out _).mono ?_
    rintro e w2 ⟨rfl, hb2⟩
    replace K := K.below hb2
    clear hb2 x0 x1 x2
    go_wp2_with fail
    go_ret2
    exact ⟨rfl, K.1⟩
end Go.Proofs.Ytpkfiijjjgicoaa
