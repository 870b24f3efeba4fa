import Derived.Test.YtkdooncfchmkfaaDoorRat
import Derived.Test.YtkdooncfchmkfaaDoorProg
import Derived.Test.YtkdooncfchmkfaaDoorMinMax
import Derived.WalkKit
import Derived.WalkSpells
import Derived.WalkLawsBesides
import Derived.Lib.Hide
import Derived.Below
import Derived.Deep.QuietTactic
import Derived.BigQuiet
import Derived.IntWalk
import Derived.Test.YtkdooncfchmkfaaDoorDrawB
import Derived.Test.YtkdooncfchmkfaaDoorSpec
import Derived.RegionTactic
import Derived.ChangeAlike
/- The walks of the program's functions of ratios. -/
namespace Go.Proofs.YtkdooncfchmkfaaDoor
open Go.RowKit
theorem Blk.drewN {w : World} {b : Nat} {t : TypeId} {cs : Array Value} (h : Blk w b t cs) (n : Nat) : Blk (w.drewN n) b t cs := h
theorem Blk.two {w : World} {b : Nat} {t : TypeId} {x y : Value} (h : Blk w b t #[x, y]) :
    (w.cell? ⟨b, 0, none⟩ = some x ∧ w.cell? ⟨b, 1, none⟩ = some y) ∧ (w.frozen? ⟨b, 0, none⟩ = false ∧ w.frozen? ⟨b, 1, none⟩ = false) := by
  unfold Blk at h
  simp [World.cell?, World.frozen?, h]
theorem Rt.g_abs (a b : Int) : Rt.g (max a (-a)) b = Rt.g a b := by
  by_cases h : a < 0
  · rw [show max a (-a) = -a by omega]; exact Rt.g_neg a b
  · rw [show max a (-a) = a by omega]
end Go.Proofs.YtkdooncfchmkfaaDoor

/- The walks of the program's functions of ratios, second part. -/
namespace Go.Proofs.YtkdooncfchmkfaaDoor
open Go.RowKit
theorem mul_bd {a b A B : Int} (h1 : -A ≤ a) (h2 : a ≤ A) (h3 : -B ≤ b) (h4 : b ≤ B) : -(A * B) ≤ a * b ∧ a * b ≤ A * B := by
  have hA : 0 ≤ A := by omega
  have hB : 0 ≤ B := by omega
  have n1 : a.natAbs ≤ A.natAbs := by omega
  have n2 : b.natAbs ≤ B.natAbs := by omega
  have n3 := Nat.mul_le_mul n1 n2
  rw [← Int.natAbs_mul, ← Int.natAbs_mul] at n3
  have : 0 ≤ A * B := Int.mul_nonneg hA hB
  omega
def termsB (n d : Int) : Bool := btw n (-2000000) 2000000 && btw d 1 2000000
def vrB (n d : Int) : Bool := termsB n d && (Rt.g n d == 1)
theorem termsB_iff {n d : Int} : termsB n d = true ↔ -2000000 ≤ n ∧ n ≤ 2000000 ∧ 1 ≤ d ∧ d ≤ 2000000 := by
  unfold termsB
  rw [Bool.and_eq_true, btw_iff, btw_iff]
  omega
theorem vrB_iff {n d : Int} : vrB n d = true ↔ Rt.vr n d := by
  unfold vrB Rt.vr
  rw [Bool.and_eq_true, termsB_iff, beq_iff_eq]
  omega
end Go.Proofs.YtkdooncfchmkfaaDoor

/- The walks of the program's functions of ratios, third part. -/
namespace Go.Proofs.YtkdooncfchmkfaaDoor
open Go.RowKit
theorem q_bd {n d : Int} (hd : 1 ≤ d) (h0 : -10000000000000 ≤ n) (h1 : n ≤ 10000000000000) (h2 : d ≤ 10000000000000) :
    (-10000000000000 ≤ Rt.ln n d ∧ Rt.ln n d ≤ 10000000000000) ∧ (1 ≤ Rt.ld n d ∧ Rt.ld n d ≤ 10000000000000) ∧ (1 ≤ Rt.g n d ∧ Rt.g n d ≤ 10000000000000) := by
  have a := Rt.ln_abs (n := n) (d := d) (by omega)
  have b := Rt.ld_pos (n := n) (d := d) (by omega)
  have c := Rt.ld_le (n := n) (d := d) (by omega)
  have e := Rt.g_pos (n := n) (d := d) (by omega)
  have f := Rt.g_le (n := n) (d := d) (by omega)
  omega
/-- The ratio in lowest terms if it is valid. -/
def lowV (n d : Int) : Value := if termsB (Rt.ln n d) (Rt.ld n d) = true then .tuple #[.agg #[.int .i64 (Rt.ln n d), .int .i64 (Rt.ld n d)], .bool true] else .tuple #[.agg #[.int .i64 0, .int .i64 0], .bool false]
end Go.Proofs.YtkdooncfchmkfaaDoor

/- The walks of the program's sums and products of ratios. -/
namespace Go.Proofs.YtkdooncfchmkfaaDoor
open Go.RowKit

def addRV (a b c d : Int) : Value := if vrB a b = true ∧ vrB c d = true then lowV (a * d + c * b) (b * d) else .tuple #[.agg #[.int .i64 0, .int .i64 0], .bool false]
def mulRV (a b c d : Int) : Value := if vrB a b = true ∧ vrB c d = true then lowV (a * c) (b * d) else .tuple #[.agg #[.int .i64 0, .int .i64 0], .bool false]
end Go.Proofs.YtkdooncfchmkfaaDoor

/- The walks of the program's other functions of ratios. -/
namespace Go.Proofs.YtkdooncfchmkfaaDoor
open Go.RowKit
theorem floor_neg {a b : Int} (hb : 1 ≤ b) (h : a.tmod b < 0) : a.tdiv b - 1 = a / b := by
  have h1 := Int.mul_tdiv_add_tmod a b
  have h2 := Int.lt_tmod_of_pos a (show 0 < b by omega)
  exact ((Int.ediv_emod_unique (a := a) (b := b) (r := a.tmod b + b) (q := a.tdiv b - 1) (by omega)).2 ⟨by rw [Int.mul_sub]; omega, by omega, by omega⟩).1.symm
theorem floor_pos {a b : Int} (hb : 1 ≤ b) (h : 0 ≤ a.tmod b) : a.tdiv b = a / b := by
  have h1 := Int.mul_tdiv_add_tmod a b
  have h2 := Int.tmod_lt_of_pos a (show 0 < b by omega)
  exact ((Int.ediv_emod_unique (a := a) (b := b) (r := a.tmod b) (q := a.tdiv b) (by omega)).2 ⟨by omega, by omega, by omega⟩).1.symm
theorem tdiv_bd {a b : Int} (h0 : -2000000000000000000 ≤ a) (h1 : a ≤ 2000000000000000000) : -2000000000000000001 ≤ a.tdiv b ∧ a.tdiv b ≤ 2000000000000000001 := by
  have := Int.natAbs_tdiv_le_natAbs a b
  omega
set_option maxHeartbeats 400000 in
theorem floored_any (a b : Int) (w : World) (h0 : -2000000000000000000 ≤ a) (h1 : a ≤ 2000000000000000000) (h2 : 1 ≤ b) (h3 : b ≤ 1000000000000000000) :
    Calls Tryd.prog 68 #[.int .i64 a, .int .i64 b] w fun e w' => e = .returned (.int .i64 (a / b)) ∧ w = w' := by
  obtain ⟨q0, q1⟩ := tdiv_bd (b := b) h0 h1
  have r0 := Int.lt_tmod_of_pos a (show 0 < b by omega)
  have r1 := Int.tmod_lt_of_pos a (show 0 < b by omega)
  have e0 : (b == 0) = false := by simp; omega
  by_cases hm : a.tmod b < 0
  · have HE := Lib.hid (floor_neg h2 hm)
    have f1 : IntKind.i64.wrap (a.tdiv b) = a.tdiv b := IntWalk.i64_in _ (by omega)
    go_enter Tryd.func68, Tryd.ntmps68
    go_wp2_with fail
    go_ret
    exact ⟨ret_int HE.out, rfl⟩
  · have HE := Lib.hid (floor_pos (a := a) h2 (by omega))
    have hm' := decide_eq_false hm
    have f1 : IntKind.i64.wrap (a.tdiv b) = a.tdiv b := IntWalk.i64_in _ (by omega)
    go_enter Tryd.func68, Tryd.ntmps68
    go_wp2_with fail
    go_ret
    exact ⟨ret_int HE.out, rfl⟩
set_option maxHeartbeats 400000 in
theorem rounded_any (a b : Int) (w : World) (h0 : -900000000000000000 ≤ a) (h1 : a ≤ 900000000000000000) (h2 : 1 ≤ b) (h3 : b ≤ 100000000000000000) :
    Calls Tryd.prog 90 #[.int .i64 a, .int .i64 b] w fun e w' => e = .returned (.int .i64 (Rt.near a b)) ∧ w = w' := by
  go_enter Tryd.func90, Tryd.ntmps90
  go_wp2_with (go_at_call 68; refine (floored_any _ _ _ (by omega) (by omega) (by omega) (by omega)).mono ?_; rintro e w2 ⟨rfl, rfl⟩)
  go_ret
  exact ⟨rfl, rfl⟩
def makeV (n d : Int) : Value := if termsB n d = true then .tuple #[.agg #[.int .i64 (Rt.ln n d), .int .i64 (Rt.ld n d)], .bool true] else .tuple #[.agg #[.int .i64 0, .int .i64 0], .bool false]
end Go.Proofs.YtkdooncfchmkfaaDoor

/- The walks of comparing. -/
namespace Go.Proofs.YtkdooncfchmkfaaDoor
open Go.RowKit
def cmpV (a b c d : Int) : Int := if vrB a b = true ∧ vrB c d = true then (if a * d < c * b then -1 else if c * b < a * d then 1 else 0) else 2
end Go.Proofs.YtkdooncfchmkfaaDoor

/- The walks of the model's functions of ratios. -/
namespace Go.Proofs.YtkdooncfchmkfaaDoor
open Go.RowKit
theorem g_natAbs (a b : Int) : Rt.g (a.natAbs : Int) b = Rt.g a b := by
  rcases Int.natAbs_eq a with h | h
  · rw [← h]
  · have : (a.natAbs : Int) = -a := by omega
    rw [this, Rt.g_neg]
theorem vr_low {n d : Int} (hd : 1 ≤ d) : vrB (Rt.ln n d) (Rt.ld n d) = termsB (Rt.ln n d) (Rt.ld n d) := by
  unfold vrB
  rw [Rt.g_one (Rt.gcd_lo (n := n) (d := d) (by omega))]
  simp
def chkV (p q : Int) : Value := if vrB p q = true then .tuple #[.agg #[.int .i64 p, .int .i64 q], .bool true] else .tuple #[.agg #[.int .i64 0, .int .i64 0], .bool false]
theorem chk_low {n d : Int} (hd : 1 ≤ d) : chkV (Rt.ln n d) (Rt.ld n d) = lowV n d := by unfold chkV lowV; rw [vr_low hd]
end Go.Proofs.YtkdooncfchmkfaaDoor

/- The walks of the model's sums, products and comparing. -/
namespace Go.Proofs.YtkdooncfchmkfaaDoor
open Go.RowKit
set_option maxHeartbeats 400000 in
theorem toInt_any (b : Bool) (w : World) : Calls Tryd.prog 101 #[.bool b] w fun e w' => e = .returned (.int .i64 (if b = true then 1 else 0)) ∧ w = w' := by
  cases b
  · go_enter Tryd.func101, Tryd.ntmps101
    go_wp2
    go_ret
    exact ⟨rfl, rfl⟩
  · go_enter Tryd.func101, Tryd.ntmps101
    go_wp2
    go_ret
    exact ⟨rfl, rfl⟩
end Go.Proofs.YtkdooncfchmkfaaDoor

/- The walks of shares, and of the model's rounding and making. -/
namespace Go.Proofs.YtkdooncfchmkfaaDoor
open Go.RowKit
def shareV (x n d : Int) : Value := if btw x (-1000000000) 1000000000 = true ∧ vrB n d = true ∧ btw n 0 d = true then .tuple #[.int .i64 (Rt.near (x * n) d), .bool true] else .tuple #[.int .i64 0, .bool false]
set_option maxHeartbeats 400000 in
theorem sFloored_any (a b : Int) (w : World) (h0 : -2000000000000000000 ≤ a) (h1 : a ≤ 2000000000000000000) (h2 : 1 ≤ b) (h3 : b ≤ 1000000000000000000) :
    Calls Tryd.prog 45 #[.int .i64 a, .int .i64 b] w fun e w' => e = .returned (.int .i64 (a / b)) ∧ w = w' := by
  obtain ⟨q0, q1⟩ := tdiv_bd (b := b) h0 h1
  have r0 := Int.lt_tmod_of_pos a (show 0 < b by omega)
  have r1 := Int.tmod_lt_of_pos a (show 0 < b by omega)
  have e0 : (b == 0) = false := by simp; omega
  by_cases hm : a.tmod b < 0
  · have HE := Lib.hid (floor_neg h2 hm)
    have f1 : IntKind.i64.wrap (a.tdiv b) = a.tdiv b := IntWalk.i64_in _ (by omega)
    go_enter Tryd.func45, Tryd.ntmps45
    go_wp2_with fail
    go_ret
    exact ⟨ret_int HE.out, rfl⟩
  · have HE := Lib.hid (floor_pos (a := a) h2 (by omega))
    have hm' := decide_eq_false hm
    have f1 : IntKind.i64.wrap (a.tdiv b) = a.tdiv b := IntWalk.i64_in _ (by omega)
    go_enter Tryd.func45, Tryd.ntmps45
    go_wp2_with fail
    go_ret
    exact ⟨ret_int HE.out, rfl⟩
set_option maxHeartbeats 400000 in
theorem sNearest_any (a b : Int) (w : World) (h0 : -900000000000000000 ≤ a) (h1 : a ≤ 900000000000000000) (h2 : 1 ≤ b) (h3 : b ≤ 100000000000000000) :
    Calls Tryd.prog 81 #[.int .i64 a, .int .i64 b] w fun e w' => e = .returned (.int .i64 (Rt.near a b)) ∧ w = w' := by
  go_enter Tryd.func81, Tryd.ntmps81
  go_wp2_with (go_at_call 45; refine (sFloored_any _ _ _ (by omega) (by omega) (by omega) (by omega)).mono ?_; rintro e w2 ⟨rfl, rfl⟩)
  go_ret
  exact ⟨rfl, rfl⟩
end Go.Proofs.YtkdooncfchmkfaaDoor
