/- Loans against bonds, in the program and in the model. -/
import Derived.Test.YtgiejiiiokdbpaaRpB
namespace Go.Proofs.Ytgiejiiiokdbpaa
open Go.RowKit
abbrev rpV (c r f t h : Int) : Value := .agg #[.int .i64 c, .int .i64 r, .int .i64 f, .int .i64 t, .int .i64 h]
abbrev rpA (c r f t h : Int) : Array Value := #[.int .i64 c, .int .i64 r, .int .i64 f, .int .i64 t, .int .i64 h]
/-- A valid loan. -/
def Rp.ok (c r f t h : Int) : Bool := btw c 1 100000000 && (btw r 0 3000 && (spanB f t && btw h 0 500))
theorem Rp.ok_iff {c r f t h : Int} : Rp.ok c r f t h = true ↔ (1 ≤ c ∧ c ≤ 100000000) ∧ (0 ≤ r ∧ r ≤ 3000) ∧ Span f t ∧ (0 ≤ h ∧ h ≤ 500) := by
  unfold Rp.ok
  rw [Bool.and_eq_true, Bool.and_eq_true, Bool.and_eq_true, btw_iff, btw_iff, btw_iff, spanB_iff]
theorem Blk.rp {w : World} {b : Nat} {T : TypeId} {c r f t h : Int} (hB : Blk w b T (rpA c r f t h)) : w.cell? ⟨b, 0, none⟩ = some (.int .i64 c) ∧ w.cell? ⟨b, 1, none⟩ = some (.int .i64 r) ∧ w.cell? ⟨b, 2, none⟩ = some (.int .i64 f) ∧ w.cell? ⟨b, 3, none⟩ = some (.int .i64 t) ∧ w.cell? ⟨b, 4, none⟩ = some (.int .i64 h) := by
  unfold Blk at hB
  simp [World.cell?, hB]
theorem Blk.rpFz {w : World} {b : Nat} {T : TypeId} {c r f t h : Int} (hB : Blk w b T (rpA c r f t h)) : w.frozen? ⟨b, 0, none⟩ = false ∧ w.frozen? ⟨b, 1, none⟩ = false ∧ w.frozen? ⟨b, 2, none⟩ = false ∧ w.frozen? ⟨b, 3, none⟩ = false ∧ w.frozen? ⟨b, 4, none⟩ = false := by
  unfold Blk at hB
  simp [World.frozen?, hB]
set_option maxHeartbeats 400000 in
theorem vrate_any (r : Int) (W : World) : Calls Try.prog 98 #[.int .i64 r] W fun e w' => e = .returned (.bool (btw r 0 3000)) ∧ W = w' := by
  go_enter Try.func98, Try.ntmps98
  go_wp2_with fail
  refine (between_any _ _ _ _).mono ?_
  rintro e w' ⟨rfl, rfl⟩
  go_wp2_with fail
  go_ret
  exact ⟨rfl, rfl⟩
theorem span_m {x y : Int} (h : btw x 0 36524 = true) : btw y x (min 36524 (x + 4000)) = spanB x y := by
  have := btw_iff.1 h
  cases e : spanB x y with
  | true => have := spanB_iff.1 e; unfold Span at this; exact btw_t (by omega) (by omega)
  | false => have := spanB_iff_f.1 e; unfold Span at this; exact btw_f (by omega)
/-- The bonds that a loan needs. -/
def Rp.plg (c r f t h p : Int) : Int := if Rp.ok c r f t h = true ∧ btw p 1 50000 = true then -((-(1000 * c)) / (p * (1000 - h))) else -1
theorem Rp.plg_yes {c r f t h p : Int} (e : Rp.ok c r f t h = true) (e2 : btw p 1 50000 = true) : Rp.plg c r f t h p = -((-(1000 * c)) / (p * (1000 - h))) := if_pos ⟨e, e2⟩
theorem Rp.plg_no {c r f t h p : Int} (e : Rp.ok c r f t h = false) : Rp.plg c r f t h p = -1 := if_neg (by rw [e]; simp)
theorem Rp.plg_no2 {c r f t h p : Int} (e : btw p 1 50000 = false) : Rp.plg c r f t h p = -1 := if_neg (by rw [e]; simp)
theorem Rp.den {h p : Int} (h0 : 0 ≤ h) (h1 : h ≤ 500) (p0 : 1 ≤ p) (p1 : p ≤ 50000) : 1 ≤ p * (1000 - h) ∧ p * (1000 - h) ≤ 50000000 := by
  have a := Int.mul_le_mul (show 1 ≤ p from p0) (show 1 ≤ 1000 - h by omega) (by omega) (by omega)
  have b := Int.mul_le_mul p1 (show 1000 - h ≤ 1000 by omega) (by omega) (by omega)
  omega
/-- What the rounded-up quotient says. -/
theorem Rp.ceil {a d : Int} (hd : 1 ≤ d) : a ≤ -((-a) / d) * d ∧ (-((-a) / d) - 1) * d < a := by
  have m := Int.mul_ediv_add_emod (-a) d
  have n0 := Int.emod_nonneg (-a) (show d ≠ 0 by omega)
  have n1 := Int.emod_lt_of_pos (-a) (show 0 < d by omega)
  generalize (-a) / d = q at *
  have e1 : -q * d = -(d * q) := by rw [Int.neg_mul, Int.mul_comm]
  have e2 : (-q - 1) * d = -(d * q) - d := by rw [Int.sub_mul, e1]; omega
  rw [e1, e2]
  omega
theorem Rp.ceil_pos {a d : Int} (hd : 1 ≤ d) (ha : 1 ≤ a) (h : a ≤ 100000000000) : 1 ≤ -((-a) / d) ∧ -((-a) / d) ≤ 100000000000 := by
  have h1 : (-a) / d ≤ -1 := by
    have := Int.ediv_le_ediv (show (0:Int) < d by omega) (show -a ≤ -1 by omega)
    rwa [Int.neg_one_ediv, Int.sign_eq_one_of_pos (by omega)] at this
  have h2 : -100000000000 ≤ (-a) / d := (Int.le_ediv_iff_mul_le (by omega)).2 (by
    have := Int.mul_le_mul_of_nonneg_left hd (show (0:Int) ≤ 100000000000 by decide)
    omega)
  omega
theorem Rp.plg_bd {c r f t h p : Int} : -1 ≤ Rp.plg c r f t h p ∧ Rp.plg c r f t h p ≤ 100000000000 := by
  unfold Rp.plg
  split
  · rename_i e
    obtain ⟨c0, -, -, g0, g1⟩ := Rp.ok_iff.1 e.1
    obtain ⟨p0, p1⟩ := btw_iff.1 e.2
    have d := Rp.den g0 g1 p0 p1
    have := Rp.ceil_pos (a := 1000 * c) d.1 (by omega) (by omega)
    omega
  · omega
theorem Rp.plg_nn {c r f t h p : Int} (e : Rp.ok c r f t h = true) (e2 : btw p 1 50000 = true) : 1 ≤ Rp.plg c r f t h p := by
  rw [Rp.plg_yes e e2]
  obtain ⟨c0, -, -, g0, g1⟩ := Rp.ok_iff.1 e
  obtain ⟨p0, p1⟩ := btw_iff.1 e2
  have d := Rp.den g0 g1 p0 p1
  have := Rp.ceil_pos (a := 1000 * c) d.1 (by omega) (by omega)
  omega
theorem ceil_bd {a b : Int} (h0 : -2000000000000000000 ≤ a) (h1 : a ≤ 2000000000000000000) (hb : 1 ≤ b) : -2000000000000000000 ≤ (-a) / b ∧ (-a) / b ≤ 2000000000000000000 := by
  constructor
  · exact (Int.le_ediv_iff_mul_le (by omega)).2 (by
      have := Int.mul_le_mul_of_nonneg_left hb (show (0:Int) ≤ 2000000000000000000 by decide); omega)
  · exact Int.le_trans (Int.ediv_le_ediv (by omega) (show -a ≤ 2000000000000000000 by omega)) (Int.ediv_le_self _ (by decide))
theorem blkDrewR {w : World} {b : Nat} {T : TypeId} {cs : Array Value} (h : Blk w b T cs) : Blk w.drew b T cs := h
abbrev RpS (b : Nat) (c r f t h : Int) (w : World) : Prop := w.cell? ⟨b, 0, none⟩ = some (.int .i64 c) ∧ w.cell? ⟨b, 1, none⟩ = some (.int .i64 r) ∧ w.cell? ⟨b, 2, none⟩ = some (.int .i64 f) ∧ w.cell? ⟨b, 3, none⟩ = some (.int .i64 t) ∧ w.cell? ⟨b, 4, none⟩ = some (.int .i64 h)
abbrev put5 (w : World) (b : Nat) (c r f t h : Int) : World := ((((w.setCell ⟨b, 0, none⟩ (.int .i64 c)).setCell ⟨b, 1, none⟩ (.int .i64 r)).setCell ⟨b, 2, none⟩ (.int .i64 f)).setCell ⟨b, 3, none⟩ (.int .i64 t)).setCell ⟨b, 4, none⟩ (.int .i64 h)
theorem Blk.set1 {W : World} {g : Nat} {T : TypeId} {cs : Array Value} (h : Blk W g T cs) {b k : Nat} (hq : g ≠ b) (u : Value) : Blk (W.setCell ⟨b, k, none⟩ u) g T cs := by
  unfold Blk at *
  simp only [World.setCell, Array.getElem?_modify]
  rw [if_neg (fun e => hq e.symm), h]
theorem Blk.putR {w w' : World} {b : Nat} {t : TypeId} {cs : Array Value} (h : Blk w b t cs) (i : Nat) (v : Value) (h2 : w' = w.setCell ⟨b, i, none⟩ v) : Blk w' b t (cs.setIfInBounds i v) := by
  subst h2
  unfold Blk at *
  have hlt : b < w.heap.size := by
    rcases Nat.lt_or_ge b w.heap.size with hlt | hge
    · exact hlt
    · rw [Array.getElem?_eq_none hge] at h; cases h
  simp [World.setCell, Array.getElem?_modify, h]
theorem Blk.put5o {W : World} {g : Nat} {T : TypeId} {cs : Array Value} (k : Blk W g T cs) {b : Nat} (hq : g ≠ b) (c r f t h : Int) : Blk (put5 W b c r f t h) g T cs :=
  ((((k.set1 hq _).set1 hq _).set1 hq _).set1 hq _).set1 hq _
theorem Blk.put5 {W : World} {b : Nat} {T : TypeId} {c0 r0 f0 t0 h0 : Int} (k : Blk W b T (rpA c0 r0 f0 t0 h0)) (c r f t h : Int) : Blk (put5 W b c r f t h) b T (rpA c r f t h) :=
  ((((k.putR 0 _ rfl).putR 1 _ rfl).putR 2 _ rfl).putR 3 _ rfl).putR 4 _ rfl
theorem put5_below {B : Nat} {a W : World} (k : Below B a W) {b : Nat} (hq : B ≤ b) (c r f t h : Int) : Below B a (put5 W b c r f t h) :=
  ((((k.setCell hq _).setCell hq _).setCell hq _).setCell hq _).setCell hq _

end Go.Proofs.Ytgiejiiiokdbpaa
