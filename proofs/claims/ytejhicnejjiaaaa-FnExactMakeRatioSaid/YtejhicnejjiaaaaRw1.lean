/- The walks of the program's functions of ratios. -/
import Derived.Test.YtejhicnejjiaaaaRat
import Derived.Test.YtejhicnejjiaaaaProg
import Derived.Test.YtejhicnejjiaaaaMinMax
import Derived.WalkKit
import Derived.WalkSpells
import Derived.WalkLawsBesides
import Derived.Lib.Hide
import Derived.Below
import Derived.Deep.QuietTactic
import Derived.BigQuiet
import Derived.IntWalk
namespace Go.Proofs.Ytejhicnejjiaaaa
open Go.RowKit
theorem ret_int {k : IntKind} {a b : Int} (h : a = b) : Ending.returned (.int k a) = .returned (.int k b) := by rw [h]
theorem ret_bool {a b : Bool} (h : a = b) : Ending.returned (.bool a) = .returned (.bool b) := by rw [h]
/-- Between two numbers. -/
def btw (n l h : Int) : Bool := decide (l ≤ n ∧ n ≤ h)
theorem btw_t {n l h : Int} (a : l ≤ n) (b : n ≤ h) : btw n l h = true := by unfold btw; exact decide_eq_true ⟨a, b⟩
theorem btw_f {n l h : Int} (a : n < l ∨ h < n) : btw n l h = false := by unfold btw; exact decide_eq_false (by omega)
theorem btw_iff {n l h : Int} : btw n l h = true ↔ l ≤ n ∧ n ≤ h := by unfold btw; simp
theorem btw_iff_f {n l h : Int} : btw n l h = false ↔ n < l ∨ h < n := by unfold btw; rw [decide_eq_false_iff_not]; omega
set_option maxHeartbeats 400000 in
theorem between_any (n l h : Int) (w : World) :
    Calls Try.prog 47 #[.int .i64 n, .int .i64 l, .int .i64 h] w fun e w' => e = .returned (.bool (btw n l h)) ∧ w = w' := by
  by_cases a : l ≤ n
  · by_cases b : n ≤ h
    · have E := Lib.hid (btw_t a b)
      have a1 := decide_eq_true a
      have b1 := decide_eq_true b
      clear a b
      go_enter Try.func47, Try.ntmps47
      go_wp2
      go_ret
      exact ⟨ret_bool E.out.symm, rfl⟩
    · have E := Lib.hid (btw_f (n := n) (l := l) (h := h) (.inr (by omega)))
      have a1 := decide_eq_true a
      have b1 := decide_eq_false b
      clear a b
      go_enter Try.func47, Try.ntmps47
      go_wp2
      go_ret
      exact ⟨ret_bool E.out.symm, rfl⟩
  · have E := Lib.hid (btw_f (n := n) (l := l) (h := h) (.inl (by omega)))
    have a1 := decide_eq_false a
    clear a
    go_enter Try.func47, Try.ntmps47
    go_wp2
    go_ret
    exact ⟨ret_bool E.out.symm, rfl⟩
set_option maxHeartbeats 400000 in
theorem inRange_any (n l h : Int) (w : World) :
    Calls Try.prog 37 #[.int .i64 n, .int .i64 l, .int .i64 h] w fun e w' => e = .returned (.bool (btw n l h)) ∧ w = w' := by
  by_cases a : l ≤ n
  · by_cases b : n ≤ h
    · have E := Lib.hid (btw_t a b)
      have a1 := decide_eq_true a
      have b1 := decide_eq_true b
      clear a b
      go_enter Try.func37, Try.ntmps37
      go_wp2
      go_ret
      exact ⟨ret_bool E.out.symm, rfl⟩
    · have E := Lib.hid (btw_f (n := n) (l := l) (h := h) (.inr (by omega)))
      have a1 := decide_eq_true a
      have b1 := decide_eq_false b
      clear a b
      go_enter Try.func37, Try.ntmps37
      go_wp2
      go_ret
      exact ⟨ret_bool E.out.symm, rfl⟩
  · have E := Lib.hid (btw_f (n := n) (l := l) (h := h) (.inl (by omega)))
    have a1 := decide_eq_false a
    clear a
    go_enter Try.func37, Try.ntmps37
    go_wp2
    go_ret
    exact ⟨ret_bool E.out.symm, rfl⟩
theorem quiet_left {P : Program} {f : FuncId} {args : Array Value} {w : World} {n : Nat} {v : Value}
    (h : Calls P f args (w.drewN n) fun e w' => e = .returned v ∧ w.drewN n = w') : Calls P f args (w.drewN n) fun e w'' => e = .returned v ∧ ∃ m, w'' = w.drewN m :=
  h.mono fun _ _ ⟨he, hm⟩ => ⟨he, n, hm.symm⟩
theorem below_drewN {B : Nat} {a w : World} (h : Below B a w) (n : Nat) : Below B a (w.drewN n) := ⟨h.os, h.tape, h.output, h.size, h.block⟩
/-- A block of cells that nobody has frozen. -/
def Blk (w : World) (b : Nat) (t : TypeId) (cs : Array Value) : Prop := w.heap[b]? = some (.cells cs t (0, 0))
theorem Blk.lt {w : World} {b : Nat} {t : TypeId} {cs : Array Value} (h : Blk w b t cs) : b < w.heap.size := by
  rcases Nat.lt_or_ge b w.heap.size with hlt | hge
  · exact hlt
  · unfold Blk at h; rw [Array.getElem?_eq_none hge] at h; cases h
theorem Blk.grown {w w' : World} {b g : Nat} {t : TypeId} {cs : Array Value} (h : Blk w b t cs) (hg : w.grownBy w' (some g)) (hne : b ≠ g) : Blk w' b t cs :=
  (hg.block b h.lt (fun e => hne (by injection e))).trans h
theorem Blk.alloc {w : World} {b : Nat} {t : TypeId} {cs : Array Value} (h : Blk w b t cs) (o : Obj) : Blk (w.alloc o) b t cs := (Below.heap_alloc w o b h.lt).trans h
theorem Blk.below {w w' : World} {b B : Nat} {t : TypeId} {cs : Array Value} (h : Blk w b t cs) (hb : Below B w w') (hB : b < B) : Blk w' b t cs := (hb.block b hB).trans h
theorem Blk.drewN {w : World} {b : Nat} {t : TypeId} {cs : Array Value} (h : Blk w b t cs) (n : Nat) : Blk (w.drewN n) b t cs := h
theorem Blk.new (w : World) (cs : Array Value) (t : TypeId) : Blk (w.alloc (.cells cs t)) w.heap.size t cs := heap_alloc_new w _
theorem Blk.two {w : World} {b : Nat} {t : TypeId} {x y : Value} (h : Blk w b t #[x, y]) :
    (w.cell? ⟨b, 0, none⟩ = some x ∧ w.cell? ⟨b, 1, none⟩ = some y) ∧ (w.frozen? ⟨b, 0, none⟩ = false ∧ w.frozen? ⟨b, 1, none⟩ = false) := by
  unfold Blk at h
  simp [World.cell?, World.frozen?, h]
set_option maxHeartbeats 400000 in
theorem absR_any (n : Int) (w : World) (h0 : -1000000000000000000 ≤ n) (h1 : n ≤ 1000000000000000000) : Calls Try.prog 55 #[.int .i64 n] w fun e w' => e = .returned (.int .i64 (max n (-n))) ∧ w = w' := by
  obtain ⟨t, ht⟩ : ∃ t, t = max n (-n) := ⟨_, rfl⟩
  have fmax : ∀ W : World, (Builtin.max_ #[3, 3] 3 #[.int .i64 n, .int .i64 (-n)]).run Try.prog W = .ok (.int .i64 t) W := fun W => by rw [ht]; exact run_max2' _ _ _ _ W
  rw [← ht]
  clear ht
  go_enter Try.func55, Try.ntmps55
  go_wp2_with fail
  go_ret
  exact ⟨rfl, rfl⟩
theorem Rt.g_abs (a b : Int) : Rt.g (max a (-a)) b = Rt.g a b := by
  by_cases h : a < 0
  · rw [show max a (-a) = -a by omega]; exact Rt.g_neg a b
  · rw [show max a (-a) = a by omega]
set_option maxHeartbeats 400000 in
theorem commonDivisor_any (a b : Int) (w : World) (ha : -100000000000000 ≤ a) (ha2 : a ≤ 100000000000000) (hb : 1 ≤ b) (hb2 : b ≤ 100000000000000) :
    Calls Try.prog 50 #[.int .i64 a, .int .i64 b] w fun e w' => e = .returned (.int .i64 (Rt.g a b)) ∧ w = w' := by
  have HA := Lib.hid (absR_any a w (by omega) (by omega))
  have HG0 := Lib.hid (Rt.g_abs a b)
  have hm : 0 ≤ max a (-a) ∧ max a (-a) ≤ 100000000000000 := by omega
  generalize max a (-a) = t at HA HG0 hm
  obtain ⟨t0, t1⟩ := hm
  go_enter Try.func50, Try.ntmps50
  go_wp2_with fail
  refine HA.out.mono ?_
  rintro e w1 ⟨rfl, rfl⟩
  go_wp2_with fail
  go_loop [0, 1] (fun s t => ∃ x y : Int, 0 ≤ x ∧ x ≤ 100000000000000 ∧ 0 ≤ y ∧ y ≤ 100000000000000 ∧ Hid (Rt.g x y = Rt.g a b) ∧ s = .int .i64 x ∧ t = .int .i64 y) (fun s _ => (intOf s).toNat)
  case atStart => exact ⟨t, b, by omega, by omega, by omega, by omega, HG0, rfl, rfl⟩
  case round =>
    obtain ⟨x, y, x0, x1, y0, y1, HG, rfl, rfl⟩ := hrel
    by_cases hx : 0 < x
    · have HS := Lib.hid (Rt.g_step hx y0)
      have m0 : 0 ≤ y % x := Int.emod_nonneg _ (by omega)
      have m1 : y % x < x := Int.emod_lt_of_pos _ hx
      go_wp2_with fail
      go_round
      case rel => exact ⟨y % x, x, m0, by omega, by omega, by omega, Lib.hid (HS.out.trans HG.out), rfl, rfl⟩
      case measure => simp [intOf]; omega
    · have hx' := decide_eq_false hx
      obtain rfl : x = 0 := by omega
      have HE := Lib.hid ((Rt.g_zero y0).symm.trans HG.out)
      go_wp2_with fail
      go_ret
      exact ⟨ret_int HE.out, rfl⟩
set_option maxHeartbeats 400000 in
theorem divisor_any (a b : Int) (w : World) (ha : 0 ≤ a) (ha2 : a ≤ 100000000000000) (hb : 0 ≤ b) (hb2 : b ≤ 100000000000000) :
    Calls Try.prog 51 #[.int .i64 a, .int .i64 b] w fun e w' => e = .returned (.int .i64 (Rt.g a b)) ∧ w = w' := by
  go_enter Try.func51, Try.ntmps51
  go_wp2_with fail
  go_loop [0, 1] (fun s t => ∃ x y : Int, 0 ≤ x ∧ x ≤ 100000000000000 ∧ 0 ≤ y ∧ y ≤ 100000000000000 ∧ Hid (Rt.g x y = Rt.g a b) ∧ s = .int .i64 x ∧ t = .int .i64 y) (fun _ t => (intOf t).toNat)
  case atStart => exact ⟨a, b, by omega, by omega, by omega, by omega, Lib.hid rfl, rfl, rfl⟩
  case round =>
    obtain ⟨x, y, x0, x1, y0, y1, HG, rfl, rfl⟩ := hrel
    by_cases hy : 0 < y
    · have HS := Lib.hid (Rt.g_step' x0 hy)
      have m0 : 0 ≤ x % y := Int.emod_nonneg _ (by omega)
      have m1 : x % y < y := Int.emod_lt_of_pos _ hy
      go_wp2_with fail
      go_round
      case rel => exact ⟨y, x % y, by omega, by omega, m0, by omega, Lib.hid (HS.out.trans HG.out), rfl, rfl⟩
      case measure => simp [intOf]; omega
    · have hy' := decide_eq_false hy
      obtain rfl : y = 0 := by omega
      have HE := Lib.hid ((Rt.g_zero' x0).symm.trans HG.out)
      go_wp2_with fail
      go_ret
      exact ⟨ret_int HE.out, rfl⟩
end Go.Proofs.Ytejhicnejjiaaaa
