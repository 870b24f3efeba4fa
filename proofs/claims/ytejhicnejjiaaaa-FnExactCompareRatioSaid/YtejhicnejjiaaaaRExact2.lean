/- The walks of the exact laws of two ratios. -/
import Derived.Test.YtejhicnejjiaaaaRExact
import Derived.Deep.RegionHeld3
namespace Go.Proofs.Ytejhicnejjiaaaa
open Go.RowKit
/-- Two ratios in two old blocks, and nothing older has turned. -/
structure Two (w : World) (g h : Nat) (a b c d : Int) (w' : World) : Prop where
  x0 : w'.cell? ⟨g, 0, none⟩ = some (.int .i64 a)
  x1 : w'.cell? ⟨g, 1, none⟩ = some (.int .i64 b)
  y0 : w'.cell? ⟨h, 0, none⟩ = some (.int .i64 c)
  y1 : w'.cell? ⟨h, 1, none⟩ = some (.int .i64 d)
  lg : g < w'.heap.size
  lh : h < w'.heap.size
  bel : Below w.heap.size w w'
theorem Two.below {w w' w'' : World} {g h : Nat} {a b c d : Int} (t : Two w g h a b c d w') (hb : Below w'.heap.size w' w'') : Two w g h a b c d w'' :=
  ⟨(hb.cell (p := ⟨g, 0, none⟩) t.lg).trans t.x0, (hb.cell (p := ⟨g, 1, none⟩) t.lg).trans t.x1, (hb.cell (p := ⟨h, 0, none⟩) t.lh).trans t.y0, (hb.cell (p := ⟨h, 1, none⟩) t.lh).trans t.y1,
    Nat.lt_of_lt_of_le t.lg hb.size, Nat.lt_of_lt_of_le t.lh hb.size, t.bel.trans (hb.mono t.bel.size)⟩
theorem Two.drew {w w' : World} {g h : Nat} {a b c d : Int} (t : Two w g h a b c d w') : Two w g h a b c d w'.drew := ⟨t.x0, t.x1, t.y0, t.y1, t.lg, t.lh, t.bel.drew⟩
theorem Two.alloc {w w' : World} {g h : Nat} {a b c d : Int} (t : Two w g h a b c d w') (o : Obj) : Two w g h a b c d (w'.alloc o) := t.below ((Below.refl _ _).alloc (Nat.le_refl _) o)
theorem Two.new (w : World) (a b c d : Int) (T : TypeId) : Two w w.heap.size (w.heap.size + 1) a b c d ((w.alloc (.cells #[.int .i64 a, .int .i64 b] T)).alloc (.cells #[.int .i64 c, .int .i64 d] T)) := by
  have k1 := (Blk.new w #[.int .i64 a, .int .i64 b] T).alloc (.cells #[.int .i64 c, .int .i64 d] T)
  have k2 := Blk.new (w.alloc (.cells #[.int .i64 a, .int .i64 b] T)) #[.int .i64 c, .int .i64 d] T
  simp only [World.size_alloc] at k2
  exact ⟨k1.two.1.1, k1.two.1.2, k2.two.1.1, k2.two.1.2, k1.lt, k2.lt, ((Below.refl w.heap.size w).alloc (Nat.le_refl _) _).alloc (by simp) _⟩
set_option maxHeartbeats 2000000 in
theorem exCompareRatio (a b c d : Int) (w : World) :
    Calls Try.prog 13 #[.agg #[.int .i64 a, .int .i64 b], .agg #[.int .i64 c, .int .i64 d]] w fun e w' => e = .returned (.bool true) ∧ Below w.heap.size w w' := by
  have hbb : (cmpV a b c d != cmpV a b c d) = false := by simp
  have K := Lib.hid (Two.new w a b c d 41)
  go_enter Try.func13, Try.ntmps13
  go_wp2_with fail
  go_region_held3 (fun w' => w'.cell? ⟨w.heap.size, 0, none⟩ = some (.int .i64 a) ∧ w'.cell? ⟨w.heap.size, 1, none⟩ = some (.int .i64 b) ∧ w'.cell? ⟨w.heap.size + 1, 0, none⟩ = some (.int .i64 c) ∧ w'.cell? ⟨w.heap.size + 1, 1, none⟩ = some (.int .i64 d))
    (first | exact ⟨K.out.drew.x0, K.out.drew.x1, K.out.drew.y0, K.out.drew.y1⟩ | exact ⟨k1.x0, k1.x1, k1.y0, k1.y1⟩ | exact ⟨k2.x0, k2.x1, k2.y0, k2.y1⟩ | exact ⟨k3.x0, k3.x1, k3.y0, k3.y1⟩)
    (first | (go_at_call 32; with_reducible refine (toRatio_any a b _).mono ?_; rintro e w1 ⟨rfl, hb1⟩; have k1 := K.out.drew.below hb1) | (go_at_call 32; with_reducible refine (toRatio_any c d _).mono ?_; rintro e w2 ⟨rfl, hb2⟩; have k2 := k1.below hb2) | (go_at_call 26; refine (sCompare_any _ _ _ _ _).mono ?_; rintro e w3 ⟨rfl, hb3⟩; have k3 := k2.below hb3))
  have K3 := Lib.hid k3
  clear k1 k2 k3 hb1 hb2 hb3 K
  go_wp2_with fail
  go_region_held3 (fun w' => w'.cell? ⟨w.heap.size, 0, none⟩ = some (.int .i64 a) ∧ w'.cell? ⟨w.heap.size, 1, none⟩ = some (.int .i64 b) ∧ w'.cell? ⟨w.heap.size + 1, 0, none⟩ = some (.int .i64 c) ∧ w'.cell? ⟨w.heap.size + 1, 1, none⟩ = some (.int .i64 d))
    (first | exact ⟨K3.out.drew.x0, K3.out.drew.x1, K3.out.drew.y0, K3.out.drew.y1⟩ | exact ⟨k4.x0, k4.x1, k4.y0, k4.y1⟩ | exact ⟨k5.x0, k5.x1, k5.y0, k5.y1⟩ | exact ⟨k6.x0, k6.x1, k6.y0, k6.y1⟩)
    (first | (go_at_call 32; with_reducible refine (toRatio_any a b _).mono ?_; rintro e w4 ⟨rfl, hb4⟩; have k4 := K3.out.drew.below hb4) | (go_at_call 32; with_reducible refine (toRatio_any c d _).mono ?_; rintro e w5 ⟨rfl, hb5⟩; have k5 := k4.below hb5) | (go_at_call 25; refine (compare_any _ _ _ _ _).mono ?_; rintro e w6 ⟨rfl, hb6⟩; have k6 := k5.below hb6))
  go_wp2_with fail
  go_ret
  exact ⟨rfl, k6.bel⟩
end Go.Proofs.Ytejhicnejjiaaaa
