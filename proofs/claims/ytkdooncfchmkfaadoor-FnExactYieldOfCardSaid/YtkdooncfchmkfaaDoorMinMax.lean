/- What min and max of integers give. -/
import Derived.Test.YtkdooncfchmkfaaDoorProg
import Derived.WalkKit
namespace Go.Proofs.YtkdooncfchmkfaaDoor
theorem run_min2 (x y : Int) (w : World) : (Builtin.min2 (.int .i64 x) (.int .i64 y)).run Tryd.prog w = .ok (.int .i64 (min x y)) w := by
  by_cases h : y < x
  · simp [Builtin.min2, go_sem, h]; omega
  · simp [Builtin.min2, go_sem, h]; omega
theorem run_max2 (x y : Int) (w : World) : (Builtin.max2 (.int .i64 x) (.int .i64 y)).run Tryd.prog w = .ok (.int .i64 (max x y)) w := by
  by_cases h : x < y
  · simp [Builtin.max2, go_sem, h]; omega
  · simp [Builtin.max2, go_sem, h]; omega
theorem run_min4 (ts : Array TypeId) (t : TypeId) (x y z u : Int) (w : World) : (Builtin.min_ ts t #[.int .i64 x, .int .i64 y, .int .i64 z, .int .i64 u]).run Tryd.prog w = .ok (.int .i64 (min (min (min x y) z) u)) w := by
  simp [Builtin.min_, go_sem, run_min2]
theorem run_max4 (ts : Array TypeId) (t : TypeId) (x y z u : Int) (w : World) : (Builtin.max_ ts t #[.int .i64 x, .int .i64 y, .int .i64 z, .int .i64 u]).run Tryd.prog w = .ok (.int .i64 (max (max (max x y) z) u)) w := by
  simp [Builtin.max_, go_sem, run_max2]
theorem run_min2' (ts : Array TypeId) (t : TypeId) (x y : Int) (w : World) : (Builtin.min_ ts t #[.int .i64 x, .int .i64 y]).run Tryd.prog w = .ok (.int .i64 (min x y)) w := by
  simp [Builtin.min_, go_sem, run_min2]
theorem run_max2' (ts : Array TypeId) (t : TypeId) (x y : Int) (w : World) : (Builtin.max_ ts t #[.int .i64 x, .int .i64 y]).run Tryd.prog w = .ok (.int .i64 (max x y)) w := by
  simp [Builtin.max_, go_sem, run_max2]
end Go.Proofs.YtkdooncfchmkfaaDoor
