/- Prices in 64ths: in hundredths, on both sides; drawn; and the laws of hundredths. -/
import Derived.Test.YtoledkecgfhdbaaDoorRpB
namespace Go.Proofs.YtoledkecgfhdbaaDoor
open Go.RowKit
/-- A price in hundredths. -/
def Qc.val (n : Int) : Int := if btw n 0 19200 = true then (2 * (100 * n) + 64) / 128 else -1
theorem Qc.no {n : Int} (h : btw n 0 19200 = false) : Qc.val n = -1 := if_neg (by rw [h]; simp)
theorem Qc.yes {n : Int} (h : btw n 0 19200 = true) : Qc.val n = (2 * (100 * n) + 64) / 128 := if_pos h
theorem vquote_any (n : Int) (w : World) : Calls Tryd.prog 15 #[.int .i64 n] w fun e w' => e = .returned (.bool (btw n 0 19200)) ∧ w = w' := by
  go_enter Tryd.func15, Tryd.ntmps15
  go_wp2_with fail
  refine (between_any _ _ _ _).mono ?_
  rintro e w' ⟨rfl, rfl⟩
  go_wp2_with fail
  go_ret
  exact ⟨rfl, rfl⟩
set_option maxHeartbeats 1000000 in
theorem anyQuote_any (w : World) (g p : Nat) (h : Rdr w g p) (hp : p ≤ 800000) :
    Calls Tryd.prog 13 #[.pointer (some ⟨g, 0, none⟩)] w (Drawn (-1) 19201 3 w g p) := by
  have hgl := h.lt
  go_enter Tryd.func13, Tryd.ntmps13
  go_wp2_with fail
  refine (pick_any _ _ _ _ h (by omega) (by omega) (by omega)).mono ?_
  rintro e w1 ⟨v, rfl, ⟨hv, _⟩, hr, hg⟩
  obtain ⟨v0, v1⟩ := hv (by omega)
  have hgl1 := hr.lt
  clear hv
  go_wp2_with fail
  refine (pick_any _ _ _ _ hr (by omega) (by omega) (by omega)).mono ?_
  rintro e w2 ⟨u, rfl, ⟨hu, _⟩, hr2, hg2⟩
  obtain ⟨u0, u1⟩ := hu (by omega)
  have hgl2 := hr2.lt
  clear hu
  replace hg := grown_trans hg hg2
  have OK : Hid (okInts (-1) 19201 #[.int .i64 6400, .int .i64 6433, .int .i64 6369, .int .i64 0, .int .i64 1, .int .i64 63, .int .i64 64, .int .i64 19200, .int .i64 19201, .int .i64 (-1), .int .i64 (v * 76), .int .i64 u] = true) := Lib.hid (by simp [okInts, okInt]; omega)
  have W1 : IntKind.i64.wrap (v * 76) = v * 76 := IntWalk.i64_in _ (by omega)
  go_wp2_with fail
  refine (one_any (-1) 19201 _ g _ w2.heap.size _ _ (hr2.alloc _) (by omega) (heap_alloc_new w2 _) (by omega) (by simp) (by simp) OK.out 12 12 (by rfl)).mono ?_
  rintro e w3 ⟨x, rfl, hx, hr3, hg3⟩
  replace hg := grown_trans (grown_alloc hg _) hg3
  go_wp2_with fail
  go_ret
  exact ⟨x, rfl, hx, hr3, hg⟩
end Go.Proofs.YtoledkecgfhdbaaDoor
