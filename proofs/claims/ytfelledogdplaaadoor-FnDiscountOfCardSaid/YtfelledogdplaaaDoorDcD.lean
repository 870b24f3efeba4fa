/- Discounts: the draw. -/
import Derived.Test.YtfelledogdplaaaDoorDrawB
import Derived.Test.YtfelledogdplaaaDoorDc
import Derived.Deep.RegionHeld3
namespace Go.Proofs.YtfelledogdplaaaDoor
open Go.RowKit
set_option maxHeartbeats 1000000 in
theorem anyYield_any (w : World) (g p : Nat) (h : Rdr w g p) (hp : p ≤ 800000) :
    Calls Tryd.prog 13 #[.pointer (some ⟨g, 0, none⟩)] w (Drawn (-1) 100001 2 w g p) := by
  have hgl := h.lt
  go_enter Tryd.func13, Tryd.ntmps13
  go_wp2_with fail
  refine (pick_any _ _ _ _ h (by omega) (by omega) (by omega)).mono ?_
  rintro e w1 ⟨v, rfl, ⟨hv, _⟩, hr, hg⟩
  obtain ⟨v0, v1⟩ := hv (by omega)
  have hgl1 := hr.lt
  clear hv
  have OK : Hid (okInts (-1) 100001 #[.int .i64 25000, .int .i64 0, .int .i64 12500, .int .i64 50000, .int .i64 97500, .int .i64 100000, .int .i64 100001, .int .i64 (-1), .int .i64 (v * 400)] = true) := Lib.hid (by simp [okInts, okInt]; omega)
  have W1 : IntKind.i64.wrap (v * 400) = v * 400 := IntWalk.i64_in _ (by omega)
  go_wp2_with fail
  refine (one_any (-1) 100001 _ g _ w1.heap.size _ _ (hr.alloc _) (by omega) (heap_alloc_new w1 _) (by omega) (by simp) (by simp) OK.out 9 9 (by rfl)).mono ?_
  rintro e w3 ⟨x, rfl, hx, hr3, hg3⟩
  replace hg := grown_trans (grown_alloc hg _) hg3
  go_wp2_with fail
  go_ret
  exact ⟨x, rfl, hx, hr3, hg⟩
def DcD (w : World) (e : Ending) (w' : World) : Prop :=
  ∃ y p d n : Int, e = .returned (.tuple #[.int .i64 y, .int .i64 p, .int .i64 d, .int .i64 n]) ∧ (-1 ≤ y ∧ y ≤ 100001) ∧ (-1 ≤ p ∧ p ≤ 4002) ∧ (0 ≤ d ∧ d ≤ 4001) ∧ (-1 ≤ n ∧ n ≤ 41) ∧ Below w.heap.size w w'
set_option maxRecDepth 8000 in
set_option maxHeartbeats 8000000 in
theorem drawDc_any (w : World) (a : Option Addr) (len cap : Nat) (zs : List Int) (h : IsRow .u8 w a len cap zs) :
    Calls Tryd.prog 7 #[.slice a len cap] w (DcD w) := by
  have H := Lib.hid h; clear h
  go_enter Tryd.func7, Tryd.ntmps7
  go_wp2_with fail
  refine (newReader_any _ _ _ _ _ H.out).mono ?_
  rintro e w1 ⟨g, rfl, hwg, hr, hb⟩
  have HB1 := Lib.hid hb
  clear hb
  go_wp2_with fail
  refine (anyYield_any _ _ _ hr (by omega)).mono ?_
  rintro e w2 ⟨y, rfl, hy, hr2, hg2⟩
  have HB2 := Lib.hid (below_grown HB1.out hg2 (by omega))
  have hgl2 := hr2.lt
  clear hg2 hr HB1
  go_wp2_with fail
  refine (one_any 0 4001 _ g _ w2.heap.size _ _ (hr2.alloc _) (by omega) (heap_alloc_new w2 _) (by omega) (by simp) (by simp) (by decide) 7 7 (by rfl)).mono ?_
  rintro e w3 ⟨x, rfl, ⟨x0, x1⟩, hr3, hg3⟩
  have hgl : g < w3.heap.size := hr3.lt
  have HB3 := Lib.hid (below_grown (HB2.out.alloc HB2.out.size (.cells #[.int .i64 182, .int .i64 365, .int .i64 1, .int .i64 90, .int .i64 0, .int .i64 4000, .int .i64 4001] 3)) hg3 (by omega))
  have HR3 := Lib.hid hr3
  clear hg3 hr3 hr2 HB2
  have OKA : Hid (okInts (-1) 4002 #[.int .i64 0, .int .i64 30, .int .i64 x, .int .i64 (x / 2), .int .i64 (x + 1), .int .i64 (-1)] = true) := Lib.hid (by simp [okInts, okInt]; omega)
  go_wp2_with fail
  refine (one_any (-1) 4002 _ g _ w3.heap.size _ _ (HR3.out.alloc _) (by omega) (heap_alloc_new w3 _) (by omega) (by simp) (by simp) OKA.out 6 6 (by rfl)).mono ?_
  rintro e w4 ⟨p, rfl, hp, hr4, hg4⟩
  have hgl4 : g < w4.heap.size := hr4.lt
  have HB4 := Lib.hid (below_grown (HB3.out.alloc HB3.out.size (.cells #[.int .i64 0, .int .i64 30, .int .i64 x, .int .i64 (x / 2), .int .i64 (x + 1), .int .i64 (-1)] 3)) hg4 (by omega))
  have HR4 := Lib.hid hr4
  clear hg4 hr4
  go_wp2_with fail
  refine (one_any (-1) 41 _ g _ w4.heap.size _ _ (HR4.out.alloc _) (by omega) (heap_alloc_new w4 _) (by omega) (by simp) (by simp) (by decide) 7 7 (by rfl)).mono ?_
  rintro e w5 ⟨n, rfl, hn, hr5, hg5⟩
  have HB5 := Lib.hid (below_grown (HB4.out.alloc HB4.out.size (.cells #[.int .i64 0, .int .i64 1, .int .i64 3, .int .i64 10, .int .i64 40, .int .i64 41, .int .i64 (-1)] 3)) hg5 (by omega))
  go_wp2_with fail
  refine bodyPost_ret (v := .tuple #[.int .i64 y, .int .i64 p, .int .i64 x, .int .i64 n]) (by simp [results, Tryd.results7, go_sem]) rfl ⟨y, p, x, n, rfl, hy, hp, ⟨x0, x1⟩, hn, HB5.out⟩
end Go.Proofs.YtfelledogdplaaaDoor
