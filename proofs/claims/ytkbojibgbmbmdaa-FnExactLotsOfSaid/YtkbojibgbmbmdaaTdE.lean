/- Trades drawn: the draws of chapter 15. -/
import Derived.Test.YtkbojibgbmbmdaaTdD
namespace Go.Proofs.Ytkbojibgbmbmdaa
open Go.RowKit
def DT (w : World) (e : Ending) (w' : World) : Prop :=
  ∃ b c ps, e = .returned (.slice (some ⟨b, 0, none⟩) ps.length c) ∧ TRow 35 w' w.heap.size (.slice (some ⟨b, 0, none⟩) ps.length c) ps ∧ ps.length ≤ 17 ∧ (∀ q ∈ ps, TdIn q) ∧ Below w.heap.size w w'
def DTn (w : World) (e : Ending) (w' : World) : Prop :=
  ∃ b c ps n, e = .returned (.tuple #[.slice (some ⟨b, 0, none⟩) ps.length c, .int .i64 n]) ∧ TRow 35 w' w.heap.size (.slice (some ⟨b, 0, none⟩) ps.length c) ps ∧ ps.length ≤ 17 ∧ (∀ q ∈ ps, TdIn q) ∧ (9000 ≤ n ∧ n ≤ 9100) ∧ Below w.heap.size w w'
set_option maxHeartbeats 1000000 in
theorem drawVT_any (w : World) (a : Option Addr) (len cap : Nat) (zs : List Int) (h : IsRow .u8 w a len cap zs) :
    Calls Try.prog 14 #[.slice a len cap] w (DT w) := by
  have H := Lib.hid h; clear h
  go_enter Try.func14, Try.ntmps14
  go_wp2_with fail
  refine (newReader_any _ _ _ _ _ H.out).mono ?_
  rintro e w1 ⟨g, rfl, hg, hr, hb⟩
  have HB := Lib.hid hb
  go_wp2_with fail
  refine (anyTrades_any _ _ _ hr (by omega)).mono ?_
  rintro e w2 ⟨b, c, ps, rfl, hF, hl, hI, hr2, hg2⟩
  have HF := Lib.hid (hF.lower HB.out.size)
  have HB2 := Lib.hid (below_grown HB.out hg2 (by omega))
  clear hF hg2 hr2
  go_wp2_with fail
  go_ret
  exact ⟨_, _, _, rfl, HF.out, hl, hI, HB2.out⟩
set_option maxHeartbeats 1000000 in
theorem drawLO_any (w : World) (a : Option Addr) (len cap : Nat) (zs : List Int) (h : IsRow .u8 w a len cap zs) :
    Calls Try.prog 21 #[.slice a len cap] w (DT w) := by
  have H := Lib.hid h; clear h
  go_enter Try.func21, Try.ntmps21
  go_wp2_with fail
  refine (newReader_any _ _ _ _ _ H.out).mono ?_
  rintro e w1 ⟨g, rfl, hg, hr, hb⟩
  have HB := Lib.hid hb
  go_wp2_with fail
  refine (anyTrades_any _ _ _ hr (by omega)).mono ?_
  rintro e w2 ⟨b, c, ps, rfl, hF, hl, hI, hr2, hg2⟩
  have HF := Lib.hid (hF.lower HB.out.size)
  have HB2 := Lib.hid (below_grown HB.out hg2 (by omega))
  clear hF hg2 hr2
  go_wp2_with fail
  go_ret
  exact ⟨_, _, _, rfl, HF.out, hl, hI, HB2.out⟩
set_option maxHeartbeats 1000000 in
theorem drawGO_any (w : World) (a : Option Addr) (len cap : Nat) (zs : List Int) (h : IsRow .u8 w a len cap zs) :
    Calls Try.prog 24 #[.slice a len cap] w (DT w) := by
  have H := Lib.hid h; clear h
  go_enter Try.func24, Try.ntmps24
  go_wp2_with fail
  refine (newReader_any _ _ _ _ _ H.out).mono ?_
  rintro e w1 ⟨g, rfl, hg, hr, hb⟩
  have HB := Lib.hid hb
  go_wp2_with fail
  refine (anyTrades_any _ _ _ hr (by omega)).mono ?_
  rintro e w2 ⟨b, c, ps, rfl, hF, hl, hI, hr2, hg2⟩
  have HF := Lib.hid (hF.lower HB.out.size)
  have HB2 := Lib.hid (below_grown HB.out hg2 (by omega))
  clear hF hg2 hr2
  go_wp2_with fail
  go_ret
  exact ⟨_, _, _, rfl, HF.out, hl, hI, HB2.out⟩
set_option maxHeartbeats 1000000 in
theorem drawPA_any (w : World) (a : Option Addr) (len cap : Nat) (zs : List Int) (h : IsRow .u8 w a len cap zs) :
    Calls Try.prog 17 #[.slice a len cap] w (DTn w) := by
  have H := Lib.hid h; clear h
  go_enter Try.func17, Try.ntmps17
  go_wp2_with fail
  refine (newReader_any _ _ _ _ _ H.out).mono ?_
  rintro e w1 ⟨g, rfl, hg, hr, hb⟩
  have HB := Lib.hid hb
  have hgl := hr.lt
  go_wp2_with fail
  refine (anyTrades_any _ _ _ hr (by omega)).mono ?_
  rintro e w2 ⟨b, c, ps, rfl, hF, hl, hI, hr2, hg2⟩
  have HF := Lib.hid hF
  have HB2 := Lib.hid (below_grown HB.out hg2 (by omega))
  clear hF hg2
  go_wp2_with fail
  refine (pick_any _ _ _ _ hr2 (by omega) (by omega) (by omega)).mono ?_
  rintro e w3 ⟨y, rfl, ⟨hy, -⟩, hr3, hg3⟩
  obtain ⟨y0, y1⟩ := hy (by omega)
  have HF3 := Lib.hid ((HF.out.grown hg3 hgl).lower HB.out.size)
  have HB3 := Lib.hid (below_grown HB2.out hg3 (by omega))
  clear hy hg3
  go_wp2_with fail
  refine bodyPost_ret (v := .tuple #[.slice (some ⟨b, 0, none⟩) ps.length c, .int .i64 (9000 + y)]) (by simp [results, Try.results17, go_sem]) rfl ⟨_, _, _, _, rfl, HF3.out, hl, hI, by omega, HB3.out⟩
end Go.Proofs.Ytkbojibgbmbmdaa
