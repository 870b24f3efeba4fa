/- Trades: the exact law of valid ones. -/
import Derived.Test.YtkbojibgbmbmdaaTrXTrade
import Derived.Test.YtkbojibgbmbmdaaTd
namespace Go.Proofs.Ytkbojibgbmbmdaa
open Go.RowKit
set_option maxHeartbeats 2000000 in
theorem exValidTrades (a : Option Addr) (len cap : Nat) (ps : List Tri) (w : World) (hv : R3o w (.slice a len cap) ps) (hlen : ps.length = len) (hmax : len ≤ maxLen) :
    Calls Try.prog 12 #[.slice a len cap] w fun e w' => e = .returned (.bool true) ∧ Below w.heap.size w w' := by
  have HV := Lib.hid hv; clear hv
  have hm : ps.length ≤ 9223372036854775807 := by unfold maxLen at hmax; omega
  clear hmax
  subst hlen
  by_cases hbig : 1048576 < (ps.length : Int)
  · have E := Lib.hid (show (if (1048576 : Int) < ps.length then -1 else (1048576 : Int) - (ps.length : Int)) = -1 from if_pos hbig)
    go_enter Try.func12, Try.ntmps12
    go_wp2_with fail
    refine (szTradeS_any _ _ _ _ HV.out hm (by omega) (by omega)).mono ?_
    rw [E.out]
    rintro e w1 ⟨rfl, rfl⟩
    go_wp2_with fail
    go_ret
    exact ⟨rfl, Below.refl _ _⟩
  · have E := Lib.hid (show (if (1048576 : Int) < ps.length then -1 else (1048576 : Int) - (ps.length : Int)) = (1048576 : Int) - (ps.length : Int) from if_neg hbig)
    have hl : ps.length ≤ 1048576 := by omega
    have hn : ¬ (1048576 : Int) - (ps.length : Int) < 0 := by omega
    have hne : (Td.ok ps != Td.ok ps) = false := by simp
    go_enter Try.func12, Try.ntmps12
    go_wp2_with fail
    refine (szTradeS_any _ _ _ _ HV.out hm (by omega) (by omega)).mono ?_
    rw [E.out]
    rintro e w1 ⟨rfl, rfl⟩
    go_wp2_with fail
    refine (toTradeS_any _ _ _ HV.out hl).mono ?_
    rintro e w2 ⟨v2, rfl, h2, ⟨b2, rfl⟩, hb2⟩
    have R2 := Lib.hid h2.r3; clear h2
    go_wp2_with fail
    refine (sVTrades_any _ _ _ R2.out.o (by omega)).mono ?_
    rintro e w3 ⟨rfl, hb3⟩
    have hb4 := hb2.trans (hb3.mono hb2.size)
    clear hb2 hb3
    go_wp2_with fail
    refine (toTradeS_any _ _ _ (HV.out.below hb4 (Nat.le_refl _)) hl).mono ?_
    rintro e w5 ⟨v5, rfl, h5, ⟨b5, rfl⟩, hb5⟩
    have R5 := Lib.hid h5.r3; clear h5
    have hb6 := hb4.trans (hb5.mono hb4.size)
    clear hb4 hb5
    go_wp2_with fail
    refine (vtrades_any _ _ _ R5.out.o (by omega)).mono ?_
    rintro e w7 ⟨rfl, hb7⟩
    have R7 := Lib.hid (R5.out.below hb7 (Nat.le_refl _))
    have hb8 := hb6.trans (hb7.mono hb6.size)
    clear hb6 hb7
    go_wp2_with fail
    refine (toTradeS_any _ _ _ (HV.out.below hb8 (Nat.le_refl _)) hl).mono ?_
    rintro e w9 ⟨v9, rfl, h9, ⟨b9, rfl⟩, hb9⟩
    have R9 := Lib.hid h9.r3; clear h9
    have R8 := Lib.hid (R7.out.below hb9 (Nat.le_refl _))
    have hb10 := hb8.trans (hb9.mono hb8.size)
    clear hb8 hb9
    go_wp2_with fail
    refine (eqTradeS_same _ _ _ _ R8.out R9.out hl).mono ?_
    rintro e w11 ⟨rfl, hb11⟩
    go_wp2_with fail
    go_ret
    exact ⟨rfl, hb10.trans (hb11.mono hb10.size)⟩
end Go.Proofs.Ytkbojibgbmbmdaa
