/- The exact law of balances, and the law of all ledgers. -/
import Derived.Test.YtcakdjmmlcjkbaaTrXPost
import Derived.Test.YtcakdjmmlcjkbaaBal2
namespace Go.Proofs.Ytcakdjmmlcjkbaa
open Go.RowKit
set_option maxHeartbeats 2000000 in
theorem exBalanceOf (a : Option Addr) (len cap : Nat) (ps : List Tri) (x : Int) (w : World) (hv : R3o w (.slice a len cap) ps) (hlen : ps.length = len) (hmax : len ≤ maxLen) (hx : (Lit.int .i64 x).wf = true) :
    Calls Try.prog 9 #[.slice a len cap, .int .i64 x] w fun e w' => e = .returned (.bool true) ∧ Below w.heap.size w w' := by
  have HV := Lib.hid hv; clear hv
  have HX := Lib.hid hx; clear hx
  have hm : ps.length ≤ 9223372036854775807 := by unfold maxLen at hmax; omega
  clear hmax
  subst hlen
  by_cases hbig : 1048576 < (ps.length : Int)
  · have E := Lib.hid (show (if (1048576 : Int) < ps.length then -1 else (1048576 : Int) - (ps.length : Int)) = -1 from if_pos hbig)
    go_enter Try.func9, Try.ntmps9
    go_wp2_with fail
    refine (szPostS_any _ _ _ _ HV.out hm (by omega) (by omega)).mono ?_
    rw [E.out]
    rintro e w1 ⟨rfl, rfl⟩
    go_wp2_with fail
    go_ret
    exact ⟨rfl, Below.refl _ _⟩
  · have E := Lib.hid (show (if (1048576 : Int) < ps.length then -1 else (1048576 : Int) - (ps.length : Int)) = (1048576 : Int) - (ps.length : Int) from if_neg hbig)
    have hl : ps.length ≤ 1048576 := by omega
    have hn : ¬ (1048576 : Int) - (ps.length : Int) < 0 := by omega
    have hne : (Bl.val ps x != Bl.val ps x) = false := by simp
    go_enter Try.func9, Try.ntmps9
    go_wp2_with fail
    refine (szPostS_any _ _ _ _ HV.out hm (by omega) (by omega)).mono ?_
    rw [E.out]
    rintro e w1 ⟨rfl, rfl⟩
    go_wp2_with fail
    refine (toPostS_any _ _ _ HV.out hl).mono ?_
    rintro e w2 ⟨v2, rfl, h2, ⟨b2, rfl⟩, hb2⟩
    have R2 := Lib.hid h2.r3; clear h2
    go_wp2_with fail
    refine (sbalOf_any _ _ _ _ R2.out.o (by omega)).mono ?_
    rintro e w3 ⟨rfl, hb3⟩
    have hb4 := hb2.trans (hb3.mono hb2.size)
    clear hb2 hb3
    go_wp2_with fail
    refine (toPostS_any _ _ _ (HV.out.below hb4 (Nat.le_refl _)) hl).mono ?_
    rintro e w5 ⟨v5, rfl, h5, ⟨b5, rfl⟩, hb5⟩
    have R5 := Lib.hid h5.r3; clear h5
    have hb6 := hb4.trans (hb5.mono hb4.size)
    clear hb4 hb5
    go_wp2_with fail
    refine (balOf_any _ _ _ _ R5.out.o (by omega) HX.out).mono ?_
    rintro e w7 ⟨rfl, hb7⟩
    have R7 := Lib.hid (R5.out.below hb7 (Nat.le_refl _))
    have hb8 := hb6.trans (hb7.mono hb6.size)
    clear hb6 hb7
    go_wp2_with fail
    refine (toPostS_any _ _ _ (HV.out.below hb8 (Nat.le_refl _)) hl).mono ?_
    rintro e w9 ⟨v9, rfl, h9, ⟨b9, rfl⟩, hb9⟩
    have R9 := Lib.hid h9.r3; clear h9
    have R8 := Lib.hid (R7.out.below hb9 (Nat.le_refl _))
    have hb10 := hb8.trans (hb9.mono hb8.size)
    clear hb8 hb9
    go_wp2_with fail
    refine (eqPostS_same _ _ _ _ R8.out R9.out hl).mono ?_
    rintro e w11 ⟨rfl, hb11⟩
    go_wp2_with fail
    go_ret
    exact ⟨rfl, hb10.trans (hb11.mono hb10.size)⟩
/-- All accounts together. -/
theorem Bl.all {ps : List Tri} (h : Ps.ok ps = true) : ∀ i : Nat, i ≤ ps.length → Bl.sum (ps.take i) 0 + Bl.sum (ps.take i) 1 + Bl.sum (ps.take i) 2 + Bl.sum (ps.take i) 3 + Bl.sum (ps.take i) 4 + Bl.sum (ps.take i) 5 = 0
  | 0, _ => by simp [Bl.sum]
  | i + 1, hi => by
    have ih := Bl.all h i (by omega)
    obtain ⟨⟨f0, f1⟩, ⟨g0, g1⟩, -, -⟩ := (Ps.parts h).2 i (by omega)
    have hs : Bl.one (ps.getD i t0) 0 + Bl.one (ps.getD i t0) 1 + Bl.one (ps.getD i t0) 2 + Bl.one (ps.getD i t0) 3 + Bl.one (ps.getD i t0) 4 + Bl.one (ps.getD i t0) 5 = 0 := by
      generalize ps.getD i t0 = p at *
      obtain ⟨f, t, u⟩ := p
      simp only at f0 f1 g0 g1
      have hf : f = 0 ∨ f = 1 ∨ f = 2 ∨ f = 3 ∨ f = 4 ∨ f = 5 := by omega
      have hg : t = 0 ∨ t = 1 ∨ t = 2 ∨ t = 3 ∨ t = 4 ∨ t = 5 := by omega
      unfold Bl.one
      rcases hf with rfl | rfl | rfl | rfl | rfl | rfl <;> rcases hg with rfl | rfl | rfl | rfl | rfl | rfl <;> simp <;> omega
    rw [Bl.take (by omega), Bl.take (by omega), Bl.take (by omega), Bl.take (by omega), Bl.take (by omega), Bl.take (by omega)]
    omega
theorem Bl.out {ps : List Tri} (h : Ps.ok ps = true) {x : Int} (hx : x < 0 ∨ 5 < x) : ∀ i : Nat, i ≤ ps.length → Bl.sum (ps.take i) x = 0
  | 0, _ => by simp [Bl.sum]
  | i + 1, hi => by
    have ih := Bl.out h hx i (by omega)
    obtain ⟨⟨f0, f1⟩, ⟨g0, g1⟩, -, -⟩ := (Ps.parts h).2 i (by omega)
    rw [Bl.take (by omega), ih]
    unfold Bl.one
    rw [if_neg (by omega), if_neg (by omega)]
    omega
theorem Bl.val_all (ps : List Tri) : Bl.val ps 0 + Bl.val ps 1 + Bl.val ps 2 + Bl.val ps 3 + Bl.val ps 4 + Bl.val ps 5 = 0 := by
  unfold Bl.val
  cases h : Ps.ok ps with
  | false => simp
  | true =>
    have := Bl.all h ps.length (Nat.le_refl _)
    rw [List.take_length] at this
    simpa using this
theorem Bl.val_out (ps : List Tri) {x : Int} (hx : x < 0 ∨ 5 < x) : Bl.val ps x = 0 := by
  unfold Bl.val
  cases h : Ps.ok ps with
  | false => simp
  | true =>
    have := Bl.out h hx ps.length (Nat.le_refl _)
    rw [List.take_length] at this
    simpa using this
theorem Bl.val_bd (ps : List Tri) (x : Int) : -40000000000 ≤ Bl.val ps x ∧ Bl.val ps x ≤ 40000000000 := by
  unfold Bl.val
  cases h : Ps.ok ps with
  | false => simp
  | true =>
    have := Bl.bd h x ps.length (Nat.le_refl _)
    have hl := (Ps.parts h).1
    rw [List.take_length] at this
    simp only [if_true]
    omega
def Bl.part (ps : List Tri) : Nat → Int
  | 0 => 0
  | i + 1 => Bl.part ps i + Bl.val ps i
theorem Bl.part_bd (ps : List Tri) : ∀ i : Nat, i ≤ 6 → -40000000000 * (i : Int) ≤ Bl.part ps i ∧ Bl.part ps i ≤ 40000000000 * (i : Int)
  | 0, _ => by simp [Bl.part]
  | i + 1, h => by
    have ih := Bl.part_bd ps i (by omega)
    have := Bl.val_bd ps i
    unfold Bl.part
    omega
theorem Bl.part_six (ps : List Tri) : Bl.part ps 6 = 0 := by
  have := Bl.val_all ps
  simp only [Bl.part]
  simpa using this
set_option maxHeartbeats 2000000 in
theorem topLedger (a : Option Addr) (len cap : Nat) (ps : List Tri) (x : Int) (w : World) (hv : R3o w (.slice a len cap) ps) (hlen : ps.length = len) (hmax : len ≤ maxLen) (hx : (Lit.int .i64 x).wf = true) :
    Calls Try.prog 11 #[.slice a len cap, .int .i64 x] w fun e w' => e = .returned (.bool true) ∧ Below w.heap.size w w' := by
  have HV := Lib.hid hv; clear hv
  have HX := Lib.hid hx; clear hx
  have hm : ps.length ≤ 9223372036854775807 := by unfold maxLen at hmax; omega
  clear hmax
  have hne : (Bl.val ps x != Bl.val ps x) = false := by simp
  go_enter Try.func11, Try.ntmps11
  go_wp2_with fail
  refine (balOf_any _ _ _ _ HV.out hm HX.out).mono ?_
  rintro e w1 ⟨rfl, hb1⟩
  go_wp2_with fail
  refine (sbalOf_any _ _ _ _ (HV.out.below hb1 (Nat.le_refl _)) hm).mono ?_
  rintro e w2 ⟨rfl, hb2⟩
  have hb3 := hb1.trans (hb2.mono hb1.size)
  clear hb1 hb2
  go_wp2_with fail
  go_loopw [6, 7] (fun o y wr => ∃ k : Nat, k ≤ 6 ∧ y = .int .i64 k ∧ o = .int .i64 (Bl.part ps k) ∧ Below w.heap.size w wr) (fun _ y _ => 6 - (intOf y).toNat)
  case atStart => exact ⟨0, by omega, rfl, rfl, hb3⟩
  case round =>
    obtain ⟨k, hk, rfl, rfl, hb⟩ := hrel
    by_cases hlt : k < 6
    · have hk5 : (k : Int) ≤ 5 := by omega
      obtain ⟨s0, s1⟩ := Bl.part_bd ps k (by omega)
      obtain ⟨v0, v1⟩ := Bl.val_bd ps k
      have HS := Lib.hid (show Bl.part ps (k + 1) = Bl.part ps k + Bl.val ps k from rfl)
      have HC := Lib.hid (fun W hr => balOf_any W (.slice a len cap) ps k hr hm (wf_i64 (by omega) (by omega)))
      generalize Bl.part ps k = S at *
      generalize Bl.val ps k = V at *
      go_wp2_with fail
      refine (HC.out _ (HV.out.below hb (Nat.le_refl _))).mono ?_
      rintro e w4 ⟨rfl, hb4⟩
      go_wp2_with fail
      go_roundw
      case rel => exact ⟨k + 1, by omega, by go_num, by rw [HS.out], hb.trans (hb4.mono hb.size)⟩
      case measure => simp [intOf]; omega
    · obtain rfl : k = 6 := by omega
      have h6 := Bl.part_six ps
      have hout := fun h => Bl.val_out ps (x := x) h
      generalize Bl.part ps 6 = S at *
      generalize Bl.val ps x = V at *
      subst h6
      by_cases h1 : 0 ≤ x
      · by_cases h2 : x ≤ 5
        · clear hout
          go_wp2_with fail
          go_ret
          exact ⟨rfl, hb⟩
        · have hV := hout (.inr (by omega))
          subst hV
          clear hout
          go_wp2_with fail
          go_ret
          exact ⟨rfl, hb⟩
      · have hV := hout (.inl (by omega))
        subst hV
        clear hout
        go_wp2_with fail
        go_ret
        exact ⟨rfl, hb⟩
end Go.Proofs.Ytcakdjmmlcjkbaa
