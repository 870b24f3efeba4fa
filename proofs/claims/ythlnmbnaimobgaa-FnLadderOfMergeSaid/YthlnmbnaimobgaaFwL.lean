/- The laws of cash and of needs. -/
import Derived.Test.YthlnmbnaimobgaaFwD
namespace Go.Proofs.Ythlnmbnaimobgaa
open Go.RowKit
theorem TRow2.slice {T : TypeId} {w : World} {B : Nat} {v : Value} {ps : List Pr} (h : TRow2 T w B v ps) (hn : v ≠ .slice none 0 0) : ∃ b c, v = .slice (some ⟨b, 0, none⟩) ps.length c := by
  rcases h.2 with ⟨h, _⟩ | ⟨b, cap, cur, h, _⟩
  · exact absurd h hn
  · exact ⟨b, cap, h⟩
def DFl (w : World) (e : Ending) (w' : World) : Prop :=
  ∃ v ps, e = .returned v ∧ TRow2 53 w' w.heap.size v ps ∧ ps.length ≤ 61 ∧ (∀ q ∈ ps, FlIn q) ∧ (∃ b c, v = .slice (some ⟨b, 0, none⟩) ps.length c) ∧ Below w.heap.size w w'
def DFlA (w : World) (e : Ending) (w' : World) : Prop :=
  ∃ v ps, ∃ x y : Int, e = .returned (.tuple #[v, .int .i64 x, .int .i64 y]) ∧ TRow2 53 w' w.heap.size v ps ∧ ps.length ≤ 61 ∧ (∀ q ∈ ps, FlIn q) ∧ (∃ b c, v = .slice (some ⟨b, 0, none⟩) ps.length c) ∧ (-50 ≤ x ∧ x ≤ 1000000001) ∧ (9000 ≤ y ∧ y ≤ 9069) ∧ Below w.heap.size w w'
set_option maxHeartbeats 1000000 in
theorem drawCN_any (w : World) (a : Option Addr) (len cap : Nat) (zs : List Int) (h : IsRow .u8 w a len cap zs) :
    Calls Try.prog 48 #[.slice a len cap] w (DFl w) := by
  have H := Lib.hid h; clear h
  go_enter Try.func48, Try.ntmps48
  go_wp2_with fail
  refine (newReader_any _ _ _ _ _ H.out).mono ?_
  rintro e w1 ⟨g, rfl, hg, hr, hb⟩
  go_wp2_with fail
  refine (anyFlows_any _ _ _ hr (by omega)).mono ?_
  rintro e w2 ⟨v, ps, rfl, hF, hl, hI, hn, hr2, hg2⟩
  obtain ⟨b, c, rfl⟩ := hF.slice hn
  have HF := Lib.hid (hF.lower hb.size)
  have HI := Lib.hid hI
  clear hF hI hn
  go_wp2_with fail
  go_ret
  exact ⟨_, ps, rfl, HF.out, hl, HI.out, ⟨_, _, rfl⟩, below_grown hb hg2 (by omega)⟩
set_option maxHeartbeats 1000000 in
theorem drawCA_any (w : World) (a : Option Addr) (len cap : Nat) (zs : List Int) (h : IsRow .u8 w a len cap zs) :
    Calls Try.prog 45 #[.slice a len cap] w (DFlA w) := by
  have H := Lib.hid h; clear h
  go_enter Try.func45, Try.ntmps45
  go_wp2_with fail
  refine (newReader_any _ _ _ _ _ H.out).mono ?_
  rintro e w1 ⟨g, rfl, hg, hr, hb⟩
  go_wp2_with fail
  refine (anyFlows_any _ _ _ hr (by omega)).mono ?_
  rintro e w2 ⟨v, ps, rfl, hF, hl, hI, hn, hr2, hg2⟩
  obtain ⟨b, c, rfl⟩ := hF.slice hn
  have HF := Lib.hid hF
  have HI := Lib.hid hI
  have hgl : g < w1.heap.size := hr.lt
  have hb2 := below_grown hb hg2 (by omega)
  clear hF hI hn
  go_wp2_with fail
  refine (one_any (-50) 1000000001 _ g _ w2.heap.size _ _ (hr2.alloc _) (by omega) (heap_alloc_new w2 _) (by have := hr2.lt; omega) (by decide) (by decide) (by decide) 5 5 (by rfl)).mono ?_
  rintro e w3 ⟨x, rfl, ⟨x0, x1⟩, hr3, hg3⟩
  have HF3 := Lib.hid ((HF.out.alloc (.cells #[.int .i64 0, .int .i64 100, .int .i64 (-50), .int .i64 1000000000, .int .i64 1000000001] 3)).grown hg3 hgl)
  have hb3 := below_grown (hb2.alloc hb2.size (.cells #[.int .i64 0, .int .i64 100, .int .i64 (-50), .int .i64 1000000000, .int .i64 1000000001] 3)) hg3 (by omega)
  clear hg3
  go_wp2_with fail
  refine (pick_any _ _ _ _ hr3 (by omega) (by omega) (by omega)).mono ?_
  rintro e w4 ⟨y, rfl, ⟨hy, -⟩, hr4, hg4⟩
  obtain ⟨y0, y1⟩ := hy (by omega)
  have HF4 := Lib.hid ((HF3.out.grown hg4 hgl).lower hb.size)
  have hb4 := below_grown hb3 hg4 (by omega)
  clear hy
  go_wp2_with fail
  refine bodyPost_ret (v := .tuple #[.slice (some ⟨b, 0, none⟩) ps.length c, .int .i64 x, .int .i64 (9000 + y)]) (by simp [results, Try.results45, go_sem]) rfl ⟨_, ps, _, _, rfl, HF4.out, hl, HI.out, ⟨_, _, rfl⟩, ⟨x0, x1⟩, by omega, hb4⟩
/-- What is paid on a day. -/
def Fl.on (p : Pr) (x : Int) : Int := if p.1 = x then p.2 else 0
def Fl.ons (ps : List Pr) (x : Int) : Int := (ps.map fun p => Fl.on p x).sum
theorem Fl.sum_pred (x : Int) : ∀ ps : List Pr, Fl.sum ps x = Fl.sum ps (x - 1) + Fl.ons ps x
  | [] => by simp [Fl.sum, Fl.ons]
  | p :: ps => by
    have ih := Fl.sum_pred x ps
    have e : Fl.add p x = Fl.add p (x - 1) + Fl.on p x := by
      unfold Fl.add Fl.on
      split <;> split <;> split <;> omega
    unfold Fl.sum Fl.ons at *
    simp only [List.map_cons, List.sum_cons]
    omega
theorem Fl.ons_take {ps : List Pr} {i : Nat} (hi : i < ps.length) (x : Int) : Fl.ons (ps.take (i + 1)) x = Fl.ons (ps.take i) x + Fl.on (ps.getD i pr0) x := by
  have : ps.take (i + 1) = ps.take i ++ [ps.getD i pr0] := by
    rw [List.take_add_one, List.getD_eq_getElem?_getD, List.getElem?_eq_getElem hi]; rfl
  unfold Fl.ons
  rw [this, List.map_append, List.sum_append]
  simp
theorem Fl.ons_bd {ps : List Pr} (h : Fl.ok ps = true) (x : Int) : ∀ i : Nat, i ≤ ps.length → -1000000000 * (i : Int) ≤ Fl.ons (ps.take i) x ∧ Fl.ons (ps.take i) x ≤ 1000000000 * (i : Int)
  | 0, _ => by simp [Fl.ons]
  | i + 1, hi => by
    have ih := Fl.ons_bd h x i (by omega)
    have o := (Fl.parts h).2 i (by omega)
    rw [Fl.ons_take (by omega)]
    unfold Fl.on
    split <;> omega
theorem Fl.cash_yes {ps : List Pr} {b : Int} (h : Fl.cashOk ps b = true) (x : Int) : Fl.cash ps b x = b + Fl.sum ps x := by
  unfold Fl.cashOk at h
  rw [Bool.and_eq_true] at h
  exact if_pos h
theorem Fl.cash_no {ps : List Pr} {b : Int} (h : Fl.cashOk ps b = false) (x : Int) : Fl.cash ps b x = 0 := by
  unfold Fl.cashOk at h
  refine if_neg fun k => ?_
  rw [k.1, k.2] at h
  cases h
set_option maxRecDepth 8000 in
set_option maxHeartbeats 4000000 in
theorem lawCashAt (a : Option Addr) (len cap : Nat) (zs : List Int) (w : World) (h : IsRow .u8 w a len cap zs) :
    Calls Try.prog 13 #[.slice a len cap] w fun e w' => e = .returned (.bool true) ∧ Below w.heap.size w w' := by
  have H := Lib.hid h; clear h
  by_cases hl : 1048576 < (len : Int)
  · go_enter Try.func13, Try.ntmps13
    go_wp2_with fail
    go_ret
    exact ⟨rfl, Below.refl _ _⟩
  · have hl' := decide_eq_false hl
    clear hl
    go_enter Try.func13, Try.ntmps13
    go_wp2_with fail
    refine (drawCA_any _ _ _ _ _ H.out).mono ?_
    rintro e w1 ⟨v, ps, b, x, rfl, hF, hlen, hI, ⟨vb, vc, rfl⟩, ⟨b0, b1⟩, ⟨x0, x1⟩, hb1⟩
    have R1 := Lib.hid hF.r2.o
    have hm : ps.length ≤ 9223372036854775807 := by omega
    have hbb : ∀ b : Int, (b != b) = false := fun b => by simp
    have hbc : ∀ b : Bool, (b != b) = false := fun b => by simp
    clear hF hI
    cases hok : Fl.cashOk ps b with
    | false =>
      have e0 := hbb 0
      have e1 := hbc false
      have E := Lib.hid (fun x => Fl.cash_no hok x)
      have HK := Lib.hid hok
      clear hok hbb hbc
      go_wp2_with fail
      refine (cash_any _ _ _ _ _ R1.out hm).mono ?_
      rw [E.out, HK.out]
      rintro e w2 ⟨rfl, hb2⟩
      have R2 := Lib.hid (R1.out.below hb2 (Nat.le_refl _))
      have hb3 := hb1.trans (hb2.mono hb1.size)
      clear hb2
      go_wp2_with fail
      refine (scash_any _ _ _ _ _ R2.out hm).mono ?_
      rw [E.out, HK.out]
      rintro e w4 ⟨rfl, hb4⟩
      go_wp2_with fail
      go_ret
      exact ⟨rfl, hb3.trans (hb4.mono hb3.size)⟩
    | true =>
      have hps : Fl.ok ps = true := by unfold Fl.cashOk at hok; rw [Bool.and_eq_true] at hok; exact hok.1
      have hn0 := hbb (b + Fl.sum ps x)
      have e1 := hbc true
      have E := Lib.hid (fun x => Fl.cash_yes hok x)
      have HK := Lib.hid hok
      obtain ⟨t0, t1⟩ := Fl.bd_all hps x
      obtain ⟨u0, u1⟩ := Fl.bd_all hps (x - 1)
      have hl60 := (Fl.parts hps).1
      have HO := Lib.hid (fun i hi => Fl.ons_bd hps x i hi)
      have HS := Lib.hid (Fl.sum_pred x ps)
      have HP := Lib.hid (Fl.parts hps)
      clear hok hbb hbc hps
      go_wp2_with fail
      refine (cash_any _ _ _ _ _ R1.out hm).mono ?_
      rw [E.out, HK.out]
      rintro e w2 ⟨rfl, hb2⟩
      have R2 := Lib.hid (R1.out.below hb2 (Nat.le_refl _))
      have hb3 := hb1.trans (hb2.mono hb1.size)
      clear hb2
      go_wp2_with fail
      refine (scash_any _ _ _ _ _ R2.out hm).mono ?_
      rw [E.out, HK.out]
      rintro e w4 ⟨rfl, hb4⟩
      have R4 := Lib.hid (R2.out.below hb4 (Nat.le_refl _))
      have hb5 := hb3.trans (hb4.mono hb3.size)
      clear hb4
      go_wp2_with fail
      refine (cash_any _ _ _ _ _ R4.out hm).mono ?_
      rw [E.out, HK.out]
      rintro e w6 ⟨rfl, hb6⟩
      have R6 := Lib.hid (R4.out.below hb6 (Nat.le_refl _))
      have hb7 := hb5.trans (hb6.mono hb5.size)
      clear hb6 hb5 hb3
      generalize hS : Fl.sum ps x = S at *
      generalize hT : Fl.sum ps (x - 1) = T at *
      clear hS hT
      go_wp2_with fail
      go_loop [10, 12] (fun o y => ∃ k : Nat, k ≤ ps.length ∧ y = .int .i64 k ∧ o = .int .i64 (b + T + Fl.ons (ps.take k) x)) (fun _ y => ps.length - (intOf y).toNat)
      case atStart => exact ⟨0, Nat.zero_le _, rfl, by simp [Fl.ons]⟩
      case round =>
        obtain ⟨k, hk, rfl, rfl⟩ := hrel
        by_cases hlt : k < ps.length
        · obtain ⟨bb, off, c, e, hbb, hc⟩ := R6.out.2 (by omega)
          simp only [Value.slice.injEq, true_and] at e
          obtain ⟨e2, rfl⟩ := e
          simp only [Option.some.injEq, Addr.mk.injEq, and_true] at e2
          obtain ⟨rfl, rfl⟩ := e2
          obtain ⟨c0, c1⟩ := hc k hlt
          simp only [Nat.zero_add] at c0 c1
          clear hc
          obtain ⟨-, m0, m1⟩ := HP.out.2 k hlt
          obtain ⟨s0, s1⟩ := HO.out k (by omega)
          have HT := Lib.hid (Fl.ons_take (ps := ps) hlt x)
          generalize ps.getD k pr0 = p at c0 c1 m0 m1 HT
          obtain ⟨d, m⟩ := p
          simp only at c0 c1 m0 m1
          generalize Fl.ons (ps.take k) x = Q at *
          by_cases hd : d = x
          · have HO2 := Lib.hid (show Fl.on (d, m) x = m from if_pos hd)
            have hd' : (d == x) = true := by simp [hd]
            clear hd
            go_wp2_with fail
            go_round
            case rel => exact ⟨k + 1, by omega, by go_num, by rw [HT.out, HO2.out]; go_num⟩
            case measure => simp [intOf] <;> omega
          · have HO2 := Lib.hid (show Fl.on (d, m) x = 0 from if_neg hd)
            have hd' : (d == x) = false := by simp [hd]
            clear hd
            go_wp2_with fail
            go_round
            case rel => exact ⟨k + 1, by omega, by go_num, by rw [HT.out, HO2.out, Int.add_zero]⟩
            case measure => simp [intOf] <;> omega
        · have E2 : ps.take k = ps := List.take_of_length_le (by omega)
          rw [E2]
          have E3 : (b + T + Fl.ons ps x == b + S) = true := by
            have := HS.out
            simp only [beq_iff_eq]
            omega
          clear E2
          go_wp2_with fail
          go_ret
          exact ⟨rfl, hb7⟩
end Go.Proofs.Ythlnmbnaimobgaa
