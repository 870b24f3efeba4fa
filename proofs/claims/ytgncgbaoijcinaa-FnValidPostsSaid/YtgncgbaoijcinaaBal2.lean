/- The balance of an account, on both sides. -/
import Derived.Test.YtgncgbaoijcinaaPsV
import Derived.Test.YtgncgbaoijcinaaBal
namespace Go.Proofs.Ytgncgbaoijcinaa
open Go.RowKit
set_option maxHeartbeats 1000000 in
theorem balOf_any (w : World) (v : Value) (ps : List Tri) (x : Int) (hv : R3o w v ps) (hm : ps.length ≤ 9223372036854775807) (hx : (Lit.int .i64 x).wf = true) :
    Calls Try.prog 9 #[v, .int .i64 x] w fun e w' => e = .returned (.int .i64 (Bl.val ps x)) ∧ Below w.heap.size w w' := by
  have HV := Lib.hid hv
  have HX := Lib.hid hx
  cases hok : Ps.ok ps with
  | false =>
    have E := Lib.hid (show Bl.val ps x = 0 by unfold Bl.val; rw [if_neg (by rw [hok]; simp)])
    go_enter Try.func9, Try.ntmps9
    go_wp2_with fail
    refine (vposts_any _ _ _ HV.out hm).mono ?_
    rw [hok]
    rintro e w1 ⟨rfl, hb1⟩
    go_wp2_with fail
    go_ret
    exact ⟨ret_int E.out.symm, hb1⟩
  | true =>
    have E := Lib.hid (show Bl.val ps x = Bl.sum ps x by unfold Bl.val; rw [if_pos hok])
    have HC := Lib.hid (fun W hr => balances_any W v ps hr hok)
    go_enter Try.func9, Try.ntmps9
    go_wp2_with fail
    refine (vposts_any _ _ _ HV.out hm).mono ?_
    rw [hok]
    rintro e w1 ⟨rfl, hb1⟩
    go_wp2_with fail
    refine (HC.out _ (HV.out.below hb1 (Nat.le_refl _))).mono ?_
    rintro e w2 ⟨⟨b, n, rfl, hmp⟩, hb2⟩
    have HM := Lib.hid hmp; clear hmp
    have hb3 := hb1.trans (hb2.mono hb1.size)
    clear hb1 hb2 hv hx
    go_wp2_with (at_lookup; refine wpList_lookup_mp _ rfl _ _ 39 rfl 3 3 Try.underlying3 Try.underlying39 Try.underlying3 (zeroInt _) b n _ rfl HM.out _ rfl HX.out ?_)
    go_ret
    exact ⟨ret_int E.out.symm, hb3⟩
def bi (b : Bool) : Int := if b then 1 else 0
theorem bi_bd (b : Bool) : 0 ≤ bi b ∧ bi b ≤ 1 := by cases b <;> simp [bi]
set_option maxHeartbeats 400000 in
theorem toIntB_any (b : Bool) (w : World) : Calls Try.prog 24 #[.bool b] w fun e w' => e = .returned (.int .i64 (bi b)) ∧ w = w' := by
  cases b with
  | false =>
    go_enter Try.func24, Try.ntmps24
    go_wp2_with fail
    go_ret
    exact ⟨rfl, rfl⟩
  | true =>
    go_enter Try.func24, Try.ntmps24
    go_wp2_with fail
    go_ret
    exact ⟨rfl, rfl⟩
theorem Bl.one_bi (f t u x : Int) : Bl.one (f, t, u) x = u * (bi (t == x) - bi (f == x)) := by
  unfold Bl.one bi
  by_cases h1 : t = x <;> by_cases h2 : f = x <;> simp [h1, h2]
set_option maxRecDepth 8000 in
set_option maxHeartbeats 4000000 in
theorem sbal_any (w : World) (v : Value) (ps : List Tri) (x : Int) (hv : R3o w v ps) (hok : Ps.ok ps = true) :
    Calls Try.prog 18 #[v, .int .i64 x] w fun e w' => e = .returned (.int .i64 (Bl.sum ps x)) ∧ Below w.heap.size w w' := by
  have HP := Lib.hid (Ps.parts hok)
  have HBd := Lib.hid (fun i hi => Bl.bd hok x i hi)
  have hlen := HP.out.1
  clear hok
  obtain ⟨⟨a, cap, rfl⟩, h1⟩ := hv
  have H := Lib.hid h1; clear h1
  go_enter Try.func18, Try.ntmps18
  go_wp2_with fail
  go_loopw [5, 6] (fun o x' wr => ∃ k : Nat, k ≤ ps.length ∧ x' = .int .i64 k ∧ o = .int .i64 (Bl.sum (ps.take k) x) ∧ Below w.heap.size w wr) (fun _ x _ => ps.length - (intOf x).toNat)
  case atStart => exact ⟨0, Nat.zero_le _, rfl, by simp [Bl.sum], Below.refl _ _⟩
  case round =>
    obtain ⟨k, hk, rfl, rfl, hb⟩ := hrel
    by_cases hlt : k < ps.length
    · obtain ⟨b, off, c, e, hbb, hc⟩ := H.out (by omega)
      simp only [Value.slice.injEq, true_and] at e
      obtain ⟨rfl, rfl⟩ := e
      obtain ⟨c0, c1, c2⟩ := hc k hlt
      replace c0 := (hb.cell (p := ⟨b, off + k * 3, none⟩) hbb).trans c0
      replace c1 := (hb.cell (p := ⟨b, off + k * 3 + 1, none⟩) hbb).trans c1
      replace c2 := (hb.cell (p := ⟨b, off + k * 3 + 2, none⟩) hbb).trans c2
      clear hc
      obtain ⟨-, -, -, u0, u1⟩ := HP.out.2 k hlt
      obtain ⟨s0, s1⟩ := HBd.out k (by omega)
      have HT := Lib.hid (Bl.take (ps := ps) hlt x)
      generalize ps.getD k t0 = p at c0 c1 c2 u0 u1 HT
      obtain ⟨f, t, u⟩ := p
      simp only at c0 c1 c2 u0 u1
      have ho := Bl.one_bd (p := (f, t, u)) ⟨u0, u1⟩ x
      rw [Bl.one_bi] at ho HT
      obtain ⟨o0, o1⟩ := ho
      obtain ⟨p0, p1⟩ := bi_bd (t == x)
      obtain ⟨q0, q1⟩ := bi_bd (f == x)
      have HT1 := Lib.hid (toIntB_any (t == x))
      have HT2 := Lib.hid (toIntB_any (f == x))
      generalize bi (t == x) = b1 at *
      generalize bi (f == x) = b2 at *
      generalize Bl.sum (ps.take k) x = S at *
      have W1 : IntKind.i64.wrap (u * (b1 - b2)) = u * (b1 - b2) := IntWalk.i64_in _ (by omega)
      have W2 : IntKind.i64.wrap (S + u * (b1 - b2)) = S + u * (b1 - b2) := IntWalk.i64_in _ (by omega)
      go_wp2_with fail
      go_quiet ((first | (go_at_call 24; with_reducible exact quietP (HT1.out _)) | (go_at_call 24; with_reducible exact quietP (HT2.out _))))
      go_wp2_with fail
      go_roundw
      case rel => exact ⟨k + 1, by omega, by go_num, by rw [HT.out], belowN hb _⟩
      case measure => simp [intOf]; omega
    · have E := Lib.hid (show ps.take k = ps from List.take_of_length_le (by omega))
      go_wp2_with fail
      go_ret
      exact ⟨ret_int (by rw [E.out]), hb⟩
set_option maxHeartbeats 1000000 in
theorem sbalOf_any (w : World) (v : Value) (ps : List Tri) (x : Int) (hv : R3o w v ps) (hm : ps.length ≤ 9223372036854775807) :
    Calls Try.prog 10 #[v, .int .i64 x] w fun e w' => e = .returned (.int .i64 (Bl.val ps x)) ∧ Below w.heap.size w w' := by
  have HV := Lib.hid hv
  cases hok : Ps.ok ps with
  | false =>
    have E := Lib.hid (show Bl.val ps x = 0 by unfold Bl.val; rw [if_neg (by rw [hok]; simp)])
    go_enter Try.func10, Try.ntmps10
    go_wp2_with fail
    refine (svposts_any _ _ _ HV.out hm).mono ?_
    rw [hok]
    rintro e w1 ⟨rfl, hb1⟩
    go_wp2_with fail
    go_ret
    exact ⟨ret_int E.out.symm, hb1⟩
  | true =>
    have E := Lib.hid (show Bl.val ps x = Bl.sum ps x by unfold Bl.val; rw [if_pos hok])
    have HC := Lib.hid (fun W hr => sbal_any W v ps x hr hok)
    go_enter Try.func10, Try.ntmps10
    go_wp2_with fail
    refine (svposts_any _ _ _ HV.out hm).mono ?_
    rw [hok]
    rintro e w1 ⟨rfl, hb1⟩
    go_wp2_with fail
    refine (HC.out _ (HV.out.below hb1 (Nat.le_refl _))).mono ?_
    rintro e w2 ⟨rfl, hb2⟩
    go_wp2_with fail
    go_ret
    exact ⟨ret_int E.out.symm, hb1.trans (hb2.mono hb1.size)⟩
end Go.Proofs.Ytgncgbaoijcinaa
