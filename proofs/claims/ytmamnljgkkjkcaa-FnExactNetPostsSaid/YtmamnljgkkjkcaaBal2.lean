/- The balance of an account, on both sides. -/
import Derived.Test.YtmamnljgkkjkcaaPsV
import Derived.Test.YtmamnljgkkjkcaaBal
namespace Go.Proofs.Ytmamnljgkkjkcaa
open Go.RowKit
set_option maxHeartbeats 1000000 in
theorem balOf_any (w : World) (v : Value) (ps : List Tri) (x : Int) (hv : R3o w v ps) (hm : ps.length ≤ 9223372036854775807) (hx : (Lit.int .i64 x).wf = true) :
    Calls Try.prog 19 #[v, .int .i64 x] w fun e w' => e = .returned (.int .i64 (Bl.val ps x)) ∧ Below w.heap.size w w' := by
  have HV := Lib.hid hv
  have HX := Lib.hid hx
  cases hok : Ps.ok ps with
  | false =>
    have E := Lib.hid (show Bl.val ps x = 0 by unfold Bl.val; rw [if_neg (by rw [hok]; simp)])
    go_enter Try.func19, Try.ntmps19
    go_wp2_with fail
    refine (vposts_any _ _ _ HV.out hm).mono ?_
    rw [hok]
    rintro e w1 ⟨rfl, hb1⟩
    go_wp2_with fail
    go_ret
    exact ⟨ret_int E.out.symm, hb1⟩
  | true =>
    have E := Lib.hid (show Bl.val ps x = Bl.sum ps x by unfold Bl.val; rw [if_pos hok])
    have HC := Lib.hid (fun W hr => balances_any W v ps hr hok)
    go_enter Try.func19, Try.ntmps19
    go_wp2_with fail
    refine (vposts_any _ _ _ HV.out hm).mono ?_
    rw [hok]
    rintro e w1 ⟨rfl, hb1⟩
    go_wp2_with fail
    refine (HC.out _ (HV.out.below hb1 (Nat.le_refl _))).mono ?_
    rintro e w2 ⟨⟨b, n, rfl, hmp⟩, hb2⟩
    have HM := Lib.hid hmp; clear hmp
    have hb3 := hb1.trans (hb2.mono hb1.size)
    clear hb1 hb2 hv hx
    go_wp2_with (at_lookup; refine wpList_lookup_mp _ rfl _ _ 81 rfl 3 3 Try.underlying3 Try.underlying81 Try.underlying3 (zeroInt _) b n _ rfl HM.out _ rfl HX.out ?_)
    go_ret
    exact ⟨ret_int E.out.symm, hb3⟩
def bi (b : Bool) : Int := if b then 1 else 0
theorem bi_bd (b : Bool) : 0 ≤ bi b ∧ bi b ≤ 1 := by cases b <;> simp [bi]
set_option maxHeartbeats 400000 in
theorem toIntB_any (b : Bool) (w : World) : Calls Try.prog 90 #[.bool b] w fun e w' => e = .returned (.int .i64 (bi b)) ∧ w = w' := by
  cases b with
  | false =>
    go_enter Try.func90, Try.ntmps90
    go_wp2_with fail
    go_ret
    exact ⟨rfl, rfl⟩
  | true =>
    go_enter Try.func90, Try.ntmps90
    go_wp2_with fail
    go_ret
    exact ⟨rfl, rfl⟩
theorem Bl.one_bi (f t u x : Int) : Bl.one (f, t, u) x = u * (bi (t == x) - bi (f == x)) := by
  unfold Bl.one bi
  by_cases h1 : t = x <;> by_cases h2 : f = x <;> simp [h1, h2]
end Go.Proofs.Ytmamnljgkkjkcaa
