/- Balances, on both sides. -/
import Derived.Test.YtmamnljgkkjkcaaPs
import Derived.Test.YtmamnljgkkjkcaaMp
import Derived.Carry
namespace Go.Proofs.Ytmamnljgkkjkcaa
open Go.RowKit
/-- What a posting does to an account. -/
def Bl.one (p : Tri) (x : Int) : Int := p.2.2 * ((if p.2.1 = x then 1 else 0) - (if p.1 = x then 1 else 0))
def Bl.sum (ps : List Tri) (x : Int) : Int := (ps.map fun p => Bl.one p x).sum
def Bl.val (ps : List Tri) (x : Int) : Int := if Ps.ok ps = true then Bl.sum ps x else 0
theorem Bl.take {ps : List Tri} {i : Nat} (hi : i < ps.length) (x : Int) : Bl.sum (ps.take (i + 1)) x = Bl.sum (ps.take i) x + Bl.one (ps.getD i t0) x := by
  have : ps.take (i + 1) = ps.take i ++ [ps.getD i t0] := by
    rw [List.take_add_one, List.getD_eq_getElem?_getD, List.getElem?_eq_getElem hi]; rfl
  unfold Bl.sum
  rw [this, List.map_append, List.sum_append]
  simp
theorem Ps.parts {ps : List Tri} (h : Ps.ok ps = true) : ps.length ≤ 40 ∧ ∀ i, i < ps.length → (0 ≤ (ps.getD i t0).1 ∧ (ps.getD i t0).1 ≤ 5) ∧ (0 ≤ (ps.getD i t0).2.1 ∧ (ps.getD i t0).2.1 ≤ 5) ∧ (ps.getD i t0).1 ≠ (ps.getD i t0).2.1 ∧ (1 ≤ (ps.getD i t0).2.2 ∧ (ps.getD i t0).2.2 ≤ 1000000000) := by
  unfold Ps.ok at h
  rw [Bool.and_eq_true, decide_eq_true_eq, List.all_eq_true] at h
  refine ⟨h.1, fun i hi => ?_⟩
  have hm : ps.getD i t0 ∈ ps := by rw [List.getD_eq_getElem?_getD, List.getElem?_eq_getElem hi, Option.getD_some]; exact List.getElem_mem hi
  have := h.2 _ hm
  unfold Ps.one at this
  rw [Bool.and_eq_true, Bool.and_eq_true, Bool.and_eq_true, btw_iff, btw_iff, btw_iff] at this
  obtain ⟨a, b, c, d⟩ := this
  exact ⟨a, b, by simpa using c, d⟩
theorem Bl.one_bd {p : Tri} (h : 1 ≤ p.2.2 ∧ p.2.2 ≤ 1000000000) (x : Int) : -1000000000 ≤ Bl.one p x ∧ Bl.one p x ≤ 1000000000 := by
  unfold Bl.one
  split <;> split <;> omega
theorem Bl.bd {ps : List Tri} (h : Ps.ok ps = true) (x : Int) : ∀ i : Nat, i ≤ ps.length → -1000000000 * (i : Int) ≤ Bl.sum (ps.take i) x ∧ Bl.sum (ps.take i) x ≤ 1000000000 * (i : Int)
  | 0, _ => by simp [Bl.sum]
  | i + 1, hi => by
    have ih := Bl.bd h x i (by omega)
    have o := Bl.one_bd ((Ps.parts h).2 i (by omega)).2.2.2 x
    rw [Bl.take (by omega)]
    omega
theorem wf_i64 {x : Int} (h0 : -4000000000000000000 ≤ x) (h1 : x ≤ 4000000000000000000) : (Lit.int .i64 x).wf = true := by
  simp [Lit.wf, IntKind.min, IntKind.max, IntKind.signed, IntKind.bits]; omega
theorem zeroInt (w : World) : (zeroValue 3).run Try.prog w = .ok (.int .i64 0) w := by kernel_rfl
theorem Bl.step {S G : Int → Int} {p : Tri} (h : p.1 ≠ p.2.1) (hG : G = fun y => if y = p.2.1 then S p.2.1 + p.2.2 else S y) : (fun y => if y = p.1 then G p.1 - p.2.2 else G y) = fun y => S y + Bl.one p y := by
  subst hG
  funext y
  unfold Bl.one
  by_cases h1 : y = p.1
  · subst h1
    simp only [if_true, if_neg h, if_neg (fun e => h e.symm : ¬ p.2.1 = p.1)]
    omega
  · by_cases h2 : y = p.2.1
    · subst h2
      simp only [if_true, if_neg h, if_neg (fun e => h e.symm : ¬ p.2.1 = p.1)]
      omega
    · simp only [if_neg h1, if_neg h2, if_neg (fun e => h1 e.symm : ¬ p.1 = y), if_neg (fun e => h2 e.symm : ¬ p.2.1 = y)]
      omega
set_option maxRecDepth 8000 in
set_option maxHeartbeats 4000000 in
theorem balances_any (w : World) (v : Value) (ps : List Tri) (hv : R3o w v ps) (hok : Ps.ok ps = true) :
    Calls Try.prog 60 #[v] w fun e w' => (∃ b n, e = .returned (.map (some b)) ∧ IsMp w' Try.prog 3 3 b n (Bl.sum ps)) ∧ Below w.heap.size w w' := by
  have HP := Lib.hid (Ps.parts hok)
  have HBd := Lib.hid (fun x i hi => Bl.bd hok x i hi)
  have hlen := HP.out.1
  clear hok
  obtain ⟨⟨a, cap, rfl⟩, h1⟩ := hv
  have H := Lib.hid h1; clear h1
  have hb0 := (Below.refl w.heap.size w).alloc (Nat.le_refl _) (.map #[] 0)
  have hm0 := Lib.hid (isMp_made w Try.prog 3 3)
  have hmk := @run_makeMap Try.prog
  go_enter Try.func60, Try.ntmps60
  go_wp2_with fail
  clear hmk
  go_loopw [9] (fun x wr => ∃ k : Nat, k ≤ ps.length ∧ x = .int .i64 k ∧ Hid (IsMp wr Try.prog 3 3 w.heap.size (2 * k) (Bl.sum (ps.take k))) ∧ Below w.heap.size w wr) (fun x _ => ps.length - (intOf x).toNat)
  case atStart =>
    refine ⟨0, Nat.zero_le _, rfl, ?_, hb0⟩
    have e : Bl.sum (ps.take 0) = fun _ => 0 := by funext x; simp [Bl.sum]
    rw [e]; exact hm0
  case round =>
    obtain ⟨k, hk, rfl, HM, hb⟩ := hrel
    by_cases hlt : k < ps.length
    · obtain ⟨b, off, c, e, hbb, hc⟩ := H.out (by omega)
      simp only [Value.slice.injEq, true_and] at e
      obtain ⟨rfl, rfl⟩ := e
      obtain ⟨c0, c1, c2⟩ := hc k hlt
      replace c0 := (hb.cell (p := ⟨b, off + k * 3, none⟩) hbb).trans c0
      replace c1 := (hb.cell (p := ⟨b, off + k * 3 + 1, none⟩) hbb).trans c1
      replace c2 := (hb.cell (p := ⟨b, off + k * 3 + 2, none⟩) hbb).trans c2
      clear hc
      obtain ⟨⟨f0, f1⟩, ⟨g0, g1⟩, hne, u0, u1⟩ := HP.out.2 k hlt
      have HT := Lib.hid (fun x => Bl.take (ps := ps) hlt x)
      obtain ⟨p, hp⟩ : ∃ p, p = ps.getD k t0 := ⟨_, rfl⟩
      rw [← hp] at c0 c1 c2 f0 f1 g0 g1 hne u0 u1 HT
      clear hp
      obtain ⟨f, t, u⟩ := p
      simp only at c0 c1 c2 f0 f1 g0 g1 hne u0 u1
      obtain ⟨s0, s1⟩ := HBd.out t k (by omega)
      obtain ⟨r0, r1⟩ := HBd.out f k (by omega)
      have HS := Lib.hid (fun G => Bl.step (S := Bl.sum (ps.take k)) (G := G) (p := (f, t, u)) hne)
      have HSum := Lib.hid (show (fun y => Bl.sum (ps.take k) y + Bl.one (f, t, u) y) = Bl.sum (ps.take (k + 1)) from funext fun x => (HT.out x).symm)
      generalize Bl.sum (ps.take k) = S at HM HS HSum s0 s1 r0 r1
      have hwl : w.heap.size < wr.heap.size := HM.out.lt
      have HM1 := Lib.hid (HM.out.below ((Below.refl wr.heap.size wr).alloc (Nat.le_refl _) (.cells #[.int .i64 f, .int .i64 t, .int .i64 u] 40)) hwl)
      have KB := Lib.hid (Blk.new wr #[.int .i64 f, .int .i64 t, .int .i64 u] 40)
      have wft := wf_i64 (x := t) (by omega) (by omega)
      have wff := wf_i64 (x := f) (by omega) (by omega)
      have wv1 := wf_i64 (x := S t + u) (by omega) (by omega)
      have hif : (if f = t then S t + u else S f) = S f := if_neg hne
      have W1 : IntKind.i64.wrap (S t + u) = S t + u := IntWalk.i64_in _ (by omega)
      have HR := Lib.hid (show -2000000000000 ≤ S f - u ∧ S f - u ≤ 2000000000000 by omega)
      clear hne
      go_wp2_with (first | (at_lookup; refine wpList_lookup_mp _ rfl _ _ 81 rfl 3 3 Try.underlying3 Try.underlying81 Try.underlying3 (zeroInt _) w.heap.size _ _ rfl HM1.out _ rfl wft ?_) | (at_mapUpdate; refine wpList_mapUpdate_mp _ rfl _ _ _ 81 rfl 3 3 Try.underlying3 Try.underlying81 Try.underlying3 w.heap.size (2 * k) _ rfl HM1.out (by unfold maxLen; omega) _ _ rfl rfl wft wv1 ?_; intro w2 hmp hgr; obtain ⟨G, hG⟩ : ∃ G : Int → Int, G = fun y => if y = t then S t + u else S y := ⟨_, rfl⟩; rw [← hG] at hmp; have hGf : G f = S f := (by rw [hG]; exact hif); have wv2 := wf_i64 (x := G f - u) (by rw [hGf]; have := HR.out; omega) (by rw [hGf]; have := HR.out; omega); have W2 : IntKind.i64.wrap (G f - u) = G f - u := IntWalk.i64_in _ (by rw [hGf]; have := HR.out; omega); have HGG := Lib.hid hG; clear hG hGf; have KB2 := Lib.hid (KB.out.grown hgr (by omega)); have HM2 := Lib.hid hmp; have HG2 := Lib.hid hgr; clear hmp hgr; obtain ⟨⟨x0, x1, x2⟩, -⟩ := KB2.out.three) | (at_lookup; refine wpList_lookup_mp _ rfl _ _ 81 rfl 3 3 Try.underlying3 Try.underlying81 Try.underlying3 (zeroInt _) w.heap.size _ _ rfl HM2.out _ rfl wff ?_) | (at_mapUpdate; refine wpList_mapUpdate_mp _ rfl _ _ _ 81 rfl 3 3 Try.underlying3 Try.underlying81 Try.underlying3 w.heap.size (2 * k + 1) _ rfl HM2.out (by unfold maxLen; omega) _ _ rfl rfl wff wv2 ?_; intro w3 hmp3 hgr3; have HM3 := Lib.hid hmp3; have HG3 := Lib.hid hgr3; clear hmp3 hgr3))
      go_roundw
      case rel =>
        refine ⟨k + 1, by omega, by go_num, ?_, ?_⟩
        · have h := HM3.out
          have e := HS.out G HGG.out
          simp only at e
          rw [e, HSum.out] at h
          exact Lib.hid h
        · exact ((hb.alloc hb.size _).grown HG2.out (by have := hb.size; simp; omega) (fun j hj => by injection hj with hj; omega)).grown HG3.out (by have := hb.size; have := HG2.out.size; simp at this; omega) (fun j hj => by injection hj with hj; omega)
      case measure => simp [intOf]; omega
    · have htk : ps.take k = ps := List.take_of_length_le (by omega)
      rw [htk] at HM
      go_wp2_with fail
      go_ret
      exact ⟨⟨_, _, rfl, HM.out⟩, hb⟩
end Go.Proofs.Ytmamnljgkkjkcaa
