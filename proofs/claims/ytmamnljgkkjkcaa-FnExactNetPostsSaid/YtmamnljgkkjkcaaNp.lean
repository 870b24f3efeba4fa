/- Netting: the program. -/
import Derived.Test.YtmamnljgkkjkcaaMq
import Derived.Test.YtmamnljgkkjkcaaPtP
import Derived.Test.YtmamnljgkkjkcaaPsV
import Derived.Deep.RegionHeld3
namespace Go.Proofs.Ytmamnljgkkjkcaa
open Go Go.RowKit
def Np.m (ps : List Tri) (a b : Int) : Int := if a < b then Np.d ps a b else 0
theorem Np.snocT {ps : List Tri} {i : Nat} (hi : i < ps.length) : ps.take (i + 1) = ps.take i ++ [ps.getD i t0] := by
  rw [List.take_succ_eq_append_getElem hi, List.getD_eq_getElem?_getD, List.getElem?_eq_getElem hi]; rfl
theorem Np.d_take {ps : List Tri} {k : Nat} (hk : k < ps.length) (a b : Int) : Np.d (ps.take (k + 1)) a b = Np.d (ps.take k) a b + Np.c (ps.getD k t0) a b := by
  rw [Np.snocT hk, Np.d_append, Np.d_cons, Np.d_nil]; omega
theorem Np.c_bd {p : Tri} (h : 1 ≤ p.2.2 ∧ p.2.2 ≤ 1000000000) (a b : Int) : -1000000000 ≤ Np.c p a b ∧ Np.c p a b ≤ 1000000000 := by
  unfold Np.c; split <;> split <;> omega
theorem Np.d_bd {ps : List Tri} (h : Ps.ok ps = true) (a b : Int) : ∀ k : Nat, k ≤ ps.length → -1000000000 * (k : Int) ≤ Np.d (ps.take k) a b ∧ Np.d (ps.take k) a b ≤ 1000000000 * (k : Int)
  | 0, _ => by simp [Np.d]
  | k + 1, hk => by
    have ih := Np.d_bd h a b k (by omega)
    have hc := Np.c_bd ((Ps.parts h).2 k (by omega)).2.2.2 a b
    rw [Np.d_take (by omega)]
    omega
theorem Np.m_bd {ps : List Tri} (h : Ps.ok ps = true) (a b : Int) (k : Nat) (hk : k ≤ ps.length) : -40000000000 ≤ Np.m (ps.take k) a b ∧ Np.m (ps.take k) a b ≤ 40000000000 := by
  have := Np.d_bd h a b k hk
  have := (Ps.parts h).1
  unfold Np.m
  split <;> omega
theorem Np.m_lt {ps : List Tri} {k : Nat} (hk : k < ps.length) {f t u : Int} (hp : ps.getD k t0 = (f, t, u)) (hlt : f < t) : (fun p q => if p = f ∧ q = t then Np.m (ps.take k) f t + u else Np.m (ps.take k) p q) = Np.m (ps.take (k + 1)) := by
  funext a b
  unfold Np.m
  rw [Np.d_take hk, hp]
  unfold Np.c
  simp only
  by_cases e : a = f ∧ b = t
  · obtain ⟨rfl, rfl⟩ := e
    rw [if_pos ⟨rfl, rfl⟩, if_pos hlt, if_pos hlt, if_pos ⟨rfl, rfl⟩, if_neg (by omega)]
    omega
  · rw [if_neg e]
    by_cases c : a < b
    · rw [if_pos c, if_pos c, if_neg (fun x => e ⟨x.1.symm, x.2.symm⟩), if_neg (by omega)]
      omega
    · rw [if_neg c, if_neg c]
theorem Np.m_gt {ps : List Tri} {k : Nat} (hk : k < ps.length) {f t u : Int} (hp : ps.getD k t0 = (f, t, u)) (hlt : t < f) : (fun p q => if p = t ∧ q = f then Np.m (ps.take k) t f - u else Np.m (ps.take k) p q) = Np.m (ps.take (k + 1)) := by
  funext a b
  unfold Np.m
  rw [Np.d_take hk, hp]
  unfold Np.c
  simp only
  by_cases e : a = t ∧ b = f
  · obtain ⟨rfl, rfl⟩ := e
    rw [if_pos ⟨rfl, rfl⟩, if_pos hlt, if_pos hlt, if_neg (by omega), if_pos ⟨rfl, rfl⟩]
    omega
  · rw [if_neg e]
    by_cases c : a < b
    · rw [if_pos c, if_pos c, if_neg (by omega), if_neg (fun x => e ⟨x.2.symm, x.1.symm⟩)]
      omega
    · rw [if_neg c, if_neg c]
set_option maxRecDepth 8000 in
set_option maxHeartbeats 4000000 in
theorem differences_any (w : World) (v : Value) (ps : List Tri) (hv : R3o w v ps) (hok : Ps.ok ps = true) :
    Calls Try.prog 62 #[v] w fun e w' => (∃ b n, e = .returned (.map (some b)) ∧ IsMq w' 3 b n (Np.m ps)) ∧ Below w.heap.size w w' := by
  have HP := Lib.hid (Ps.parts hok)
  have HBd := Lib.hid (fun x y i hi => Np.m_bd hok x y i hi)
  have hlen := HP.out.1
  clear hok
  obtain ⟨⟨a, cap, rfl⟩, h1⟩ := hv
  have H := Lib.hid h1; clear h1
  have hb0 := (Below.refl w.heap.size w).alloc (Nat.le_refl _) (.map #[] 0)
  have hm0 := Lib.hid (isMq_made w 3)
  have hmk := @run_makeMap Try.prog
  go_enter Try.func62, Try.ntmps62
  go_wp2_with fail
  clear hmk
  go_loopw [9] (fun x wr => ∃ k : Nat, k ≤ ps.length ∧ x = .int .i64 k ∧ Hid (IsMq wr 3 w.heap.size k (Np.m (ps.take k))) ∧ Below w.heap.size w wr) (fun x _ => ps.length - (intOf x).toNat)
  case atStart =>
    refine ⟨0, Nat.zero_le _, rfl, ?_, hb0⟩
    have e : Np.m (ps.take 0) = fun _ _ => 0 := by funext x y; simp [Np.m, Np.d]
    rw [e]; exact hm0
  case round =>
    obtain ⟨k, hk, rfl, HM, hb⟩ := hrel
    by_cases hlt : k < ps.length
    · obtain ⟨b, off, c, e, hbb, hc⟩ := H.out (by omega)
      simp only [Value.slice.injEq, true_and] at e
      obtain ⟨rfl, rfl⟩ := e
      obtain ⟨c0, c1, c2⟩ := hc k hlt
      replace c0 := (hb.cell (p := ⟨b, off + k * 3, none⟩) hbb).trans c0
      replace c1 := (hb.cell (p := ⟨b, off + k * 3 + 1, none⟩) hbb).trans c1
      replace c2 := (hb.cell (p := ⟨b, off + k * 3 + 2, none⟩) hbb).trans c2
      clear hc
      obtain ⟨⟨f0, f1⟩, ⟨g0, g1⟩, hne, u0, u1⟩ := HP.out.2 k hlt
      obtain ⟨p, hp⟩ : ∃ p, p = ps.getD k t0 := ⟨_, rfl⟩
      rw [← hp] at c0 c1 c2 f0 f1 g0 g1 hne u0 u1
      have HP0 := Lib.hid hp.symm
      clear hp
      obtain ⟨f, t, u⟩ := p
      simp only at c0 c1 c2 f0 f1 g0 g1 hne u0 u1
      have wft := wf_i64 (x := t) (by omega) (by omega)
      have wff := wf_i64 (x := f) (by omega) (by omega)
      by_cases hlt2 : f < t
      · clear hne
        have hdec := decide_eq_true hlt2
        obtain ⟨s0, s1⟩ := HBd.out f t k (by omega)
        have HS := Lib.hid (Np.m_lt hlt HP0.out hlt2)
        generalize Np.m (ps.take k) = S at HM HS s0 s1
        have hwl : w.heap.size < wr.heap.size := HM.out.lt
        have HM1 := Lib.hid (HM.out.below ((Below.refl wr.heap.size wr).alloc (Nat.le_refl _) (.cells #[.int .i64 f, .int .i64 t, .int .i64 u] 40)) hwl)
        have wv1 := wf_i64 (x := S f t + u) (by omega) (by omega)
        have W1 : IntKind.i64.wrap (S f t + u) = S f t + u := IntWalk.i64_in _ (by omega)
        clear HP0 hlt2
        have HW0 := Lib.hid (show IsMq (wr.alloc (.cells #[.int .i64 f, .int .i64 t, .int .i64 u] 40)).drew 3 w.heap.size k S from HM1.out)
        have KB := Lib.hid (show Blk (wr.alloc (.cells #[.int .i64 f, .int .i64 t, .int .i64 u] 40)).drew wr.heap.size 40 #[.int .i64 f, .int .i64 t, .int .i64 u] from Blk.new wr _ _)
        have L0 := HW0.out.look Try.underlying84 Try.underlying3 (zeroInt _) f t wff wft
        obtain ⟨st, w1, E0, hm1, hg1, hst⟩ := HW0.out.entry Try.underlying84 Try.underlying3 (fun _ => zeroInt _) (by unfold maxLen; omega) f t wff wft (wf_i64 (by omega) (by omega))
        have L1 := hm1.look Try.underlying84 Try.underlying3 (zeroInt _) f t wff wft
        obtain ⟨w3, T1, hm3, hg3⟩ := hst w1 _ wv1 rfl hm1.lt
        have KB1 := Lib.hid (KB.out.grown hg1 (by omega))
        have KB3 := Lib.hid (KB1.out.grown hg3 (by omega))
        have HG1 := Lib.hid hg1
        have HG3 := Lib.hid hg3
        have HM3 := Lib.hid hm3
        clear hm1 hst hm3 hg1 hg3
        go_wp2_with fail
        go_region_held3 (fun W => W.cell? ⟨wr.heap.size, 0, none⟩ = some (.int .i64 f) ∧ W.cell? ⟨wr.heap.size, 1, none⟩ = some (.int .i64 t) ∧ W.cell? ⟨wr.heap.size, 2, none⟩ = some (.int .i64 u)) (first | with_reducible exact KB.out.three.1 | with_reducible exact KB1.out.three.1 | with_reducible exact KB3.out.three.1) (fail)
        all_goals go_wp2_with fail
        all_goals
          go_roundw
          case rel =>
            refine ⟨k + 1, by omega, by go_num, ?_, ?_⟩
            · have h := HM3.out
              rw [HS.out] at h
              exact Lib.hid h
            · exact (((hb.alloc hb.size (.cells #[.int .i64 f, .int .i64 t, .int .i64 u] 40)).drew).grown HG1.out (by have := hb.size; simp; omega) (fun j hj => by injection hj with hj; omega)).grown HG3.out (by have := hb.size; have := HG1.out.size; simp at this; omega) (fun j hj => by injection hj with hj; omega)
          case measure => simp [intOf]; omega
      · have hgt : t < f := by omega
        clear hne hlt2
        have hdec := decide_eq_false (show ¬ f < t by omega)
        obtain ⟨s0, s1⟩ := HBd.out t f k (by omega)
        have HS := Lib.hid (Np.m_gt hlt HP0.out hgt)
        generalize Np.m (ps.take k) = S at HM HS s0 s1
        have hwl : w.heap.size < wr.heap.size := HM.out.lt
        have HM1 := Lib.hid (HM.out.below ((Below.refl wr.heap.size wr).alloc (Nat.le_refl _) (.cells #[.int .i64 f, .int .i64 t, .int .i64 u] 40)) hwl)
        have wv1 := wf_i64 (x := S t f - u) (by omega) (by omega)
        have W1 : IntKind.i64.wrap (S t f - u) = S t f - u := IntWalk.i64_in _ (by omega)
        clear HP0 hgt
        have HW0 := Lib.hid (show IsMq (wr.alloc (.cells #[.int .i64 f, .int .i64 t, .int .i64 u] 40)).drew 3 w.heap.size k S from HM1.out)
        have KB := Lib.hid (show Blk (wr.alloc (.cells #[.int .i64 f, .int .i64 t, .int .i64 u] 40)).drew wr.heap.size 40 #[.int .i64 f, .int .i64 t, .int .i64 u] from Blk.new wr _ _)
        have L0 := HW0.out.look Try.underlying84 Try.underlying3 (zeroInt _) t f wft wff
        obtain ⟨st, w1, E0, hm1, hg1, hst⟩ := HW0.out.entry Try.underlying84 Try.underlying3 (fun _ => zeroInt _) (by unfold maxLen; omega) t f wft wff (wf_i64 (by omega) (by omega))
        have L1 := hm1.look Try.underlying84 Try.underlying3 (zeroInt _) t f wft wff
        obtain ⟨w3, T1, hm3, hg3⟩ := hst w1 _ wv1 rfl hm1.lt
        have KB1 := Lib.hid (KB.out.grown hg1 (by omega))
        have KB3 := Lib.hid (KB1.out.grown hg3 (by omega))
        have HG1 := Lib.hid hg1
        have HG3 := Lib.hid hg3
        have HM3 := Lib.hid hm3
        clear hm1 hst hm3 hg1 hg3
        go_wp2_with fail
        go_region_held3 (fun W => W.cell? ⟨wr.heap.size, 0, none⟩ = some (.int .i64 f) ∧ W.cell? ⟨wr.heap.size, 1, none⟩ = some (.int .i64 t) ∧ W.cell? ⟨wr.heap.size, 2, none⟩ = some (.int .i64 u)) (first | with_reducible exact KB.out.three.1 | with_reducible exact KB1.out.three.1 | with_reducible exact KB3.out.three.1) (fail)
        all_goals go_wp2_with fail
        all_goals
          go_roundw
          case rel =>
            refine ⟨k + 1, by omega, by go_num, ?_, ?_⟩
            · have h := HM3.out
              rw [HS.out] at h
              exact Lib.hid h
            · exact (((hb.alloc hb.size (.cells #[.int .i64 f, .int .i64 t, .int .i64 u] 40)).drew).grown HG1.out (by have := hb.size; simp; omega) (fun j hj => by injection hj with hj; omega)).grown HG3.out (by have := hb.size; have := HG1.out.size; simp at this; omega) (fun j hj => by injection hj with hj; omega)
          case measure => simp [intOf]; omega
    · have htk : ps.take k = ps := List.take_of_length_le (by omega)
      rw [htk] at HM
      go_wp2_with fail
      go_ret
      exact ⟨⟨_, _, rfl, HM.out⟩, hb⟩
end Go.Proofs.Ytmamnljgkkjkcaa
