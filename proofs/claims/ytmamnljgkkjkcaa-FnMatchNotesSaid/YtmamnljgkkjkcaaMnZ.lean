/- Notes that are not matched, in the program. -/
import Derived.Test.YtmamnljgkkjkcaaMnY
import Derived.Test.YtmamnljgkkjkcaaTrPNote
namespace Go.Proofs.Ytmamnljgkkjkcaa
open Go Go.RowKit
theorem Mn.left_step (us : List Int) (k : Nat) : Mn.left us (k + 1) = Mn.left us k ++ if (k : Int) ∈ us then [] else [k] := by
  unfold Mn.left
  rw [List.range_succ, List.filter_append]
  congr 1
  by_cases c : (k : Int) ∈ us
  · rw [if_pos c]; simp [c]
  · rw [if_neg c]; simp [c]
theorem Mn.left_len (us : List Int) (k : Nat) : (Mn.left us k).length ≤ k := by
  unfold Mn.left
  exact Nat.le_trans (List.length_filter_le _ _) (by rw [List.length_range]; exact Nat.le_refl _)
/-- The notes that are not matched. -/
def Mn.opn (b : List Tri) (us : List Int) (k : Nat) : List Tri := (Mn.left us k).map fun i => b.getD i t0
theorem Mn.opn_step (b : List Tri) (us : List Int) (k : Nat) : Mn.opn b us (k + 1) = if (k : Int) ∈ us then Mn.opn b us k else Mn.opn b us k ++ [b.getD k t0] := by
  unfold Mn.opn
  rw [Mn.left_step]
  by_cases c : (k : Int) ∈ us
  · rw [if_pos c, if_pos c, List.append_nil]
  · rw [if_neg c, if_neg c, List.map_append]; rfl
theorem belowG {a W W' : World} {r : Option Nat} (h : Below a.heap.size a W) (hg : W.grownBy W' r) (hr : ∀ j, r = some j → a.heap.size ≤ j) : Below a.heap.size a W' :=
  ⟨hg.os.trans h.os, hg.tape.trans h.tape, hg.output.trans h.output, Nat.le_trans h.size hg.size,
    fun k hk => (hg.block k (Nat.lt_of_lt_of_le hk h.size) (fun e => by have := hr k e.symm; omega)).trans (h.block k hk)⟩
theorem TRow.slM {T : TypeId} {w : World} {B : Nat} {v : Value} {ps : List Tri} (h : TRow T w B v ps) : ∃ a c, v = .slice a ps.length c := by
  rcases h.2 with ⟨rfl, h3⟩ | ⟨b, cap, cur, rfl, _⟩
  · exact ⟨none, 0, by rw [h3]⟩
  · exact ⟨_, _, rfl⟩
theorem Mn.opn_len (b : List Tri) (us : List Int) (k : Nat) : (Mn.opn b us k).length ≤ k := by unfold Mn.opn; rw [List.length_map]; exact Mn.left_len us k
set_option maxRecDepth 8000 in
set_option maxHeartbeats 4000000 in
theorem open_any (w : World) (va vb : Value) (a b : List Tri) (tol : Int) (ha : R3o w va a) (hb : R3o w vb b) (la : a.length ≤ 9223372036854775807) (lb : b.length ≤ 9223372036854775807) :
    Calls Try.prog 30 #[va, vb, .int .i64 tol] w fun e w' => ∃ v, e = .returned v ∧ TRow 48 w' w.heap.size v (if Mn.okB a b tol = true then Mn.opn b (Mn.run b tol a) b.length else []) ∧ Below w.heap.size w w' := by
  have HA := Lib.hid ha
  have HB := Lib.hid hb
  have HVm := Lib.hid (vmatch_any w va vb a b tol ha hb la lb)
  have HMa := Lib.hid (fun W (h : Below w.heap.size w W) => match_any W va vb a b tol (ha.below h (Nat.le_refl _)) (hb.below h (Nat.le_refl _)) la lb)
  obtain ⟨us, hus⟩ : ∃ us, us = Mn.run b tol a := ⟨_, rfl⟩
  have hlu : us.length = a.length := by rw [hus, Mn.run_len]
  rw [← hus] at HMa ⊢
  clear hus
  obtain ⟨⟨xa, ca, rfl⟩, -⟩ := ha
  obtain ⟨⟨xb, cb, rfl⟩, -⟩ := hb
  cases hok : Mn.okB a b tol with
  | false =>
    go_enter Try.func30, Try.ntmps30
    go_wp2_with fail
    refine HVm.out.mono ?_
    rw [hok]
    rintro e w1 ⟨rfl, h1⟩
    go_wp2_with fail
    go_ret
    exact ⟨_, rfl, TRow.nil _ _ _, h1⟩
  | true =>
    obtain ⟨l0, l1, -, -, ht⟩ := Mn.okB_ok hok
    rw [hok] at HMa
    clear la lb
    go_enter Try.func30, Try.ntmps30
    go_wp2_with fail
    refine HVm.out.mono ?_
    rw [hok]
    rintro e w1 ⟨rfl, h1⟩
    have H1 := Lib.hid h1
    clear h1 hok HVm
    go_wp2_with fail
    refine (HMa.out w1 H1.out).mono ?_
    rintro e w2 ⟨v2, rfl, hr2, hb2⟩
    have H2 := Lib.hid (H1.out.trans (hb2.mono H1.out.size))
    rw [if_pos trivial] at hr2
    have hlr : us.length ≤ 100 := by omega
    have hsl := hr2.slice
    have HR2 := Lib.hid hr2
    have HLr := Lib.hid hlr
    clear hr2 hb2 HMa hlr hlu
    obtain ⟨xm, cm, rfl⟩ := hsl
    go_wp2_with fail
    go_loopw [8, 22] (fun o x wl => ∃ k : Nat, k ≤ b.length ∧ x = .int .i64 k ∧ Hid (TRow 48 wl w2.heap.size o (Mn.opn b us k)) ∧ Hid (Below w2.heap.size w2 wl)) (fun _ x _ => b.length - (intOf x).toNat)
    case atStart => exact ⟨0, Nat.zero_le _, rfl, Lib.hid (TRow.nil _ _ _), Lib.hid (Below.refl _ _)⟩
    case round =>
      obtain ⟨k, hk, rfl, HO, HBl⟩ := hrel
      by_cases hlt : k < b.length
      · obtain ⟨bb, off, c, e, hbb, hc⟩ := HB.out.2 (by omega)
        simp only [Value.slice.injEq, true_and] at e
        obtain ⟨rfl, rfl⟩ := e
        have hw1 := H2.out.trans (HBl.out.mono H2.out.size)
        obtain ⟨c0, c1, c2⟩ := hc k hlt
        replace c0 := (hw1.cell (p := ⟨bb, off + k * 3, none⟩) hbb).trans c0
        replace c1 := (hw1.cell (p := ⟨bb, off + k * 3 + 1, none⟩) hbb).trans c1
        replace c2 := (hw1.cell (p := ⟨bb, off + k * 3 + 2, none⟩) hbb).trans c2
        clear hc hw1
        have HSt := Lib.hid (Mn.opn_step b us k)
        have HLo := Lib.hid (Mn.opn_len b us k)
        have hi0 : (0 : Int) ≤ k := by omega
        have hi1 : (k : Int) < b.length := by omega
        generalize Mn.opn b us k = O at *
        generalize b.getD k t0 = t at *
        obtain ⟨d, m, p⟩ := t
        simp only at c0 c1 c2
        have HBA := Lib.hid (HBl.out.alloc HBl.out.size (.cells #[.int .i64 d, .int .i64 m, .int .i64 p] 48))
        have HBB := Lib.hid (HBA.out.alloc HBA.out.size (.cells #[.int .i64 d, .int .i64 m, .int .i64 p] 48))
        have HOA := Lib.hid (HO.out.alloc (.cells #[.int .i64 d, .int .i64 m, .int .i64 p] 48))
        have HRR := Lib.hid (HOA.out.alloc (.cells #[.int .i64 d, .int .i64 m, .int .i64 p] 48))
        have HCt := Lib.hid (contM_any (wr.alloc (.cells #[.int .i64 d, .int .i64 m, .int .i64 p] 48)) _ us k (HR2.out.below HBA.out (Nat.le_refl _)).r1 HLr.out)
        have HNC := Lib.hid (show ∀ j u, (ac (d, m, p))[j]? = some u → ((wr.alloc (.cells #[.int .i64 d, .int .i64 m, .int .i64 p] 48)).alloc (.cells #[.int .i64 d, .int .i64 m, .int .i64 p] 48)).cell? ((⟨wr.heap.size + 1, 0, none⟩ : Addr).add j) = some u from by
          have h := newNote_cells (wr.alloc (.cells #[.int .i64 d, .int .i64 m, .int .i64 p] 48)) (d, m, p)
          rw [World.size_alloc] at h
          exact h)
        by_cases hmem : (k : Int) ∈ us
        · have hd := decide_eq_true hmem
          have hst := HSt.out
          rw [if_pos hmem] at hst
          have HS := Lib.hid hst
          clear hst HSt
          go_wp2_with fail
          refine HCt.out.mono ?_
          rw [hd]
          rintro e w5 ⟨rfl, rfl⟩
          go_wp2_with fail
          go_roundw
          case rel => exact ⟨k + 1, hlt, by go_num, by rw [HS.out]; exact HOA, HBA⟩
          case measure => simp [intOf] <;> omega
        · have hd := decide_eq_false hmem
          have hst := HSt.out
          rw [if_neg hmem] at hst
          have HS := Lib.hid hst
          clear hst HSt
          go_wp2_with fail
          refine HCt.out.mono ?_
          rw [hd]
          rintro e w5 ⟨rfl, rfl⟩
          have HLl := Lib.hid (show O.length + 1 ≤ 1000000 by have := HLo.out; omega)
          go_wp2_with (at_builtin; refine wpList_pushNote _ rfl _ _ rfl w2.heap.size _ O rfl HRR.out (wr.heap.size + 1) _ (d, m, p) rfl HNC.out HLl.out HBB.out.size ?_; intro v5 w5 hown5 hne5 hg5 hv5)
          go_roundw
          case rel => exact ⟨k + 1, hlt, by go_num, by rw [HS.out]; exact Lib.hid hown5, Lib.hid (belowG HBB.out hg5 (fun j hj => (World.ownsRow.lt HRR.out j hj).1))⟩
          case measure => simp [intOf] <;> omega
      · obtain rfl : k = b.length := by omega
        go_wp2_with fail
        go_ret
        exact ⟨_, rfl, HO.out.lower H2.out.size, H2.out.trans (HBl.out.mono H2.out.size)⟩
end Go.Proofs.Ytmamnljgkkjkcaa
