/- Notes matched, in the program. -/
import Derived.Test.YtmamnljgkkjkcaaMnW
import Derived.Test.YtmamnljgkkjkcaaMnA
import Derived.Test.YtmamnljgkkjkcaaI1
import Derived.Laws.MakeOwn
namespace Go.Proofs.Ytmamnljgkkjkcaa
open Go Go.RowKit
/-- A row of zeros that make gives. -/
abbrev mzN (n : Nat) : Array Value := madeCells (Value.int .i64 0).cells (n * 1)
theorem mzN_row (W : World) (n : Nat) (hn : n ≤ 1000) : IRow (W.alloc (.cells (mzN n) 3)) W.heap.size (.slice (some ⟨W.heap.size, 0, none⟩) n n) (List.replicate n 0) := by
  have h : World.ownsRow (W.alloc (.cells (mzN n) 3)) W.heap.size 3 1 (.slice (some ⟨W.heap.size, 0, none⟩) n n) n (mzN n).toList := World.ownsRow_lit W _ n (Nat.le_refl _) (by unfold maxLen; omega) (size_madeCells _ _)
  rw [made_ints1] at h
  unfold IRow
  rw [List.length_replicate]
  exact h
theorem mkN_ints {n : Nat} (hn : n ≤ 1000) (W : World) : (Instr.makeSlice 44 (.int .i64 n) (.int .i64 n)).run Try.prog W = .ok (.slice (some ⟨W.heap.size, 0, none⟩) n n) (W.alloc (.cells (mzN n) 3)) := by
  obtain ⟨i0, hi, hz0, hz1, hz2⟩ := info_parts infoInt
  have h := run_make (P := Try.prog) W 44 3 i0 (.int .i64 0) Try.underlying44 hi hz0 .i64 .i64 n n (by omega) (Int.le_refl _) (by rw [hz2]; omega) (by omega)
  rw [hz1] at h
  simp only [Int.toNat_natCast] at h
  exact h

theorem Mn.one_ok {t : Tri} (h : Mn.one t = true) : (0 ≤ t.1 ∧ t.1 ≤ 36524) ∧ (1 ≤ t.2.1 ∧ t.2.1 ≤ 9999) ∧ (1 ≤ t.2.2 ∧ t.2.2 ≤ 50000) := by
  unfold Mn.one at h
  simp only [Bool.and_eq_true] at h
  exact ⟨(btw_iff.1 h.1), (btw_iff.1 h.2.1), (btw_iff.1 h.2.2)⟩
theorem Mn.okB_ok {a b : List Tri} {tol : Int} (h : Mn.okB a b tol = true) : a.length ≤ 10 ∧ b.length ≤ 10 ∧ (∀ i, i < a.length → Mn.one (a.getD i t0) = true) ∧ (∀ i, i < b.length → Mn.one (b.getD i t0) = true) ∧ 0 ≤ tol ∧ tol ≤ 50000 := by
  unfold Mn.okB at h
  simp only [Bool.and_eq_true] at h
  obtain ⟨⟨h1, h2⟩, ⟨h3, h4⟩, h5⟩ := h
  have k1 := btw_iff.1 h1
  have k3 := btw_iff.1 h3
  have k5 := btw_iff.1 h5
  have get : ∀ l : List Tri, l.all Mn.one = true → ∀ i, i < l.length → Mn.one (l.getD i t0) = true := fun l hl i hi => by
    rw [List.getD_eq_getElem?_getD, List.getElem?_eq_getElem hi]
    exact List.all_eq_true.1 hl _ (List.getElem_mem hi)
  exact ⟨by omega, by omega, get a h2, get b h4, k5⟩
theorem Mn.fill {L : List Int} {n k : Nat} (z : Int) (hL : L.length = k) (hk : k < n) : (L ++ List.replicate (n - k) 0).set k z = (L ++ [z]) ++ List.replicate (n - (k + 1)) 0 := by
  obtain ⟨j, hj⟩ : ∃ j, n - k = j + 1 := ⟨n - k - 1, by omega⟩
  rw [hj, show n - (k + 1) = j by omega, List.set_append_right _ _ (by omega), hL, Nat.sub_self, List.replicate_succ, List.set_cons_zero, List.append_assoc]; rfl
theorem Cds.frame {w wr W : World} {bm n g : Nat} {f : Int → Int → Value} {R : Int → Int → List Pr} (h : Cds w wr bm n f R) (hg : wr.grownBy W (some g)) (hF : Fre bm f g) (hB : w.heap.size ≤ g) : Cds w W bm n f R :=
  ⟨h.map.of_block (hg.block bm h.lt (fun e => hF.1 (Option.some.inj e).symm)),
    fun x y hx hy => World.ownsRow.kept (h.row x y hx hy) hg (.inr (hF.2 x y hx hy)), h.far, h.one,
    ⟨hg.os.trans h.bel.os, hg.tape.trans h.bel.tape, hg.output.trans h.bel.output, Nat.le_trans h.bel.size hg.size,
      fun k hk => (hg.block k (Nat.lt_of_lt_of_le hk h.bel.size) (fun e => by have := Option.some.inj e; omega)).trans (h.bel.block k hk)⟩, h.old⟩
set_option maxRecDepth 8000 in
set_option maxHeartbeats 4000000 in
theorem match_any (w : World) (va vb : Value) (a b : List Tri) (tol : Int) (ha : R3o w va a) (hb : R3o w vb b) (la : a.length ≤ 9223372036854775807) (lb : b.length ≤ 9223372036854775807) :
    Calls Try.prog 25 #[va, vb, .int .i64 tol] w fun e w' => ∃ v, e = .returned v ∧ IRow w' w.heap.size v (if Mn.okB a b tol = true then Mn.run b tol a else []) ∧ Below w.heap.size w w' := by
  have HA := Lib.hid ha
  have HB := Lib.hid hb
  have HVm := Lib.hid (vmatch_any w va vb a b tol ha hb la lb)
  obtain ⟨⟨xa, ca, rfl⟩, -⟩ := ha
  obtain ⟨⟨xb, cb, rfl⟩, -⟩ := hb
  cases hok : Mn.okB a b tol with
  | false =>
    go_enter Try.func25, Try.ntmps25
    go_wp2_with fail
    refine HVm.out.mono ?_
    rw [hok]
    rintro e w1 ⟨rfl, h1⟩
    go_wp2_with fail
    go_ret
    exact ⟨_, rfl, IRow.nil _ _, h1⟩
  | true =>
    obtain ⟨l0, l1, o0, o1, ht⟩ := Mn.okB_ok hok
    have OA := Lib.hid o0
    have OB := Lib.hid o1
    have HCn := Lib.hid (fun W (h : Below w.heap.size w W) => candidates_any W _ b (HB.out.below h (Nat.le_refl _)) l1 (fun i hi => by have := Mn.one_ok (o1 i hi); omega))
    have hn : a.length ≤ 1000 := by omega
    have fmk := fun W => mkN_ints hn W
    clear o0 o1 la lb
    go_enter Try.func25, Try.ntmps25
    go_wp2_with fail
    refine HVm.out.mono ?_
    rw [hok]
    rintro e w1 ⟨rfl, h1⟩
    have H1 := Lib.hid h1
    clear h1 hok HVm
    go_wp2_with fail
    refine (HCn.out w1 H1.out).mono ?_
    rintro e w2 ⟨bm, n0, f0, rfl, hC2, hn0⟩
    have HC2 := Lib.hid hC2
    clear hC2
    go_wp2_with fail
    obtain ⟨g, hg⟩ : ∃ g, g = w2.heap.size := ⟨_, rfl⟩
    have hR3 := (mzN_row w2 a.length hn).lower HC2.out.bel.size
    have HC3 := Lib.hid (HC2.out.next ((Below.refl _ _).alloc (Nat.le_refl _) (.cells (mzN a.length) 3)))
    have hlt3 : g < (w2.alloc (.cells (mzN a.length) 3)).heap.size := by rw [World.size_alloc, hg]; omega
    have hF3 : Fre bm f0 g := ⟨fun e => by have := HC2.out.lt; omega, fun x y hx hy e => by have := (World.ownsRow.lt (HC2.out.row x y hx hy) g e).2; omega⟩
    rw [← hg] at hR3 ⊢
    generalize w2.alloc (.cells (mzN a.length) 3) = w3 at *
    have HR3 := Lib.hid hR3
    have HL3 := Lib.hid hlt3
    have HF3 := Lib.hid hF3
    clear hR3 hlt3 hF3 hg fmk HCn
    rw [show Mn.rows b b.length = Mn.rest b [] from Mn.rest_nil b] at HC3
    go_loopw [23] (fun x wl => ∃ (k n : Nat) (f : Int → Int → Value), k ≤ a.length ∧ n ≤ 10 + k ∧ x = .int .i64 k ∧ Hid (Cds w1 wl bm n f (Mn.rest b (Mn.run b tol (a.take k)))) ∧ Hid (Fre bm f g) ∧ Hid (IRow wl w1.heap.size (.slice (some ⟨g, 0, none⟩) a.length a.length) (Mn.run b tol (a.take k) ++ List.replicate (a.length - k) 0))) (fun x _ => a.length - (intOf x).toNat)
    case atStart => exact ⟨0, n0, f0, Nat.zero_le _, by omega, rfl, HC3, HF3, HR3⟩
    case round =>
      obtain ⟨k, n, f, hk, hnk, rfl, HC, HF, HR⟩ := hrel
      by_cases hlt : k < a.length
      · have hall := HC.out.bel
        have hw1 := H1.out.trans (hall.mono H1.out.size)
        obtain ⟨bb, off, c, e, hbb, hc⟩ := HA.out.2 (by omega)
        simp only [Value.slice.injEq, true_and] at e
        obtain ⟨rfl, rfl⟩ := e
        obtain ⟨c0, c1, c2⟩ := hc k hlt
        replace c0 := (hw1.cell (p := ⟨bb, off + k * 3, none⟩) hbb).trans c0
        replace c1 := (hw1.cell (p := ⟨bb, off + k * 3 + 1, none⟩) hbb).trans c1
        replace c2 := (hw1.cell (p := ⟨bb, off + k * 3 + 2, none⟩) hbb).trans c2
        clear hc
        obtain ⟨v0, v1, v2⟩ := Mn.one_ok (OA.out k hlt)
        have hlen : (Mn.run b tol (a.take k)).length = k := by rw [Mn.run_len, List.length_take]; omega
        have HLn := Lib.hid hlen
        have hrs : Mn.run b tol (a.take (k + 1)) = Mn.run b tol (a.take k) ++ [Mn.at (a.getD k t0) b (Mn.run b tol (a.take k)) tol b.length] := by
          rw [List.take_add_one, List.getElem?_eq_getElem hlt, List.getD_eq_getElem?_getD, List.getElem?_eq_getElem hlt]
          exact Mn.run_snoc ..
        have HRs := Lib.hid hrs
        clear hrs hlen
        have hi0 : (0 : Int) ≤ k := by omega
        have hi1 : (k : Int) < a.length := by omega
        generalize Mn.run b tol (a.take k) = us at *
        generalize a.getD k t0 = t at *
        obtain ⟨d, m, p⟩ := t
        simp only at c0 c1 c2 v0 v1 v2
        go_wp2_with fail
        refine (take_at w1 _ bm n f b us (HC.out.next ((Below.refl _ _).alloc (Nat.le_refl _) _)) (d, m, p) tol ⟨v0.1, by show d ≤ 40000; omega⟩ ⟨v1.1, by show m ≤ 10000; omega⟩ v2 ht l1 (fun i hi => (Mn.one_ok (OB.out i hi)).2.2) (by omega)).mono ?_
        rintro e w5 ⟨f5, n5, hn5, rfl, hC5, hsz5, hK5⟩
        have hgl := (World.ownsRow.lt HR.out g rfl)
        obtain ⟨hb5, hF5⟩ := hK5 g (by rw [World.size_alloc]; omega) HF.out
        have HR5 := Lib.hid (show IRow w5 w1.heap.size (.slice (some ⟨g, 0, none⟩) a.length a.length) (us ++ List.replicate (a.length - k) 0) from World.ownsRow.of_block (HR.out.alloc _) (fun g' h => by obtain rfl := Option.some.inj h; exact hb5))
        have HC5 := Lib.hid hC5
        have HF5 := Lib.hid hF5
        clear hC5 hF5 hK5 hb5
        have HLr := Lib.hid (show (us ++ List.replicate (a.length - k) (0 : Int)).length = a.length by rw [List.length_append, List.length_replicate, HLn.out]; omega)
        obtain ⟨b4, cap4, e4, -, hbl4, -, hc4, hf4⟩ := HR5.out.form (by rw [HLr.out]; omega)
        simp only [Value.slice.injEq, Option.some.injEq, Addr.mk.injEq, and_true] at e4
        obtain ⟨rfl, -⟩ := e4
        have d0 := hc4 k (by rw [HLr.out]; exact hlt)
        have g0 := hf4 k
        clear hc4 hf4
        have HSt := Lib.hid (fun z => (show IRow w5 w1.heap.size (.slice (some ⟨g, 0, none⟩) (us ++ List.replicate (a.length - k) (0 : Int)).length a.length) (us ++ List.replicate (a.length - k) 0) by rw [HLr.out]; exact HR5.out).store k z)
        generalize List.getD (us ++ List.replicate (a.length - k) 0) k 0 = y0 at d0
        generalize Mn.at (d, m, p) b us tol b.length = z at *
        go_wp2_with fail
        go_roundw
        case rel =>
          have h7 := HSt.out z
          refine ⟨k + 1, n5, f5, hlt, by omega, by go_num, ?_, HF5, ?_⟩
          · rw [HRs.out]
            exact Lib.hid (HC5.out.frame h7.2 HF5.out hgl.1)
          · rw [HRs.out]
            have h8 := h7.1
            rw [Mn.fill z HLn.out hlt] at h8
            have e8 : ((us ++ [z]) ++ List.replicate (a.length - (k + 1)) (0 : Int)).length = a.length := by rw [List.length_append, List.length_append, List.length_replicate, HLn.out]; simp; omega
            rw [e8] at h8
            exact Lib.hid h8
        case measure => simp [intOf] <;> omega
      · obtain rfl : k = a.length := by omega
        go_wp2_with fail
        go_ret
        refine ⟨_, rfl, ?_, H1.out.trans (HC.out.bel.mono H1.out.size)⟩
        have h9 := HR.out
        rw [List.take_length, Nat.sub_self, List.replicate_zero, List.append_nil] at h9
        exact h9.lower H1.out.size
end Go.Proofs.Ytmamnljgkkjkcaa
