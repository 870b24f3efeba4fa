/- Notes in the model: which are valid, matched, open. -/
import Derived.Test.YtmamnljgkkjkcaaMnJ
namespace Go.Proofs.Ytmamnljgkkjkcaa
open Go Go.RowKit
theorem Mn.keptN {w w' : World} {B n : Nat} {T : TypeId} {k : Nat} {v : Value} {cs : List Value} {r : Option Nat} (h : w.ownsRow B T k v n cs) (hg : w.grownBy w' r) (hne : ∀ i j, v.ownBlock = some i → r = some j → i ≠ j) : w'.ownsRow B T k v n cs :=
  World.ownsRow.kept h hg (by
    cases hb : v.ownBlock with
    | none => exact .inl rfl
    | some i => exact .inr fun e => hne i i hb e.symm rfl)
def Mn.okL (ps : List Tri) : Bool := btw ps.length 0 10 && ps.all Mn.one
theorem Mn.okB_is (a b : List Tri) (tol : Int) : Mn.okB a b tol = (Mn.okL a && (Mn.okL b && btw tol 0 50000)) := rfl
set_option maxHeartbeats 2000000 in
theorem svnotesM_any (w : World) (v : Value) (ps : List Tri) (hv : R3o w v ps) (hm : ps.length ≤ 9223372036854775807) :
    Calls Try.prog 70 #[v] w fun x w' => x = .returned (.bool (Mn.okL ps)) ∧ Below w.heap.size w w' := by
  obtain ⟨⟨a, c, rfl⟩, h1⟩ := hv
  have H1 := Lib.hid h1; clear h1
  have HO := Lib.hid (show Mn.okL ps = (btw ps.length 0 10 && ps.all Mn.one) from rfl)
  obtain ⟨n, hn⟩ : ∃ n, n = ps.length := ⟨_, rfl⟩
  rw [← hn] at hm HO ⊢
  have HN := Lib.hid hn; clear hn
  go_enter Try.func70, Try.ntmps70
  go_wp2_with fail
  go_loopw [3] (fun x wr => ∃ i : Nat, i ≤ n ∧ x = .int .i64 i ∧ Below w.heap.size w wr ∧ Hid (∀ j, j < i → Mn.one (ps.getD j t0) = true)) (fun x _ => n - (intOf x).toNat)
  case atStart => exact ⟨0, Nat.zero_le _, rfl, Below.refl _ _, Lib.hid (fun j hj => by omega)⟩
  case round =>
    obtain ⟨i, hi, rfl, hb, HH⟩ := hrel
    by_cases hlt : i < n
    · obtain ⟨b, off, d', e, hbl, hc⟩ := H1.out (by rw [← HN.out]; omega)
      rw [← HN.out] at e
      simp only [Value.slice.injEq, true_and] at e
      obtain ⟨rfl, rfl⟩ := e
      obtain ⟨c0, c1, c2⟩ := hc i (by rw [← HN.out]; exact hlt)
      replace c0 := (hb.cell (p := ⟨b, off + i * 3, none⟩) hbl).trans c0
      replace c1 := (hb.cell (p := ⟨b, off + i * 3 + 1, none⟩) hbl).trans c1
      replace c2 := (hb.cell (p := ⟨b, off + i * 3 + 2, none⟩) hbl).trans c2
      clear hc
      have HB := Lib.hid (fun (h : Mn.one (ps.getD i t0) = false) => allB_bad Mn.one t0 (by rw [← HN.out]; exact hlt) h)
      have HG : Hid (Mn.one (ps.getD i t0) = true → ∀ j, j < i + 1 → Mn.one (ps.getD j t0) = true) := Lib.hid (fun h j hj => by
        rcases Nat.lt_or_ge j i with q | q
        · exact HH.out j q
        · obtain rfl : j = i := by omega
          exact h)
      generalize ps.getD i t0 = p at c0 c1 c2 HB HG
      obtain ⟨f, t, u⟩ := p
      simp only at c0 c1 c2
      have HA := Lib.hid (hb.alloc hb.size (.cells #[.int .i64 f, .int .i64 t, .int .i64 u] 48))
      cases h0 : btw f 0 36524 with
      | false =>
        have E := Lib.hid (HB.out (by unfold Mn.one; simp only [h0]; rfl))
        go_wp2_with fail
        refine (inRange_any _ _ _ _).mono ?_
        rintro e w1 ⟨rfl, rfl⟩
        rw [h0]
        go_wp2_with fail
        go_ret
        exact ⟨ret_bool (by rw [HO.out, E.out]; simp), HA.out⟩
      | true =>
        cases h1 : btw t 1 9999 with
        | false =>
          have E := Lib.hid (HB.out (by unfold Mn.one; simp only [h0, h1]; rfl))
          go_wp2_with fail
          refine (inRange_any _ _ _ _).mono ?_
          rintro e w1 ⟨rfl, rfl⟩
          rw [h0]
          go_wp2_with fail
          refine (inRange_any _ _ _ _).mono ?_
          rintro e w1 ⟨rfl, rfl⟩
          rw [h1]
          go_wp2_with fail
          go_ret
          exact ⟨ret_bool (by rw [HO.out, E.out]; simp), HA.out⟩
        | true =>
          cases h2 : btw u 1 50000 with
          | false =>
            have E := Lib.hid (HB.out (by unfold Mn.one; simp only [h0, h1, h2]; rfl))
            go_wp2_with fail
            refine (inRange_any _ _ _ _).mono ?_
            rintro e w1 ⟨rfl, rfl⟩
            rw [h0]
            go_wp2_with fail
            refine (inRange_any _ _ _ _).mono ?_
            rintro e w1 ⟨rfl, rfl⟩
            rw [h1]
            go_wp2_with fail
            refine (inRange_any _ _ _ _).mono ?_
            rintro e w1 ⟨rfl, rfl⟩
            rw [h2]
            go_wp2_with fail
            go_ret
            exact ⟨ret_bool (by rw [HO.out, E.out]; simp), HA.out⟩
          | true =>
            have E := Lib.hid (HG.out (by unfold Mn.one; simp only [h0, h1, h2]; rfl))
            go_wp2_with fail
            refine (inRange_any _ _ _ _).mono ?_
            rintro e w1 ⟨rfl, rfl⟩
            rw [h0]
            go_wp2_with fail
            refine (inRange_any _ _ _ _).mono ?_
            rintro e w1 ⟨rfl, rfl⟩
            rw [h1]
            go_wp2_with fail
            refine (inRange_any _ _ _ _).mono ?_
            rintro e w1 ⟨rfl, rfl⟩
            rw [h2]
            go_wp2_with fail
            go_roundw
            case rel => exact ⟨i + 1, by omega, by go_num, HA.out, E⟩
            case measure => simp [intOf] <;> omega
    · obtain rfl : i = n := by omega
      have HF := Lib.hid (allB_take Mn.one t0 HH.out HN.out)
      by_cases h10 : i ≤ 10
      · have q : (i : Int) ≤ 10 := by omega
        go_wp2_with fail
        go_ret
        exact ⟨ret_bool (by rw [HO.out, HF.out, btw_t (by omega) q]; rfl), hb⟩
      · have q : ¬ (i : Int) ≤ 10 := by omega
        go_wp2_with fail
        go_ret
        exact ⟨ret_bool (by rw [HO.out, HF.out, btw_f (.inr (by omega))]; rfl), hb⟩
set_option maxRecDepth 8000 in
set_option maxHeartbeats 4000000 in
theorem smatch_any (w : World) (va vb : Value) (a b : List Tri) (tol : Int) (ha : R3o w va a) (hb : R3o w vb b) (la : a.length ≤ 9223372036854775807) (lb : b.length ≤ 9223372036854775807) :
    Calls Try.prog 27 #[va, vb, .int .i64 tol] w fun e w' => ∃ v, e = .returned v ∧ IRow w' w.heap.size v (if Mn.okB a b tol = true then Mn.run b tol a else []) ∧ Below w.heap.size w w' := by
  have HVa := Lib.hid (fun W (h : Below w.heap.size w W) => svnotesM_any W va a (ha.below h (Nat.le_refl _)) la)
  have HVb := Lib.hid (fun W (h : Below w.heap.size w W) => svnotesM_any W vb b (hb.below h (Nat.le_refl _)) lb)
  have HPr := Lib.hid (fun W (h : Below w.heap.size w W) hok => pair_any W va vb a b tol (ha.below h (Nat.le_refl _)) (hb.below h (Nat.le_refl _)) hok)
  have HA := Lib.hid ha
  have HB := Lib.hid hb
  obtain ⟨⟨xa, ca, rfl⟩, -⟩ := ha
  obtain ⟨⟨xb, cb, rfl⟩, -⟩ := hb
  have HB0 : Hid (Below w.heap.size w (w)) := Lib.hid (Below.refl w.heap.size w)
  cases h0 : Mn.okL a with
  | false =>
    have HE := Lib.hid (show ¬ Mn.okB a b tol = true by rw [Mn.okB_is, h0]; simp)
    go_enter Try.func27, Try.ntmps27
    go_wp2_with fail
    refine (HVa.out _ HB0.out).mono ?_
    rw [h0]
    rintro e w1 ⟨rfl, h1⟩
    go_wp2_with fail
    go_ret
    exact ⟨_, rfl, by first | exact IRow.nil _ _ | (rw [if_neg HE.out]; exact IRow.nil _ _), HB0.out.trans (h1.mono HB0.out.size)⟩
  | true =>
    cases h1 : Mn.okL b with
    | false =>
      have HE := Lib.hid (show ¬ Mn.okB a b tol = true by rw [Mn.okB_is, h0, h1]; simp)
      go_enter Try.func27, Try.ntmps27
      go_wp2_with fail
      refine (HVa.out _ HB0.out).mono ?_
      rw [h0]
      rintro e w1 ⟨rfl, k1⟩
      have HB1 := Lib.hid (HB0.out.trans (k1.mono HB0.out.size))
      clear k1
      go_wp2_with fail
      refine (HVb.out _ HB1.out).mono ?_
      rw [h1]
      rintro e w2 ⟨rfl, k2⟩
      go_wp2_with fail
      go_ret
      exact ⟨_, rfl, by first | exact IRow.nil _ _ | (rw [if_neg HE.out]; exact IRow.nil _ _), HB1.out.trans (k2.mono HB1.out.size)⟩
    | true =>
      cases h2 : btw tol 0 50000 with
      | false =>
        have HE := Lib.hid (show ¬ Mn.okB a b tol = true by rw [Mn.okB_is, h0, h1, h2]; simp)
        go_enter Try.func27, Try.ntmps27
        go_wp2_with fail
        refine (HVa.out _ HB0.out).mono ?_
        rw [h0]
        rintro e w1 ⟨rfl, k1⟩
        have HB1 := Lib.hid (HB0.out.trans (k1.mono HB0.out.size))
        clear k1
        go_wp2_with fail
        refine (HVb.out _ HB1.out).mono ?_
        rw [h1]
        rintro e w2 ⟨rfl, k2⟩
        have HB2 := Lib.hid (HB1.out.trans (k2.mono HB1.out.size))
        clear k2
        go_wp2_with fail
        refine (inRange_any _ _ _ _).mono ?_
        rw [h2]
        rintro e w3 ⟨rfl, rfl⟩
        go_wp2_with fail
        go_ret
        exact ⟨_, rfl, by first | exact IRow.nil _ _ | (rw [if_neg HE.out]; exact IRow.nil _ _), HB2.out⟩
      | true =>
        have hok : Mn.okB a b tol = true := by rw [Mn.okB_is, h0, h1, h2]; rfl
        have HE := Lib.hid hok
        have HPr2 := Lib.hid (fun W h => HPr.out W h hok)
        obtain ⟨l0, l1, -, -, ht⟩ := Mn.okB_ok hok
        have hlu : (Mn.run b tol a).length = a.length := Mn.run_len ..
        clear hok la lb HPr
        generalize Mn.run b tol a = us at *
        go_enter Try.func27, Try.ntmps27
        go_wp2_with fail
        refine (HVa.out _ HB0.out).mono ?_
        rw [h0]
        rintro e w1 ⟨rfl, k1⟩
        have HB1 := Lib.hid (HB0.out.trans (k1.mono HB0.out.size))
        clear k1
        go_wp2_with fail
        refine (HVb.out _ HB1.out).mono ?_
        rw [h1]
        rintro e w2 ⟨rfl, k2⟩
        have HB2 := Lib.hid (HB1.out.trans (k2.mono HB1.out.size))
        clear k2
        go_wp2_with fail
        refine (inRange_any _ _ _ _).mono ?_
        rw [h2]
        rintro e w3 ⟨rfl, rfl⟩
        clear h0 h1 h2
        go_wp2_with fail
        refine (HPr2.out _ HB2.out).mono ?_
        rintro e w4 ⟨v, rfl, hv4, hb4⟩
        have HB4 := Lib.hid (HB2.out.trans (hb4.mono HB2.out.size))
        have HV4 := Lib.hid (hv4.lower HB2.out.size)
        clear hv4 hb4
        go_wp2_with fail
        go_ret
        exact ⟨_, rfl, by first | exact HV4.out | (rw [if_pos HE.out]; exact HV4.out), HB4.out⟩
set_option maxRecDepth 8000 in
set_option maxHeartbeats 4000000 in
theorem sopen_any (w : World) (va vb : Value) (a b : List Tri) (tol : Int) (ha : R3o w va a) (hb : R3o w vb b) (la : a.length ≤ 9223372036854775807) (lb : b.length ≤ 9223372036854775807) :
    Calls Try.prog 33 #[va, vb, .int .i64 tol] w fun e w' => ∃ v, e = .returned v ∧ TRow 48 w' w.heap.size v (if Mn.okB a b tol = true then Mn.opn b (Mn.run b tol a) b.length else []) ∧ Below w.heap.size w w' := by
  have HVa := Lib.hid (fun W (h : Below w.heap.size w W) => svnotesM_any W va a (ha.below h (Nat.le_refl _)) la)
  have HVb := Lib.hid (fun W (h : Below w.heap.size w W) => svnotesM_any W vb b (hb.below h (Nat.le_refl _)) lb)
  have HPr := Lib.hid (fun W (h : Below w.heap.size w W) hok => pair_any W va vb a b tol (ha.below h (Nat.le_refl _)) (hb.below h (Nat.le_refl _)) hok)
  have HA := Lib.hid ha
  have HB := Lib.hid hb
  obtain ⟨⟨xa, ca, rfl⟩, -⟩ := ha
  obtain ⟨⟨xb, cb, rfl⟩, -⟩ := hb
  have HB0 : Hid (Below w.heap.size w (w.alloc (.cells #[] 48))) := Lib.hid ((Below.refl w.heap.size w).alloc (Nat.le_refl _) (.cells #[] 48))
  cases h0 : Mn.okL a with
  | false =>
    have HE := Lib.hid (show ¬ Mn.okB a b tol = true by rw [Mn.okB_is, h0]; simp)
    go_enter Try.func33, Try.ntmps33
    go_wp2_with fail
    refine (HVa.out _ HB0.out).mono ?_
    rw [h0]
    rintro e w1 ⟨rfl, h1⟩
    go_wp2_with fail
    go_ret
    exact ⟨_, rfl, by first | exact TRow.nil _ _ _ | (rw [if_neg HE.out]; exact TRow.nil _ _ _), HB0.out.trans (h1.mono HB0.out.size)⟩
  | true =>
    cases h1 : Mn.okL b with
    | false =>
      have HE := Lib.hid (show ¬ Mn.okB a b tol = true by rw [Mn.okB_is, h0, h1]; simp)
      go_enter Try.func33, Try.ntmps33
      go_wp2_with fail
      refine (HVa.out _ HB0.out).mono ?_
      rw [h0]
      rintro e w1 ⟨rfl, k1⟩
      have HB1 := Lib.hid (HB0.out.trans (k1.mono HB0.out.size))
      clear k1
      go_wp2_with fail
      refine (HVb.out _ HB1.out).mono ?_
      rw [h1]
      rintro e w2 ⟨rfl, k2⟩
      go_wp2_with fail
      go_ret
      exact ⟨_, rfl, by first | exact TRow.nil _ _ _ | (rw [if_neg HE.out]; exact TRow.nil _ _ _), HB1.out.trans (k2.mono HB1.out.size)⟩
    | true =>
      cases h2 : btw tol 0 50000 with
      | false =>
        have HE := Lib.hid (show ¬ Mn.okB a b tol = true by rw [Mn.okB_is, h0, h1, h2]; simp)
        go_enter Try.func33, Try.ntmps33
        go_wp2_with fail
        refine (HVa.out _ HB0.out).mono ?_
        rw [h0]
        rintro e w1 ⟨rfl, k1⟩
        have HB1 := Lib.hid (HB0.out.trans (k1.mono HB0.out.size))
        clear k1
        go_wp2_with fail
        refine (HVb.out _ HB1.out).mono ?_
        rw [h1]
        rintro e w2 ⟨rfl, k2⟩
        have HB2 := Lib.hid (HB1.out.trans (k2.mono HB1.out.size))
        clear k2
        go_wp2_with fail
        refine (inRange_any _ _ _ _).mono ?_
        rw [h2]
        rintro e w3 ⟨rfl, rfl⟩
        go_wp2_with fail
        go_ret
        exact ⟨_, rfl, by first | exact TRow.nil _ _ _ | (rw [if_neg HE.out]; exact TRow.nil _ _ _), HB2.out⟩
      | true =>
        have hok : Mn.okB a b tol = true := by rw [Mn.okB_is, h0, h1, h2]; rfl
        have HE := Lib.hid hok
        have HPr2 := Lib.hid (fun W h => HPr.out W h hok)
        obtain ⟨l0, l1, -, -, ht⟩ := Mn.okB_ok hok
        have hlu : (Mn.run b tol a).length = a.length := Mn.run_len ..
        clear hok la lb HPr
        generalize Mn.run b tol a = us at *
        have HT0 := Lib.hid (show TRow 48 (w.alloc (.cells #[] 48)) w.heap.size (.slice (some ⟨w.heap.size, 0, none⟩) 0 0) [] from World.ownsRow_lit w #[] 0 (Nat.le_refl _) (Nat.zero_le _) (by simp))
        go_enter Try.func33, Try.ntmps33
        go_wp2_with fail
        refine (HVa.out _ HB0.out).mono ?_
        rw [h0]
        rintro e w1 ⟨rfl, k1⟩
        have HB1 := Lib.hid (HB0.out.trans (k1.mono HB0.out.size))
        have HT1 := Lib.hid (HT0.out.below k1 (Nat.le_refl _))
        clear k1 HT0
        go_wp2_with fail
        refine (HVb.out _ HB1.out).mono ?_
        rw [h1]
        rintro e w2 ⟨rfl, k2⟩
        have HB2 := Lib.hid (HB1.out.trans (k2.mono HB1.out.size))
        have HT2 := Lib.hid (HT1.out.below k2 (Nat.le_refl _))
        clear k2 HT1
        go_wp2_with fail
        refine (inRange_any _ _ _ _).mono ?_
        rw [h2]
        rintro e w3 ⟨rfl, rfl⟩
        clear h0 h1 h2
        go_wp2_with fail
        refine (HPr2.out _ HB2.out).mono ?_
        rintro e w4 ⟨v, rfl, hv4, hb4⟩
        have HB4 := Lib.hid (HB2.out.trans (hb4.mono HB2.out.size))
        have HT4 := Lib.hid (HT2.out.below hb4 (Nat.le_refl _))
        have hlr : us.length ≤ 100 := by omega
        have hsz : w.heap.size + 1 ≤ w2.heap.size := by have := HT2.out.lt w.heap.size rfl; omega
        have HR4 := Lib.hid (hv4.lower hsz)
        obtain ⟨xm, cm, rfl⟩ := hv4.slice
        have HN4 : Hid (∀ i j, (Value.slice xm us.length cm).ownBlock = some i → (Value.slice (some ⟨w.heap.size, 0, none⟩) 0 0).ownBlock = some j → i ≠ j) := Lib.hid fun i j hi hj => by
          have h := (World.ownsRow.lt HR4.out i hi).1
          have hj2 : some w.heap.size = some j := hj
          injection hj2 with hj2
          omega
        clear hsz
        have HLr := Lib.hid hlr
        clear hv4 hb4 hlr hlu HT2 HVa HVb HPr2
        go_wp2_with fail
        go_loopw [7, 9] (fun o x wl => ∃ k : Nat, k ≤ b.length ∧ x = .int .i64 k ∧ Hid (TRow 48 wl w.heap.size o (Mn.opn b us k)) ∧ Hid (Below w.heap.size w wl) ∧ Hid (IRow wl (w.heap.size + 1) (.slice xm us.length cm) us) ∧ Hid (∀ i j, (Value.slice xm us.length cm).ownBlock = some i → o.ownBlock = some j → i ≠ j)) (fun _ x _ => b.length - (intOf x).toNat)
        case atStart => exact ⟨0, Nat.zero_le _, rfl, HT4, HB4, HR4, HN4⟩
        case round =>
          obtain ⟨k, hk, rfl, HO, HBl, HR, HN0⟩ := hrel
          by_cases hlt : k < b.length
          · obtain ⟨bb, off, c, e, hbb, hc⟩ := HB.out.2 (by omega)
            simp only [Value.slice.injEq, true_and] at e
            obtain ⟨rfl, rfl⟩ := e
            have hw1 := HBl.out
            obtain ⟨c0, c1, c2⟩ := hc k hlt
            replace c0 := (hw1.cell (p := ⟨bb, off + k * 3, none⟩) hbb).trans c0
            replace c1 := (hw1.cell (p := ⟨bb, off + k * 3 + 1, none⟩) hbb).trans c1
            replace c2 := (hw1.cell (p := ⟨bb, off + k * 3 + 2, none⟩) hbb).trans c2
            clear hc hw1
            have HSt := Lib.hid (Mn.opn_step b us k)
            have HLo := Lib.hid (Mn.opn_len b us k)
            have hi0 : (0 : Int) ≤ k := by omega
            have hi1 : (k : Int) < b.length := by omega
            generalize Mn.opn b us k = O at *
            generalize b.getD k t0 = t at *
            obtain ⟨d, m, p⟩ := t
            simp only at c0 c1 c2
            have HBA := Lib.hid (HBl.out.alloc HBl.out.size (.cells #[.int .i64 d, .int .i64 m, .int .i64 p] 48))
            have HOA := Lib.hid (HO.out.alloc (.cells #[.int .i64 d, .int .i64 m, .int .i64 p] 48))
            have HRA := Lib.hid (HR.out.alloc (.cells #[.int .i64 d, .int .i64 m, .int .i64 p] 48))
            have HCt := Lib.hid (isIn_any wr _ us k HR.out.r1 HLr.out)
            have HNC := Lib.hid (newNote_cells wr (d, m, p))
            by_cases hmem : (k : Int) ∈ us
            · have hd := decide_eq_true hmem
              have hst := HSt.out
              rw [if_pos hmem] at hst
              have HS := Lib.hid hst
              clear hst HSt
              go_wp2_with fail
              refine HCt.out.mono ?_
              rw [hd]
              rintro e w5 ⟨rfl, rfl⟩
              go_wp2_with fail
              go_roundw
              case rel => exact ⟨k + 1, hlt, by go_num, by rw [HS.out]; exact HO, HBl, HR, HN0⟩
              case measure => simp [intOf] <;> omega
            · have hd := decide_eq_false hmem
              have hst := HSt.out
              rw [if_neg hmem] at hst
              have HS := Lib.hid hst
              clear hst HSt
              go_wp2_with fail
              refine HCt.out.mono ?_
              rw [hd]
              rintro e w5 ⟨rfl, rfl⟩
              have HLl := Lib.hid (show O.length + 1 ≤ 1000000 by have := HLo.out; omega)
              go_wp2_with (at_builtin; refine wpList_pushNote _ rfl _ _ rfl w.heap.size _ O rfl HOA.out wr.heap.size _ (d, m, p) rfl HNC.out HLl.out HBA.out.size ?_; intro v5 w5 hown5 hne5 hg5 hv5)
              go_roundw
              case rel =>
                refine ⟨k + 1, hlt, by go_num, by rw [HS.out]; exact Lib.hid hown5, Lib.hid (belowG HBA.out hg5 (fun j hj => (World.ownsRow.lt HOA.out j hj).1)), Lib.hid ?_, Lib.hid fun i j hi hj => ?_⟩
                · exact Mn.keptN HRA.out hg5 fun i j hi hj => HN0.out i j hi hj
                · have hlt5 := (World.ownsRow.lt HRA.out i hi).2
                  rcases hv5 with h | h
                  · exact HN0.out i j hi (h ▸ hj)
                  · rw [h] at hj; injection hj with hj; omega
              case measure => simp [intOf] <;> omega
          · obtain rfl : k = b.length := by omega
            go_wp2_with fail
            go_ret
            exact ⟨_, rfl, by first | exact HO.out | (rw [if_pos HE.out]; exact HO.out), HBl.out⟩
end Go.Proofs.Ytmamnljgkkjkcaa
