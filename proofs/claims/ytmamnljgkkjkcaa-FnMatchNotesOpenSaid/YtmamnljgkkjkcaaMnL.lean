/- The laws of matched and open notes. -/
import Derived.Test.YtmamnljgkkjkcaaMnO
import Derived.Test.YtmamnljgkkjkcaaMnD
namespace Go.Proofs.Ytmamnljgkkjkcaa
open Go Go.RowKit
theorem lisInM_any (w : World) (v : Value) (xs : List Int) (z : Int) (hv : R1o w v xs) (hl : xs.length ≤ 100) :
    Calls Try.prog 29 #[v, .int .i64 z] w fun e w' => e = .returned (.bool (decide (z ∈ xs))) ∧ w = w' := by
  have HX := Lib.hid hv
  obtain ⟨⟨a, c, rfl⟩, -⟩ := hv
  go_enter Try.func29, Try.ntmps29
  go_wp2_with fail
  have HL := Lib.hid hl
  go_loopw [5] (fun x wl => ∃ k : Nat, k ≤ xs.length ∧ x = .int .i64 k ∧ Hid (z ∉ xs.take k) ∧ Hid (w = wl)) (fun x _ => xs.length - (intOf x).toNat)
  case atStart => exact ⟨0, Nat.zero_le _, rfl, Lib.hid (by simp), Lib.hid rfl⟩
  case round =>
    obtain ⟨k, hk, rfl, HN, HW⟩ := hrel
    obtain rfl := HW.out
    by_cases hlt : k < xs.length
    · obtain ⟨b, off, c', e, hbl, hc⟩ := HX.out.2 (by omega)
      simp only [Value.slice.injEq, true_and] at e
      obtain ⟨rfl, rfl⟩ := e
      have c0 := hc k hlt
      clear hc
      have hi0 : (0 : Int) ≤ k := by omega
      have hi1 : (k : Int) < xs.length := by omega
      have ht : xs.take (k + 1) = xs.take k ++ [xs.getD k 0] := by
        rw [List.take_add_one, List.getElem?_eq_getElem hlt, List.getD_eq_getElem?_getD, List.getElem?_eq_getElem hlt]; rfl
      have hmem : xs.getD k 0 ∈ xs := by
        rw [List.getD_eq_getElem?_getD, List.getElem?_eq_getElem hlt]
        exact List.getElem_mem hlt
      generalize xs.getD k 0 = y at c0 ht hmem
      by_cases hz : z = y
      · subst hz
        have hd : (z == z) = true := by simp
        have HM := Lib.hid hmem
        clear ht hmem
        go_wp2_with fail
        go_ret
        exact ⟨ret_bool (decide_eq_true HM.out).symm, rfl⟩
      · have hd : (y == z) = false := by simpa using fun h : y = z => hz h.symm
        have HT := Lib.hid ht
        clear ht hmem
        go_wp2_with fail
        go_roundw
        case rel => exact ⟨k + 1, hlt, by go_num, Lib.hid (by rw [HT.out]; intro h; rcases List.mem_append.1 h with h | h; exact HN.out h; exact hz (by simpa using h)), (by first | exact Lib.hid rfl | exact Lib.hid trivial)⟩
        case measure => simp [intOf] <;> omega
    · obtain rfl : k = xs.length := by omega
      go_wp2_with fail
      go_ret
      have h := HN.out
      rw [List.take_length] at h
      exact ⟨ret_bool (decide_eq_false h).symm, rfl⟩
theorem labsM_any (n : Int) (w : World) (h0 : -1000000000 ≤ n) (h1 : n ≤ 1000000000) : Calls Try.prog 28 #[.int .i64 n] w fun e w' => e = .returned (.int .i64 (Mn.ab n)) ∧ w = w' := by
  unfold Mn.ab
  by_cases h : n < 0
  · rw [if_pos h]
    have h' := decide_eq_true h
    have W1 : IntKind.i64.wrap (-n) = -n := IntWalk.i64_in _ (by omega)
    go_enter Try.func28, Try.ntmps28
    go_wp2_with fail
    go_ret
    exact ⟨rfl, rfl⟩
  · rw [if_neg h]
    have h' := decide_eq_false h
    go_enter Try.func28, Try.ntmps28
    go_wp2_with fail
    go_ret
    exact ⟨rfl, rfl⟩
set_option maxRecDepth 8000 in
set_option maxHeartbeats 1000000 in
theorem eqNo_same (w : World) (v u : Value) (fs : List Tri) (hv : R3o w v fs) (hu : R3o w u fs) (hm : fs.length ≤ 1000) :
    Calls Try.prog 32 #[v, u] w fun e w' => e = .returned (.bool true) ∧ Below w.heap.size w w' := by
  obtain ⟨⟨a, c, rfl⟩, h1⟩ := hv
  obtain ⟨⟨a', c', rfl⟩, h2⟩ := hu
  have H1 := Lib.hid h1; clear h1
  have H2 := Lib.hid h2; clear h2
  obtain ⟨n, hn⟩ : ∃ n, n = fs.length := ⟨_, rfl⟩
  rw [← hn] at hm ⊢
  have HN := Lib.hid hn; clear hn
  go_enter Try.func32, Try.ntmps32
  go_wp2_with fail
  go_loopw [5] (fun x wr => ∃ i : Nat, i ≤ n ∧ x = .int .i64 i ∧ Below w.heap.size w wr) (fun x _ => n - (intOf x).toNat)
  case atStart => exact ⟨0, Nat.zero_le _, rfl, Below.refl _ _⟩
  case round =>
    obtain ⟨i, hi, rfl, hb⟩ := hrel
    by_cases hlt : i < n
    · obtain ⟨b, off, d, e, hbl, hc⟩ := H1.out (by rw [← HN.out]; omega)
      obtain ⟨b', off', d', e', hbl', hc'⟩ := H2.out (by rw [← HN.out]; omega)
      rw [← HN.out] at e e'
      simp only [Value.slice.injEq, true_and] at e e'
      obtain ⟨rfl, rfl⟩ := e
      obtain ⟨rfl, rfl⟩ := e'
      obtain ⟨c0, c1, c2⟩ := hc i (by rw [← HN.out]; exact hlt)
      obtain ⟨g0, g1, g2⟩ := hc' i (by rw [← HN.out]; exact hlt)
      replace c0 := (hb.cell (p := ⟨b, off + i * 3, none⟩) hbl).trans c0
      replace c1 := (hb.cell (p := ⟨b, off + i * 3 + 1, none⟩) hbl).trans c1
      replace c2 := (hb.cell (p := ⟨b, off + i * 3 + 2, none⟩) hbl).trans c2
      replace g0 := (hb.cell (p := ⟨b', off' + i * 3, none⟩) hbl').trans g0
      replace g1 := (hb.cell (p := ⟨b', off' + i * 3 + 1, none⟩) hbl').trans g1
      replace g2 := (hb.cell (p := ⟨b', off' + i * 3 + 2, none⟩) hbl').trans g2
      clear hc hc'
      generalize fs.getD i t0 = p at c0 c1 c2 g0 g1 g2
      obtain ⟨p1, p2, p3⟩ := p
      dsimp only at c0 c1 c2 g0 g1 g2
      have e0 : (p1 != p1) = false := by simp
      have e1 : (p2 != p2) = false := by simp
      have e2 : (p3 != p3) = false := by simp
      go_wp2_with fail
      go_quiet (fail)
      go_wp2_with fail
      go_roundw
      case rel => exact ⟨i + 1, by omega, by go_num, belowD hb _⟩
      case measure => simp [intOf]; omega
    · obtain rfl : i = n := by omega
      go_wp2_with fail
      go_ret
      exact ⟨rfl, hb⟩
theorem Mn.mval_facts {a b : List Tri} {tol : Int} (h : (Mn.mval a b tol).length ≠ 0) : Mn.okB a b tol = true ∧ Mn.mval a b tol = Mn.run b tol a ∧ (Mn.mval a b tol).length = a.length := by
  by_cases c : Mn.okB a b tol = true
  · have e : Mn.mval a b tol = Mn.run b tol a := if_pos c
    exact ⟨c, e, by rw [e, Mn.run_len]⟩
  · exact absurd (show (Mn.mval a b tol).length = 0 by rw [show Mn.mval a b tol = [] from if_neg c]; rfl) h
/-- What each number that matching gives says. -/
def Mn.Says (a b : List Tri) (tol : Int) (U : List Int) : Prop := ∀ i, i < a.length → (U.getD i 0 = -1 ∧ ∀ j, j < b.length → Mn.same (a.getD i t0) (b.getD j t0) = true → (j : Int) ∉ U → tol < Mn.ds (a.getD i t0) (b.getD j t0)) ∨ ∃ j, j < b.length ∧ U.getD i 0 = (j : Int) ∧ Mn.same (a.getD i t0) (b.getD j t0) = true ∧ Mn.ds (a.getD i t0) (b.getD j t0) ≤ tol ∧ (j : Int) ∉ U.take i
theorem Mn.says (a b : List Tri) (tol : Int) : Mn.Says a b tol (Mn.run b tol a) := by
  intro i hi
  rw [Mn.run_at b tol a hi]
  have ht : (Mn.run b tol a).take i = Mn.run b tol (a.take i) := Mn.run_take b tol a i (Nat.le_of_lt hi)
  rw [ht]
  rcases Mn.at_facts (a.getD i t0) b (Mn.run b tol (a.take i)) tol b.length with ⟨h1, h2⟩ | ⟨j, hj, h1, h2, h3, h4⟩
  · refine .inl ⟨h1, fun j hj hs hn => h2 j hj hs (fun hm => hn ?_)⟩
    rw [← ht] at hm
    exact List.mem_of_mem_take hm
  · exact .inr ⟨j, hj, h1, h2, h3, h4⟩
theorem Mn.same_of {d m p d' m' p' : Int} (h : Mn.same (d, m, p) (d', m', p') = true) : d = d' ∧ m = m' := by
  unfold Mn.same at h
  rw [Bool.and_eq_true] at h
  exact ⟨by simpa using h.1, by simpa using h.2⟩
theorem IRow.cap {w : World} {B : Nat} {a : Option Addr} {n c : Nat} {xs : List Int} (h : IRow w B (.slice a n c) xs) : n ≤ c := by
  rcases h.2 with ⟨e, hn⟩ | ⟨b, cap, cur, e, h1, h2, h3, h4⟩
  · injection e with e1 e2 e3; omega
  · injection e with e1 e2 e3
    have := h3
    omega
theorem R1o.cut {w : World} {a : Option Addr} {n c : Nat} {xs : List Int} (h : R1o w (.slice a n c) xs) (i : Nat) (hi : i ≤ xs.length) : R1o w (.slice a i c) (xs.take i) := by
  have hl : (xs.take i).length = i := by rw [List.length_take]; omega
  refine ⟨⟨a, c, by rw [hl]⟩, fun h0 => ?_⟩
  obtain ⟨b, off, c', e, hb, hc⟩ := h.2 (by omega)
  simp only [Value.slice.injEq] at e
  obtain ⟨rfl, -, rfl⟩ := e
  refine ⟨b, off, c, by rw [hl], hb, fun k hk => ?_⟩
  rw [hc k (by omega)]
  congr 2
  rw [List.getD_eq_getElem?_getD, List.getD_eq_getElem?_getD, List.getElem?_take_of_lt (by omega)]
set_option maxRecDepth 8000 in
set_option maxHeartbeats 8000000 in
theorem lawMatchNotes (a : Option Addr) (len cap : Nat) (zs : List Int) (w : World) (h : IsRow .u8 w a len cap zs) :
    Calls Try.prog 5 #[.slice a len cap] w fun e w' => e = .returned (.bool true) ∧ Below w.heap.size w w' := by
  have H := Lib.hid h; clear h
  by_cases hl : 1048576 < (len : Int)
  · go_enter Try.func5, Try.ntmps5
    go_wp2_with fail
    go_ret
    exact ⟨rfl, Below.refl _ _⟩
  · have hl' := decide_eq_false hl
    clear hl
    go_enter Try.func5, Try.ntmps5
    go_wp2_with fail
    refine (drawMn_any _ _ _ _ _ H.out).mono ?_
    rintro e w1 ⟨va, vb, A, B, tol, rfl, hA, hB, la, lb, hIa, hIb, ⟨ht0, ht1⟩, hb1⟩
    have RA := Lib.hid hA
    have RB := Lib.hid hB
    have HB1 := Lib.hid hb1
    have IA := Lib.hid hIa
    have IB := Lib.hid hIb
    have MO := Lib.hid (fun W (hW : Below w1.heap.size w1 W) => matchE_any W va vb A B tol (RA.out.below hW (Nat.le_refl _)) (RB.out.below hW (Nat.le_refl _)) (by omega) (by omega))
    have SM := Lib.hid (fun W (hW : Below w1.heap.size w1 W) => smatchE_any W va vb A B tol (RA.out.below hW (Nat.le_refl _)) (RB.out.below hW (Nat.le_refl _)) (by omega) (by omega))
    have OP := Lib.hid (fun W (hW : Below w1.heap.size w1 W) => openE_any W va vb A B tol (RA.out.below hW (Nat.le_refl _)) (RB.out.below hW (Nat.le_refl _)) (by omega) (by omega))
    have SO := Lib.hid (fun W (hW : Below w1.heap.size w1 W) => sopenE_any W va vb A B tol (RA.out.below hW (Nat.le_refl _)) (RB.out.below hW (Nat.le_refl _)) (by omega) (by omega))
    have HF := Lib.hid (fun h => @Mn.mval_facts A B tol h)
    have hq := Mn.mval_len A B tol
    have hqo := Mn.oval_len A B tol
    have HOv := Lib.hid (show Mn.okB A B tol = true → Mn.oval A B tol = Mn.opn B (Mn.run B tol A) B.length from fun h => if_pos h)
    obtain ⟨⟨xa, ca, rfl⟩, -⟩ := hA
    obtain ⟨⟨xb, cb, rfl⟩, -⟩ := hB
    clear hb1 hIa hIb
    obtain ⟨U, hU⟩ : ∃ U, U = Mn.mval A B tol := ⟨_, rfl⟩
    obtain ⟨O, hO⟩ : ∃ O, O = Mn.oval A B tol := ⟨_, rfl⟩
    rw [← hU] at MO SM HF hq
    rw [← hO] at OP SO hqo HOv
    clear hU hO
    have HA0 := Lib.hid (Below.refl w1.heap.size w1)
    go_wp2_with fail
    refine (MO.out _ HA0.out).mono ?_
    rintro e w2 ⟨u, rfl, hu, hb2⟩
    obtain ⟨au, cu, rfl⟩ := hu.slice
    have HU2 := Lib.hid hu
    have HA2 := Lib.hid (HA0.out.trans (hb2.mono HA0.out.size))
    clear hu hb2
    go_wp2_with fail
    refine (SM.out _ HA2.out).mono ?_
    rintro e w3 ⟨u3, rfl, hu, hb3⟩
    have HV3 := Lib.hid hu.r1
    have HA3 := Lib.hid (HA2.out.trans (hb3.mono HA2.out.size))
    have HU3 := Lib.hid (HU2.out.below hb3 (Nat.le_refl _))
    clear hu hb3
    go_wp2_with fail
    refine (equ_same _ _ _ _ HU3.out.r1 HV3.out (by omega)).mono ?_
    rintro e w4 ⟨rfl, hb4⟩
    have HA4 := Lib.hid (HA3.out.trans (hb4.mono HA3.out.size))
    have HU4 := Lib.hid (HU3.out.below hb4 (Nat.le_refl _))
    clear hb4 HV3
    by_cases hz : U.length = 0
    · have hz' : ((U.length : Int) == 0) = true := by rw [hz]; rfl
      clear hz
      go_wp2_with fail
      refine (SM.out _ HA4.out).mono ?_
      rintro e w5 ⟨u5, rfl, hu, hb5⟩
      have HV5 := Lib.hid hu.r1
      have HA5 := Lib.hid (HA4.out.trans (hb5.mono HA4.out.size))
      have HU5 := Lib.hid (HU4.out.below hb5 (Nat.le_refl _))
      clear hu hb5
      go_wp2_with fail
      refine (equ_same _ _ _ _ HU5.out.r1 HV5.out (by omega)).mono ?_
      rintro e w6 ⟨rfl, hb6⟩
      have HA6 := Lib.hid (HA5.out.trans (hb6.mono HA5.out.size))
      have HU6 := Lib.hid (HU5.out.below hb6 (Nat.le_refl _))
      clear hb6 HV5
      go_wp2_with fail
      go_ret
      exact ⟨rfl, HB1.out.trans (HA6.out.mono HB1.out.size)⟩
    · have hz' : ((U.length : Int) == 0) = false := by simp only [beq_eq_false_iff_ne, ne_eq]; omega
      obtain ⟨hok, hUe, hUl⟩ := HF.out hz
      have HS := Lib.hid (hUe ▸ Mn.says A B tol)
      obtain ⟨-, -, hoA, hoB, -⟩ := Mn.okB_ok hok
      have OA := Lib.hid hoA
      have OB := Lib.hid hoB
      have hcap := HU4.out.cap
      clear hUe hoA hoB hok hz MO SM OP SO
      rw [hUl] at hcap hz' hq HU4 ⊢
      have HUl := Lib.hid hUl
      clear hUl
      go_wp2_with fail
      go_loopw [7] (fun x wl => ∃ i : Nat, i ≤ A.length ∧ x = .int .i64 i ∧ ∃ q, wl = w4.drewN q) (fun x _ => A.length - (intOf x).toNat)
      case atStart => exact ⟨0, Nat.zero_le _, rfl, 0, rfl⟩
      case round =>
        obtain ⟨i, hi, rfl, q, rfl⟩ := hrel
        by_cases hlt : i < A.length
        · obtain ⟨ub, uoff, c, e, hub, huc⟩ := HU4.out.r1.2 (by rw [HUl.out]; omega)
          simp only [Value.slice.injEq] at e
          obtain ⟨rfl, -, rfl⟩ := e
          have u0 := huc i (by rw [HUl.out]; exact hlt)
          clear huc
          obtain ⟨ab, aoff, ac, e, hab, hac⟩ := RA.out.2 (by omega)
          simp only [Value.slice.injEq, true_and] at e
          obtain ⟨rfl, rfl⟩ := e
          obtain ⟨a0, a1, a2⟩ := hac i hlt
          have hw1 := HA4.out
          replace a0 := (hw1.cell (p := ⟨ab, aoff + i * 3, none⟩) hab).trans a0
          replace a1 := (hw1.cell (p := ⟨ab, aoff + i * 3 + 1, none⟩) hab).trans a1
          replace a2 := (hw1.cell (p := ⟨ab, aoff + i * 3 + 2, none⟩) hab).trans a2
          clear hac
          have hSi := HS.out i hlt
          have oA := Mn.one_ok (OA.out i hlt)
          generalize A.getD i t0 = t at a0 a1 a2 hSi oA
          obtain ⟨d, m, p⟩ := t
          simp only at a0 a1 a2 oA
          obtain ⟨oA0, oA1, oA2⟩ := oA
          have hi0 : (0 : Int) ≤ i := by omega
          have hi1 : (i : Int) < A.length := by omega
          have HRi := Lib.hid ((HU4.out.r1.cut i (by rw [HUl.out]; omega)).drewN q)
          rcases hSi with ⟨hk, -⟩ | ⟨j, hj, hk, hsm, hds, hnm⟩
          · rw [hk] at u0
            clear hw1 hk
            go_wp2_with fail
            go_roundw
            case rel => exact ⟨i + 1, hlt, by go_num, q, rfl⟩
            case measure => simp [intOf] <;> omega
          · rw [hk] at u0
            obtain ⟨bb, boff, bc, e, hbb, hbc⟩ := RB.out.2 (by omega)
            simp only [Value.slice.injEq, true_and] at e
            obtain ⟨rfl, rfl⟩ := e
            obtain ⟨b0, b1, b2⟩ := hbc j hj
            replace b0 := (hw1.cell (p := ⟨bb, boff + j * 3, none⟩) hbb).trans b0
            replace b1 := (hw1.cell (p := ⟨bb, boff + j * 3 + 1, none⟩) hbb).trans b1
            replace b2 := (hw1.cell (p := ⟨bb, boff + j * 3 + 2, none⟩) hbb).trans b2
            have oB := Mn.one_ok (OB.out j hj)
            clear hbc hw1 hk
            generalize B.getD j t0 = t at b0 b1 b2 oB hsm hds
            obtain ⟨d', m', p'⟩ := t
            simp only at b0 b1 b2 oB
            obtain ⟨oB0, oB1, oB2⟩ := oB
            obtain ⟨rfl, rfl⟩ := Mn.same_of hsm
            have hj0 : (0 : Int) ≤ j := by omega
            have hj1 : (j : Int) < B.length := by omega
            have hj2 : decide (B.length ≤ j) = false := decide_eq_false (by omega)
            have hj3 : ((j : Int) < 0) = False := by simp
            have e0 : (d != d) = false := by simp
            have e1 : (m != m) = false := by simp
            have e2 : decide (tol < Mn.ab (p - p')) = false := decide_eq_false (by have h : Mn.ab (p - p') ≤ tol := hds; exact Int.not_lt.2 h)
            have hic : (i : Int) ≤ cu := by omega
            have HD1 := Lib.hid (fun W => labsM_any (p - p') W (by omega) (by omega))
            have HI1 : Hid (∀ n, Calls Try.prog 29 #[.slice (some ⟨ub, uoff, none⟩) i cu, .int .i64 j] ((w4.drewN q).drewN n) fun e w' => e = .returned (.bool false) ∧ (w4.drewN q).drewN n = w') := Lib.hid fun n => by
              have := lisInM_any ((w4.drewN q).drewN n) _ (U.take i) j (HRi.out.drewN n) (by rw [List.length_take]; omega)
              rwa [decide_eq_false hnm] at this
            replace a0 : (w4.drewN q).cell? ⟨ab, aoff + i * 3, none⟩ = some (.int .i64 d) := a0
            replace a1 : (w4.drewN q).cell? ⟨ab, aoff + i * 3 + 1, none⟩ = some (.int .i64 m) := a1
            replace a2 : (w4.drewN q).cell? ⟨ab, aoff + i * 3 + 2, none⟩ = some (.int .i64 p) := a2
            replace b0 : (w4.drewN q).cell? ⟨bb, boff + j * 3, none⟩ = some (.int .i64 d) := b0
            replace b1 : (w4.drewN q).cell? ⟨bb, boff + j * 3 + 1, none⟩ = some (.int .i64 m) := b1
            replace b2 : (w4.drewN q).cell? ⟨bb, boff + j * 3 + 2, none⟩ = some (.int .i64 p') := b2
            replace u0 : (w4.drewN q).cell? ⟨ub, uoff + i, none⟩ = some (.int .i64 j) := u0
            have HW : Hid (∀ n, ∃ q', (w4.drewN q).drewN n = w4.drewN q') := Lib.hid fun n => ⟨_, World.drewN_drewN ..⟩
            have W1 : IntKind.i64.wrap (p - p') = p - p' := IntWalk.i64_in _ (by omega)
            clear hsm hds hnm HRi
            generalize w4.drewN q = W at a0 a1 a2 b0 b1 b2 u0 HW HI1 ⊢
            go_wp2_with fail
            go_quiet ((first | (go_at_call 28; with_reducible exact quietP (HD1.out _)) | (go_at_call 29; with_reducible exact quietP (HI1.out _))))
            go_wp2_with fail
            go_roundw
            case rel => exact ⟨i + 1, hlt, by go_num, HW.out _⟩
            case measure => simp [intOf] <;> omega
        · obtain rfl : i = A.length := by omega
          go_wp2_with fail
          go_ret
          exact ⟨ret_bool (by simp), HB1.out.trans ((belowD HA4.out q).mono HB1.out.size)⟩
theorem Mn.opn_get {b : List Tri} {us : List Int} {n k : Nat} (h : k < (Mn.opn b us n).length) : ∃ j, j < n ∧ (j : Int) ∉ us ∧ (Mn.opn b us n).getD k t0 = b.getD j t0 := by
  unfold Mn.opn at *
  rw [List.length_map] at h
  have hm := List.getElem_mem h
  obtain ⟨h1, h2⟩ := Mn.left_mem.1 hm
  exact ⟨_, h1, h2, by rw [List.getD_eq_getElem?_getD, List.getElem?_map, List.getElem?_eq_getElem h]; rfl⟩
set_option maxRecDepth 8000 in
set_option maxHeartbeats 8000000 in
theorem lawMatchOpen (a : Option Addr) (len cap : Nat) (zs : List Int) (w : World) (h : IsRow .u8 w a len cap zs) :
    Calls Try.prog 6 #[.slice a len cap] w fun e w' => e = .returned (.bool true) ∧ Below w.heap.size w w' := by
  have H := Lib.hid h; clear h
  by_cases hl : 1048576 < (len : Int)
  · go_enter Try.func6, Try.ntmps6
    go_wp2_with fail
    go_ret
    exact ⟨rfl, Below.refl _ _⟩
  · have hl' := decide_eq_false hl
    clear hl
    go_enter Try.func6, Try.ntmps6
    go_wp2_with fail
    refine (drawMn_any _ _ _ _ _ H.out).mono ?_
    rintro e w1 ⟨va, vb, A, B, tol, rfl, hA, hB, la, lb, hIa, hIb, ⟨ht0, ht1⟩, hb1⟩
    have RA := Lib.hid hA
    have RB := Lib.hid hB
    have HB1 := Lib.hid hb1
    have IA := Lib.hid hIa
    have IB := Lib.hid hIb
    have MO := Lib.hid (fun W (hW : Below w1.heap.size w1 W) => matchE_any W va vb A B tol (RA.out.below hW (Nat.le_refl _)) (RB.out.below hW (Nat.le_refl _)) (by omega) (by omega))
    have SM := Lib.hid (fun W (hW : Below w1.heap.size w1 W) => smatchE_any W va vb A B tol (RA.out.below hW (Nat.le_refl _)) (RB.out.below hW (Nat.le_refl _)) (by omega) (by omega))
    have OP := Lib.hid (fun W (hW : Below w1.heap.size w1 W) => openE_any W va vb A B tol (RA.out.below hW (Nat.le_refl _)) (RB.out.below hW (Nat.le_refl _)) (by omega) (by omega))
    have SO := Lib.hid (fun W (hW : Below w1.heap.size w1 W) => sopenE_any W va vb A B tol (RA.out.below hW (Nat.le_refl _)) (RB.out.below hW (Nat.le_refl _)) (by omega) (by omega))
    have HF := Lib.hid (fun h => @Mn.mval_facts A B tol h)
    have hq := Mn.mval_len A B tol
    have hqo := Mn.oval_len A B tol
    have HOv := Lib.hid (show Mn.okB A B tol = true → Mn.oval A B tol = Mn.opn B (Mn.run B tol A) B.length from fun h => if_pos h)
    obtain ⟨⟨xa, ca, rfl⟩, -⟩ := hA
    obtain ⟨⟨xb, cb, rfl⟩, -⟩ := hB
    clear hb1 hIa hIb
    obtain ⟨U, hU⟩ : ∃ U, U = Mn.mval A B tol := ⟨_, rfl⟩
    obtain ⟨O, hO⟩ : ∃ O, O = Mn.oval A B tol := ⟨_, rfl⟩
    rw [← hU] at MO SM HF hq
    rw [← hO] at OP SO hqo HOv
    clear hU hO
    have HA0 := Lib.hid (Below.refl w1.heap.size w1)
    go_wp2_with fail
    refine (MO.out _ HA0.out).mono ?_
    rintro e w2 ⟨u, rfl, hu, hb2⟩
    obtain ⟨au, cu, rfl⟩ := hu.slice
    have HU2 := Lib.hid hu
    have HA2 := Lib.hid (HA0.out.trans (hb2.mono HA0.out.size))
    clear hu hb2
    go_wp2_with fail
    refine (OP.out _ HA2.out).mono ?_
    rintro e w3 ⟨u3, rfl, hu, hb3⟩
    obtain ⟨ao, co, rfl⟩ := hu.slM
    have HO3 := Lib.hid hu.r3.o
    have HA3 := Lib.hid (HA2.out.trans (hb3.mono HA2.out.size))
    have HU3 := Lib.hid (HU2.out.below hb3 (Nat.le_refl _))
    clear hu hb3
    go_wp2_with fail
    refine (SM.out _ HA3.out).mono ?_
    rintro e w4 ⟨u4, rfl, hu, hb4⟩
    have HV4 := Lib.hid hu.r1
    have HA4 := Lib.hid (HA3.out.trans (hb4.mono HA3.out.size))
    have HU4 := Lib.hid (HU3.out.below hb4 (Nat.le_refl _))
    have HO4 := Lib.hid (HO3.out.below hb4 (Nat.le_refl _))
    clear hu hb4
    go_wp2_with fail
    refine (equ_same _ _ _ _ HU4.out.r1 HV4.out (by omega)).mono ?_
    rintro e w5 ⟨rfl, hb5⟩
    have HA5 := Lib.hid (HA4.out.trans (hb5.mono HA4.out.size))
    have HU5 := Lib.hid (HU4.out.below hb5 (Nat.le_refl _))
    have HO5 := Lib.hid (HO4.out.below hb5 (Nat.le_refl _))
    clear hb5 HV4
    have HS : Hid (U.length ≠ 0 → U.length = A.length ∧ Mn.Says A B tol U ∧ (∀ i, i < A.length → Mn.one (A.getD i t0) = true) ∧ (∀ i, i < B.length → Mn.one (B.getD i t0) = true) ∧ ∀ k, k < O.length → ∃ j, j < B.length ∧ (j : Int) ∉ U ∧ O.getD k t0 = B.getD j t0) := Lib.hid fun h => by
      obtain ⟨hok, hUe, hUl⟩ := HF.out h
      obtain ⟨-, -, hoA, hoB, -⟩ := Mn.okB_ok hok
      refine ⟨hUl, hUe ▸ Mn.says A B tol, hoA, hoB, fun k hk => ?_⟩
      have ho := HOv.out hok
      rw [← hUe] at ho
      rw [ho] at hk ⊢
      exact Mn.opn_get hk
    clear HF HOv MO SM OP SO HA2 HU2 HA3 HU3 HU4
    go_wp2_with fail
    go_loopw [8] (fun x wl => ∃ i : Nat, i ≤ U.length ∧ x = .int .i64 i ∧ ∃ q, wl = w5.drewN q) (fun x _ => U.length - (intOf x).toNat)
    case atStart => exact ⟨0, Nat.zero_le _, rfl, 0, rfl⟩
    case round =>
      obtain ⟨i, hi, rfl, q, rfl⟩ := hrel
      by_cases hlt : i < U.length
      · obtain ⟨hUl, hSay, hoA, hoB, hoO⟩ := HS.out (by omega)
        have hi1 : (i : Int) < A.length := by omega
        have hi2 : (i : Int) < U.length := by omega
        have hi0 : (0 : Int) ≤ i := by omega
        have hSi := hSay i (by omega)
        have OB := Lib.hid hoB
        have OO := Lib.hid hoO
        obtain ⟨ub, uoff, c, e, hub, huc⟩ := HU5.out.r1.2 (by omega)
        simp only [Value.slice.injEq, true_and] at e
        obtain ⟨rfl, rfl⟩ := e
        have u0 := huc i hlt
        obtain ⟨ab, aoff, ac, e, hab, hac⟩ := RA.out.2 (by omega)
        simp only [Value.slice.injEq, true_and] at e
        obtain ⟨rfl, rfl⟩ := e
        obtain ⟨a0, a1, a2⟩ := hac i (by omega)
        have hw1 := HA5.out
        replace a0 := (hw1.cell (p := ⟨ab, aoff + i * 3, none⟩) hab).trans a0
        replace a1 := (hw1.cell (p := ⟨ab, aoff + i * 3 + 1, none⟩) hab).trans a1
        replace a2 := (hw1.cell (p := ⟨ab, aoff + i * 3 + 2, none⟩) hab).trans a2
        have oA := Mn.one_ok (hoA i (by omega))
        clear hac huc hw1 hoA hoB hoO hSay hUl
        generalize A.getD i t0 = t at a0 a1 a2 hSi oA
        obtain ⟨d, m, p⟩ := t
        simp only at a0 a1 a2 oA
        obtain ⟨oA0, oA1, oA2⟩ := oA
        rcases hSi with ⟨hk, hno⟩ | ⟨j, hj, hk, -⟩
        · have HNo := Lib.hid hno
          rw [hk] at u0
          clear hno hk
          go_wp2_with fail
          go_loopw [9] (fun y wl => ∃ k : Nat, k ≤ O.length ∧ y = .int .i64 k ∧ ∃ q, wl = w5.drewN q) (fun y _ => O.length - (intOf y).toNat)
          case atStart => exact ⟨0, Nat.zero_le _, rfl, q, rfl⟩
          case round =>
            obtain ⟨k, hk, rfl, q, rfl⟩ := hrel
            by_cases hlk : k < O.length
            · obtain ⟨j, hj, hju, hjo⟩ := OO.out k hlk
              obtain ⟨ob, ooff, oc, e, hob, hoc⟩ := HO5.out.2 (by omega)
              simp only [Value.slice.injEq, true_and] at e
              obtain ⟨rfl, rfl⟩ := e
              obtain ⟨b0, b1, b2⟩ := hoc k hlk
              rw [hjo] at b0 b1 b2
              have oB := Mn.one_ok (OB.out j hj)
              have hnj := HNo.out j hj
              generalize B.getD j t0 = t at b0 b1 b2 oB hnj
              obtain ⟨d', m', p'⟩ := t
              simp only at b0 b1 b2 oB
              obtain ⟨oB0, oB1, oB2⟩ := oB
              have hj0 : (0 : Int) ≤ k := by omega
              have hj1 : (k : Int) < O.length := by omega
              have HW : Hid (∀ n, ∃ q', (w5.drewN q).drewN n = w5.drewN q') := Lib.hid fun n => ⟨_, World.drewN_drewN ..⟩
              have HD1 := Lib.hid (fun W => labsM_any (p - p') W (by omega) (by omega))
              have W1 : IntKind.i64.wrap (p - p') = p - p' := IntWalk.i64_in _ (by omega)
              replace a0 : (w5.drewN q).cell? ⟨ab, aoff + i * 3, none⟩ = some (.int .i64 d) := a0
              replace a1 : (w5.drewN q).cell? ⟨ab, aoff + i * 3 + 1, none⟩ = some (.int .i64 m) := a1
              replace a2 : (w5.drewN q).cell? ⟨ab, aoff + i * 3 + 2, none⟩ = some (.int .i64 p) := a2
              replace b0 : (w5.drewN q).cell? ⟨ob, ooff + k * 3, none⟩ = some (.int .i64 d') := b0
              replace b1 : (w5.drewN q).cell? ⟨ob, ooff + k * 3 + 1, none⟩ = some (.int .i64 m') := b1
              replace b2 : (w5.drewN q).cell? ⟨ob, ooff + k * 3 + 2, none⟩ = some (.int .i64 p') := b2
              replace u0 : (w5.drewN q).cell? ⟨ub, uoff + i, none⟩ = some (.int .i64 (-1)) := u0
              clear hoc hjo
              generalize w5.drewN q = W at a0 a1 a2 b0 b1 b2 u0 HW ⊢
              by_cases c0 : d = d'
              case neg =>
                have e0 : (d == d') = false := by simpa using c0
                clear c0 hnj hju
                go_wp2_with fail
                go_quiet (fail)
                go_wp2_with fail
                go_roundw
                case rel => exact ⟨k + 1, hlk, by go_num, HW.out _⟩
                case measure => simp [intOf] <;> omega
              case pos =>
                subst c0
                have e0 : (d == d) = true := by simp
                by_cases c1 : m = m'
                case neg =>
                  have e1 : (m == m') = false := by simpa using c1
                  clear c1 hnj hju
                  go_wp2_with fail
                  go_quiet (fail)
                  go_wp2_with fail
                  go_roundw
                  case rel => exact ⟨k + 1, hlk, by go_num, HW.out _⟩
                  case measure => simp [intOf] <;> omega
                case pos =>
                  subst c1
                  have e1 : (m == m) = true := by simp
                  have e2 : decide (Mn.ab (p - p') ≤ tol) = false := decide_eq_false (Int.not_le.2 (hnj (by unfold Mn.same; simp) hju))
                  clear hnj hju
                  go_wp2_with fail
                  go_quiet ((go_at_call 28; with_reducible exact quietP (HD1.out _)))
                  go_wp2_with fail
                  go_roundw
                  case rel => exact ⟨k + 1, hlk, by go_num, HW.out _⟩
                  case measure => simp [intOf] <;> omega
            · obtain rfl : k = O.length := by omega
              go_wp2_with fail
              go_roundw
              case rel => exact ⟨i + 1, hlt, by go_num, q, rfl⟩
              case measure => simp [intOf] <;> omega
        · rw [hk] at u0
          clear hk
          have hj3 : decide ((j : Int) < 0) = false := by simp
          go_wp2_with fail
          go_loopw [9] (fun y wl => y = .int .i64 0 ∧ wl = w5.drewN q) (fun y _ => 0)
          case atStart => exact ⟨rfl, rfl⟩
          case round =>
            obtain ⟨rfl, rfl⟩ := hrel
            by_cases hz : O.length = 0
            · have hz1 : decide (0 < O.length) = false := by rw [hz]; rfl
              clear hz
              go_wp2_with fail
              go_roundw
              case rel => exact ⟨i + 1, hlt, by go_num, q, rfl⟩
              case measure => simp [intOf] <;> omega
            · have hz1 : decide (0 < O.length) = true := decide_eq_true (by omega)
              clear hz
              go_wp2_with fail
              go_roundw
              case rel => exact ⟨i + 1, hlt, by go_num, q, rfl⟩
              case measure => simp [intOf] <;> omega
      · obtain rfl : i = U.length := by omega
        go_wp2_with fail
        go_ret
        exact ⟨rfl, HB1.out.trans ((belowD HA5.out q).mono HB1.out.size)⟩
theorem Mn.num_le (l : List Int) : Mn.num l ≤ l.length := List.length_filter_le _ _
theorem Mn.opn_left (b : List Tri) (us : List Int) (n : Nat) : (Mn.opn b us n).length = (Mn.left us n).length := by unfold Mn.opn; rw [List.length_map]
set_option maxRecDepth 8000 in
set_option maxHeartbeats 8000000 in
theorem lawOpenNotes (a : Option Addr) (len cap : Nat) (zs : List Int) (w : World) (h : IsRow .u8 w a len cap zs) :
    Calls Try.prog 7 #[.slice a len cap] w fun e w' => e = .returned (.bool true) ∧ Below w.heap.size w w' := by
  have H := Lib.hid h; clear h
  by_cases hl : 1048576 < (len : Int)
  · go_enter Try.func7, Try.ntmps7
    go_wp2_with fail
    go_ret
    exact ⟨rfl, Below.refl _ _⟩
  · have hl' := decide_eq_false hl
    clear hl
    go_enter Try.func7, Try.ntmps7
    go_wp2_with fail
    refine (drawOn_any _ _ _ _ _ H.out).mono ?_
    rintro e w1 ⟨va, vb, A, B, tol, rfl, hA, hB, la, lb, hIa, hIb, ⟨ht0, ht1⟩, hb1⟩
    have RA := Lib.hid hA
    have RB := Lib.hid hB
    have HB1 := Lib.hid hb1
    have IA := Lib.hid hIa
    have IB := Lib.hid hIb
    have MO := Lib.hid (fun W (hW : Below w1.heap.size w1 W) => matchE_any W va vb A B tol (RA.out.below hW (Nat.le_refl _)) (RB.out.below hW (Nat.le_refl _)) (by omega) (by omega))
    have SM := Lib.hid (fun W (hW : Below w1.heap.size w1 W) => smatchE_any W va vb A B tol (RA.out.below hW (Nat.le_refl _)) (RB.out.below hW (Nat.le_refl _)) (by omega) (by omega))
    have OP := Lib.hid (fun W (hW : Below w1.heap.size w1 W) => openE_any W va vb A B tol (RA.out.below hW (Nat.le_refl _)) (RB.out.below hW (Nat.le_refl _)) (by omega) (by omega))
    have SO := Lib.hid (fun W (hW : Below w1.heap.size w1 W) => sopenE_any W va vb A B tol (RA.out.below hW (Nat.le_refl _)) (RB.out.below hW (Nat.le_refl _)) (by omega) (by omega))
    have HF := Lib.hid (fun h => @Mn.mval_facts A B tol h)
    have hq := Mn.mval_len A B tol
    have hqo := Mn.oval_len A B tol
    have HOv := Lib.hid (show Mn.okB A B tol = true → Mn.oval A B tol = Mn.opn B (Mn.run B tol A) B.length from fun h => if_pos h)
    obtain ⟨⟨xa, ca, rfl⟩, -⟩ := hA
    obtain ⟨⟨xb, cb, rfl⟩, -⟩ := hB
    clear hb1 hIa hIb
    obtain ⟨U, hU⟩ : ∃ U, U = Mn.mval A B tol := ⟨_, rfl⟩
    obtain ⟨O, hO⟩ : ∃ O, O = Mn.oval A B tol := ⟨_, rfl⟩
    rw [← hU] at MO SM HF hq
    rw [← hO] at OP SO hqo HOv
    clear hU hO
    have HA0 := Lib.hid (Below.refl w1.heap.size w1)
    go_wp2_with fail
    refine (OP.out _ HA0.out).mono ?_
    rintro e w2 ⟨u2, rfl, hu, hb2⟩
    obtain ⟨ao, co, rfl⟩ := hu.slM
    have HO2 := Lib.hid hu.r3.o
    have HA2 := Lib.hid (HA0.out.trans (hb2.mono HA0.out.size))
    clear hu hb2
    go_wp2_with fail
    refine (SO.out _ HA2.out).mono ?_
    rintro e w3 ⟨u3, rfl, hu, hb3⟩
    have HV3 := Lib.hid hu.r3.o
    have HA3 := Lib.hid (HA2.out.trans (hb3.mono HA2.out.size))
    have HO3 := Lib.hid (HO2.out.below hb3 (Nat.le_refl _))
    clear hu hb3
    go_wp2_with fail
    refine (eqNo_same _ _ _ _ HO3.out HV3.out (by omega)).mono ?_
    rintro e w4 ⟨rfl, hb4⟩
    have HA4 := Lib.hid (HA3.out.trans (hb4.mono HA3.out.size))
    clear hb4 HV3 HO3 HO2
    go_wp2_with fail
    refine (MO.out _ HA4.out).mono ?_
    rintro e w5 ⟨u, rfl, hu, hb5⟩
    obtain ⟨au, cu, rfl⟩ := hu.slice
    have HU5 := Lib.hid hu
    have HA5 := Lib.hid (HA4.out.trans (hb5.mono HA4.out.size))
    clear hu hb5
    go_wp2_with fail
    have HE : Hid (U.length ≠ 0 → Mn.num U + O.length = B.length) := Lib.hid fun h => by
      obtain ⟨hok, hUe, -⟩ := HF.out h
      rw [HOv.out hok, hUe, Mn.opn_left]
      exact Mn.all B tol A
    have HNl := Lib.hid (fun i => Nat.le_trans (Mn.num_le (U.take i)) (List.length_take_le' i U))
    clear HF HOv MO SM OP SO
    go_loop [8, 9] (fun n y => ∃ i : Nat, i ≤ U.length ∧ y = .int .i64 i ∧ n = .int .i64 (Mn.num (U.take i) : Nat)) (fun _ y => U.length - (intOf y).toNat)
    case atStart => exact ⟨0, Nat.zero_le _, rfl, rfl⟩
    case round =>
      obtain ⟨i, hi, rfl, rfl⟩ := hrel
      have hnl := HNl.out i
      by_cases hlt : i < U.length
      · obtain ⟨ub, uoff, c, e, hub, huc⟩ := HU5.out.r1.2 (by omega)
        simp only [Value.slice.injEq, true_and] at e
        obtain ⟨rfl, rfl⟩ := e
        have u0 := huc i hlt
        have hi1 : (i : Int) < U.length := by omega
        have hi0 : (0 : Int) ≤ i := by omega
        have HSn := Lib.hid (show Mn.num (U.take (i + 1)) = Mn.num (U.take i) + if 0 ≤ U.getD i 0 then 1 else 0 by rw [take_snoc1 hlt, Mn.num_snoc])
        clear huc
        generalize Mn.num (U.take i) = S at *
        generalize U.getD i 0 = x at u0 HSn
        by_cases hx : 0 ≤ x
        · have hx' := decide_eq_true hx
          have HS2 := Lib.hid (show Mn.num (U.take (i + 1)) = S + 1 by rw [HSn.out, if_pos hx])
          clear hx HSn
          go_wp2_with fail
          go_round
          case rel => exact ⟨i + 1, hlt, by go_num, by rw [HS2.out]; go_num⟩
          case measure => simp [intOf] <;> omega
        · have hx' := decide_eq_false hx
          have HS2 := Lib.hid (show Mn.num (U.take (i + 1)) = S by rw [HSn.out, if_neg hx]; rfl)
          clear hx HSn
          go_wp2_with fail
          go_round
          case rel => exact ⟨i + 1, hlt, by go_num, by rw [HS2.out]⟩
          case measure => simp [intOf] <;> omega
      · obtain rfl : i = U.length := by omega
        rw [List.take_length] at hnl ⊢
        by_cases hz : U.length = 0
        · have hz' : ((U.length : Int) == 0) = true := by rw [hz]; rfl
          clear hz
          go_wp2_with fail
          go_ret
          exact ⟨rfl, HB1.out.trans (HA5.out.mono HB1.out.size)⟩
        · have hz' : ((U.length : Int) == 0) = false := by simp only [beq_eq_false_iff_ne, ne_eq]; omega
          have hE := HE.out hz
          have hE' : (((Mn.num U : Nat) : Int) + (O.length : Int) == (B.length : Int)) = true := by
            rw [beq_iff_eq]; omega
          clear hz hE
          go_wp2_with fail
          go_ret
          exact ⟨rfl, HB1.out.trans (HA5.out.mono HB1.out.size)⟩
theorem Mn.okSelf {a b : List Tri} {tol : Int} (h : Mn.okB a b tol = true) : Mn.okB a a 0 = true := by
  unfold Mn.okB at *
  simp only [Bool.and_eq_true] at h ⊢
  exact ⟨h.1, h.1, by decide⟩
theorem Mn.self_all (a : List Tri) : (∀ x ∈ Mn.run a 0 a, 0 ≤ x) ∧ Mn.opn a (Mn.run a 0 a) a.length = [] := by
  have h := (Mn.self a a.length (Nat.le_refl _)).1
  rw [List.take_length] at h
  have h1 : ∀ x ∈ Mn.run a 0 a, 0 ≤ x := by
    intro x hx
    obtain ⟨i, hi, rfl⟩ := List.getElem_of_mem hx
    have := h i (by rw [Mn.run_len] at hi; exact hi)
    rwa [List.getD_eq_getElem?_getD, List.getElem?_eq_getElem hi] at this
  refine ⟨h1, List.eq_nil_of_length_eq_zero ?_⟩
  have hn : Mn.num (Mn.run a 0 a) = a.length := by
    unfold Mn.num
    rw [List.filter_eq_self.2 (fun x hx => decide_eq_true (h1 x hx)), Mn.run_len]
  have := Mn.all a 0 a
  rw [Mn.opn_left]
  omega
theorem Mn.mval_self {a b : List Tri} {tol : Int} (h : Mn.okB a b tol = true) : (-1 : Int) ∉ Mn.mval a a 0 := by
  rw [show Mn.mval a a 0 = Mn.run a 0 a from if_pos (Mn.okSelf h)]
  intro hm
  have := (Mn.self_all a).1 _ hm
  omega
theorem Mn.oval_self {a b : List Tri} {tol : Int} (h : Mn.okB a b tol = true) : Mn.oval a a 0 = [] := by
  rw [show Mn.oval a a 0 = Mn.opn a (Mn.run a 0 a) a.length from if_pos (Mn.okSelf h), (Mn.self_all a).2]
set_option maxRecDepth 8000 in
set_option maxHeartbeats 8000000 in
theorem lawMatchSelf (a : Option Addr) (len cap : Nat) (zs : List Int) (w : World) (h : IsRow .u8 w a len cap zs) :
    Calls Try.prog 8 #[.slice a len cap] w fun e w' => e = .returned (.bool true) ∧ Below w.heap.size w w' := by
  have H := Lib.hid h; clear h
  by_cases hl : 1048576 < (len : Int)
  · go_enter Try.func8, Try.ntmps8
    go_wp2_with fail
    go_ret
    exact ⟨rfl, Below.refl _ _⟩
  · have hl' := decide_eq_false hl
    clear hl
    go_enter Try.func8, Try.ntmps8
    go_wp2_with fail
    refine (drawMn_any _ _ _ _ _ H.out).mono ?_
    rintro e w1 ⟨va, vb, A, B, tol, rfl, hA, hB, la, lb, hIa, hIb, ⟨ht0, ht1⟩, hb1⟩
    have RA := Lib.hid hA
    have RB := Lib.hid hB
    have HB1 := Lib.hid hb1
    have IA := Lib.hid hIa
    have IB := Lib.hid hIb
    have MO := Lib.hid (fun W (hW : Below w1.heap.size w1 W) => matchE_any W va vb A B tol (RA.out.below hW (Nat.le_refl _)) (RB.out.below hW (Nat.le_refl _)) (by omega) (by omega))
    have SM := Lib.hid (fun W (hW : Below w1.heap.size w1 W) => smatchE_any W va vb A B tol (RA.out.below hW (Nat.le_refl _)) (RB.out.below hW (Nat.le_refl _)) (by omega) (by omega))
    have OP := Lib.hid (fun W (hW : Below w1.heap.size w1 W) => openE_any W va vb A B tol (RA.out.below hW (Nat.le_refl _)) (RB.out.below hW (Nat.le_refl _)) (by omega) (by omega))
    have SO := Lib.hid (fun W (hW : Below w1.heap.size w1 W) => sopenE_any W va vb A B tol (RA.out.below hW (Nat.le_refl _)) (RB.out.below hW (Nat.le_refl _)) (by omega) (by omega))
    have HF := Lib.hid (fun h => @Mn.mval_facts A B tol h)
    have hq := Mn.mval_len A B tol
    have hqo := Mn.oval_len A B tol
    have HOv := Lib.hid (show Mn.okB A B tol = true → Mn.oval A B tol = Mn.opn B (Mn.run B tol A) B.length from fun h => if_pos h)
    obtain ⟨⟨xa, ca, rfl⟩, -⟩ := hA
    obtain ⟨⟨xb, cb, rfl⟩, -⟩ := hB
    clear hb1 hIa hIb
    obtain ⟨U, hU⟩ : ∃ U, U = Mn.mval A B tol := ⟨_, rfl⟩
    obtain ⟨O, hO⟩ : ∃ O, O = Mn.oval A B tol := ⟨_, rfl⟩
    rw [← hU] at MO SM HF hq
    rw [← hO] at OP SO hqo HOv
    clear hU hO
    have HA0 := Lib.hid (Below.refl w1.heap.size w1)
    go_wp2_with fail
    refine (MO.out _ HA0.out).mono ?_
    rintro e w2 ⟨u, rfl, hu, hb2⟩
    obtain ⟨au, cu, rfl⟩ := hu.slice
    have HU2 := Lib.hid hu
    have HA2 := Lib.hid (HA0.out.trans (hb2.mono HA0.out.size))
    clear hu hb2
    go_wp2_with fail
    refine (SM.out _ HA2.out).mono ?_
    rintro e w3 ⟨u3, rfl, hu, hb3⟩
    have HV3 := Lib.hid hu.r1
    have HA3 := Lib.hid (HA2.out.trans (hb3.mono HA2.out.size))
    have HU3 := Lib.hid (HU2.out.below hb3 (Nat.le_refl _))
    clear hu hb3
    go_wp2_with fail
    refine (equ_same _ _ _ _ HU3.out.r1 HV3.out (by omega)).mono ?_
    rintro e w4 ⟨rfl, hb4⟩
    have HA4 := Lib.hid (HA3.out.trans (hb4.mono HA3.out.size))
    have HU4 := Lib.hid (HU3.out.below hb4 (Nat.le_refl _))
    clear hb4 HV3
    have OA := Lib.hid (fun W (hW : Below w1.heap.size w1 W) => openE_any W (.slice xa A.length ca) (.slice xa A.length ca) A A 0 (RA.out.below hW (Nat.le_refl _)) (RA.out.below hW (Nat.le_refl _)) (by omega) (by omega))
    have MA := Lib.hid (fun W (hW : Below w1.heap.size w1 W) => matchE_any W (.slice xa A.length ca) (.slice xa A.length ca) A A 0 (RA.out.below hW (Nat.le_refl _)) (RA.out.below hW (Nat.le_refl _)) (by omega) (by omega))
    by_cases hz : U.length = 0
    · have hz' : ((U.length : Int) == 0) = true := by rw [hz]; rfl
      clear hz
      go_wp2_with fail
      refine (SM.out _ HA4.out).mono ?_
      rintro e w5 ⟨u5, rfl, hu, hb5⟩
      have HV5 := Lib.hid hu.r1
      have HA5 := Lib.hid (HA4.out.trans (hb5.mono HA4.out.size))
      have HU5 := Lib.hid (HU4.out.below hb5 (Nat.le_refl _))
      clear hu hb5
      go_wp2_with fail
      refine (equ_same _ _ _ _ HU5.out.r1 HV5.out (by omega)).mono ?_
      rintro e w6 ⟨rfl, hb6⟩
      have HA6 := Lib.hid (HA5.out.trans (hb6.mono HA5.out.size))
      have HU6 := Lib.hid (HU5.out.below hb6 (Nat.le_refl _))
      clear hb6 HV5
      go_wp2_with fail
      go_ret
      exact ⟨rfl, HB1.out.trans (HA6.out.mono HB1.out.size)⟩
    · have hz' : ((U.length : Int) == 0) = false := by simp only [beq_eq_false_iff_ne, ne_eq]; omega
      obtain ⟨hok, hUe, hUl⟩ := HF.out hz
      have hv := Mn.mval_self hok
      have hl := Mn.mval_len A A 0
      rw [Mn.oval_self hok] at OA
      obtain ⟨V, hV⟩ : ∃ V, V = Mn.mval A A 0 := ⟨_, rfl⟩
      rw [← hV] at hv hl MA
      have HVv := Lib.hid hv
      clear hv hV hok hUe hUl MO SM OP SO HF HOv hz
      go_wp2_with fail
      refine (OA.out _ HA4.out).mono ?_
      rintro e w5 ⟨u5, rfl, hu, hb5⟩
      obtain ⟨ao, co, rfl⟩ := hu.slM
      have HA5 := Lib.hid (HA4.out.trans (hb5.mono HA4.out.size))
      clear hu hb5
      go_wp2_with fail
      refine (MA.out _ HA5.out).mono ?_
      rintro e w6 ⟨u6, rfl, hu, hb6⟩
      obtain ⟨av, cv, rfl⟩ := hu.slice
      have HV6 := Lib.hid hu.r1
      have HA6 := Lib.hid (HA5.out.trans (hb6.mono HA5.out.size))
      clear hu hb6
      go_wp2_with fail
      refine (lisInM_any _ _ V (-1) HV6.out (by omega)).mono ?_
      rw [decide_eq_false HVv.out]
      rintro e w7 ⟨rfl, rfl⟩
      go_wp2_with fail
      go_ret
      exact ⟨rfl, HB1.out.trans (HA6.out.mono HB1.out.size)⟩
end Go.Proofs.Ytmamnljgkkjkcaa
