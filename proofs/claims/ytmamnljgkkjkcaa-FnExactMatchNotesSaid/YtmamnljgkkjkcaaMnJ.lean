/- Notes matched, in the model. -/
import Derived.Test.YtmamnljgkkjkcaaMnI
namespace Go.Proofs.Ytmamnljgkkjkcaa
open Go Go.RowKit
/-- One number appended; where the row then lies. -/
theorem wpList_pushJ (w : World) {ops : Array Oper} {rest : List Oper} {o : Oper} {a : Act} {Q : Exit → Act → World → Prop} (hgd : o.guard = none) (s x : Operand)
    (ho : o.op = .call { callee := .builtin .append, args := #[s, x], argTypes := #[44, 44] })
    (B : Nat) (v : Value) (xs : List Int) (hs : a.eval s = v) (hown : IRow w B v xs) (b c : Nat) (y : Int) (hx : a.eval x = .slice (some ⟨b, 0, none⟩) 1 c) (hcell : w.cell? ⟨b, 0, none⟩ = some (.int .i64 y))
    (hl : xs.length + 1 ≤ 1000000) (hB : B ≤ w.heap.size)
    (h : ∀ v' w', IRow w' B v' (xs ++ [y]) → w.grownBy w' v.ownBlock → (v'.ownBlock = v.ownBlock ∨ v'.ownBlock = some w.heap.size) → wpList Try.prog ops Q rest (a.put o.dst v') w') : wpList Try.prog ops Q (o :: rest) a w := by
  obtain ⟨i0, hi, hz0, hz1, hz2⟩ := info_parts infoInt
  refine wpList_append_own_at w hgd s x 44 ho B 3 i0 (.int .i64 0) 1 8 Try.underlying44 hi hz0 hz1 hz2 rfl (by decide) v xs.length _ hs hown ⟨b, 0, none⟩ 1 c [.int .i64 y] hx rfl ?_ (ints_oneCell .i64 [y]) (by unfold maxLen; omega) (by omega) hB ?_
  · intro j u hu
    cases j with
    | zero => simp at hu; subst hu; exact hcell
    | succ j => simp at hu
  · intro v' w' h1 h2 h3 h4
    refine h v' w' (by unfold IRow; simpa using h1) h2 h4
set_option maxRecDepth 8000 in
set_option maxHeartbeats 4000000 in
theorem pair_any (w : World) (va vb : Value) (a b : List Tri) (tol : Int) (ha : R3o w va a) (hb : R3o w vb b) (hok : Mn.okB a b tol = true) :
    Calls Try.prog 72 #[va, vb, .int .i64 tol] w fun e w' => ∃ v, e = .returned v ∧ IRow w' w.heap.size v (Mn.run b tol a) ∧ Below w.heap.size w w' := by
  obtain ⟨l0, l1, o0, o1, ht⟩ := Mn.okB_ok hok
  have HA := Lib.hid ha
  have HB := Lib.hid hb
  have OA := Lib.hid o0
  have OB := Lib.hid o1
  have HIn := Lib.hid (fun W v xs z h1 h2 => isIn_any W v xs z h1 h2)
  have HDs := Lib.hid (fun n W h0 h1 => distM_any n W h0 h1)
  obtain ⟨⟨xa, ca, rfl⟩, -⟩ := ha
  obtain ⟨⟨xb, cb, rfl⟩, -⟩ := hb
  clear hok o0 o1
  go_enter Try.func72, Try.ntmps72
  go_wp2_with fail
  have hI0 : IRow (w.alloc (.cells #[] 3)) w.heap.size (.slice (some ⟨w.heap.size, 0, none⟩) 0 0) [] := World.ownsRow_lit w #[] 0 (Nat.le_refl _) (Nat.zero_le _) (by simp)
  have HI0 := Lib.hid hI0
  have HB0 := Lib.hid ((Below.refl w.heap.size w).alloc (Nat.le_refl _) (.cells #[] 3))
  generalize w.alloc (.cells #[] 3) = w0 at *
  generalize (⟨w.heap.size, 0, none⟩ : Addr) = ad at *
  clear hI0
  go_loopw [7, 8] (fun o x wl => ∃ k : Nat, k ≤ a.length ∧ x = .int .i64 k ∧ Hid (IRow wl w.heap.size o (Mn.run b tol (a.take k))) ∧ Hid (Below w.heap.size w wl)) (fun _ x _ => a.length - (intOf x).toNat)
  case atStart => exact ⟨0, Nat.zero_le _, rfl, HI0, HB0⟩
  case round =>
    obtain ⟨k, hk, rfl, HO, HBl⟩ := hrel
    by_cases hlt : k < a.length
    · have hlen : (Mn.run b tol (a.take k)).length = k := by rw [Mn.run_len, List.length_take]; omega
      have hrs : Mn.run b tol (a.take (k + 1)) = Mn.run b tol (a.take k) ++ [Mn.at (a.getD k t0) b (Mn.run b tol (a.take k)) tol b.length] := by
        rw [List.take_add_one, List.getElem?_eq_getElem hlt, List.getD_eq_getElem?_getD, List.getElem?_eq_getElem hlt]
        exact Mn.run_snoc ..
      have HRs := Lib.hid hrs
      have HLn := Lib.hid hlen
      clear hrs hlen
      have hi0 : (0 : Int) ≤ k := by omega
      have hi1 : (k : Int) < a.length := by omega
      generalize Mn.run b tol (a.take k) = us at *
      have HT := Lib.hid (Mn.one_ok (OA.out k hlt))
      obtain ⟨t, hte⟩ : ∃ t, t = a.getD k t0 := ⟨_, rfl⟩
      rw [← hte] at HRs HT
      have HTe := Lib.hid hte
      clear hte
      obtain ⟨ao, co, rfl⟩ := HO.out.slice
      go_wp2_with fail
      go_loopw [9, 10] (fun at_ y wi => ∃ j : Nat, j ≤ b.length ∧ y = .int .i64 j ∧ at_ = .int .i64 (Mn.at t b us tol j) ∧ ∃ q, wi = wr.drewN q) (fun _ y _ => b.length - (intOf y).toNat)
      case atStart => exact ⟨0, Nat.zero_le _, rfl, rfl, 0, rfl⟩
      case round =>
        obtain ⟨j, hj, rfl, rfl, q, rfl⟩ := hrel
        by_cases hlj : j < b.length
        · have hw1 := HBl.out
          obtain ⟨ab, aoff, ac', e, hab, hac⟩ := HA.out.2 (by omega)
          simp only [Value.slice.injEq, true_and] at e
          obtain ⟨rfl, rfl⟩ := e
          obtain ⟨bb, boff, bc, e, hbb, hbc⟩ := HB.out.2 (by omega)
          simp only [Value.slice.injEq, true_and] at e
          obtain ⟨rfl, rfl⟩ := e
          obtain ⟨a0, a1, a2⟩ := hac k hlt
          obtain ⟨b0, b1, b2⟩ := hbc j hlj
          replace a0 := (hw1.cell (p := ⟨ab, aoff + k * 3, none⟩) hab).trans a0
          replace a1 := (hw1.cell (p := ⟨ab, aoff + k * 3 + 1, none⟩) hab).trans a1
          replace a2 := (hw1.cell (p := ⟨ab, aoff + k * 3 + 2, none⟩) hab).trans a2
          replace b0 := (hw1.cell (p := ⟨bb, boff + j * 3, none⟩) hbb).trans b0
          replace b1 := (hw1.cell (p := ⟨bb, boff + j * 3 + 1, none⟩) hbb).trans b1
          replace b2 := (hw1.cell (p := ⟨bb, boff + j * 3 + 2, none⟩) hbb).trans b2
          have hbc' := hbc
          clear hac hbc hw1
          rw [← HTe.out] at a0 a1 a2
          have HSt := Lib.hid (Mn.at_step t b us tol j)
          have HZ : Hid (Mn.at t b us tol j = -1 ∨ ∃ i : Nat, i < b.length ∧ Mn.at t b us tol j = i ∧ (1 ≤ (b.getD i t0).2.2 ∧ (b.getD i t0).2.2 ≤ 50000) ∧ (wr.drewN q).cell? ⟨bb, boff + i * 3 + 2, none⟩ = some (.int .i64 (b.getD i t0).2.2)) := by
            refine Lib.hid ?_
            rcases Mn.at_facts t b us tol j with ⟨h, -⟩ | ⟨i, hi, h, -⟩
            · exact .inl h
            · have hib : i < b.length := by omega
              exact .inr ⟨i, hib, h, (Mn.one_ok (OB.out i hib)).2.2, (HBl.out.cell (p := ⟨bb, boff + i * 3 + 2, none⟩) hbb).trans (hbc' i hib).2.2⟩
          obtain ⟨t0', t1', t2'⟩ := HT.out
          obtain ⟨u0, u1, u2⟩ := Mn.one_ok (OB.out j hlj)
          generalize b.getD j t0 = u at b0 b1 b2 u0 u1 u2 HSt
          have hj0 : (0 : Int) ≤ j := by omega
          have hj1 : (j : Int) < b.length := by omega
          generalize Mn.at t b us tol j = z at *
          obtain ⟨z', hz'⟩ : ∃ z', Mn.at t b us tol (j + 1) = z' := ⟨_, rfl⟩
          rw [hz'] at HSt
          have HZp := Lib.hid hz'
          clear hz'
          obtain ⟨d, m, p⟩ := t
          obtain ⟨d', m', p'⟩ := u
          simp only at a0 a1 a2 b0 b1 b2 t0' t1' t2' u0 u1 u2
          have W1 : IntKind.i64.wrap (p - p') = p - p' := IntWalk.i64_in _ (by omega)
          clear hbc'
          replace a0 : (wr.drewN q).cell? ⟨ab, aoff + k * 3, none⟩ = some (.int .i64 d) := a0
          replace a1 : (wr.drewN q).cell? ⟨ab, aoff + k * 3 + 1, none⟩ = some (.int .i64 m) := a1
          replace a2 : (wr.drewN q).cell? ⟨ab, aoff + k * 3 + 2, none⟩ = some (.int .i64 p) := a2
          replace b0 : (wr.drewN q).cell? ⟨bb, boff + j * 3, none⟩ = some (.int .i64 d') := b0
          replace b1 : (wr.drewN q).cell? ⟨bb, boff + j * 3 + 1, none⟩ = some (.int .i64 m') := b1
          replace b2 : (wr.drewN q).cell? ⟨bb, boff + j * 3 + 2, none⟩ = some (.int .i64 p') := b2
          have HW : Hid (∀ n, ∃ q', (wr.drewN q).drewN n = wr.drewN q') := Lib.hid fun n => ⟨_, World.drewN_drewN ..⟩
          have HU : Hid (R1o (wr.drewN q) (.slice ao us.length co) us) := Lib.hid ((HO.out.drewN q).r1)
          have HUl : Hid (us.length ≤ 100) := Lib.hid (by have := HLn.out; omega)
          generalize wr.drewN q = W at a0 a1 a2 b0 b1 b2 HW HU HZ ⊢
          by_cases c0 : d = d'
          case neg =>
            have e0 : (d == d') = false := by simpa using c0
            have HE : Hid (z' = z) := Lib.hid (by rw [HSt.out, if_neg (by rintro ⟨⟨g, -⟩, -⟩; unfold Mn.same at g; simp only [e0, Bool.false_and] at g; cases g)])
            clear c0
            go_wp2_with fail
            go_quiet (fail)
            go_wp2_with fail
            go_quiet (fail)
            go_wp2_with fail
            go_roundw
            case rel => exact ⟨j + 1, hlj, by go_num, by rw [HZp.out, HE.out], HW.out _⟩
            case measure => simp [intOf] <;> omega
          case pos =>
            subst c0
            have e0 : (d == d) = true := by simp
            by_cases c1 : m = m'
            case neg =>
              have e1 : (m == m') = false := by simpa using c1
              have HE : Hid (z' = z) := Lib.hid (by rw [HSt.out, if_neg (by rintro ⟨⟨g, -⟩, -⟩; unfold Mn.same at g; simp only [e1, Bool.and_false] at g; cases g)])
              clear c1
              go_wp2_with fail
              go_quiet (fail)
              go_wp2_with fail
              go_quiet (fail)
              go_wp2_with fail
              go_roundw
              case rel => exact ⟨j + 1, hlj, by go_num, by rw [HZp.out, HE.out], HW.out _⟩
              case measure => simp [intOf] <;> omega
            case pos =>
              subst c1
              have e1 : (m == m) = true := by simp
              have HD1 := Lib.hid (fun W => HDs.out (p - p') W (by omega) (by omega))
              have hDs : Mn.ds (d, m, p) (d, m, p') = Mn.ab (p - p') := rfl
              have HDe := Lib.hid hDs
              clear hDs
              by_cases c2 : Mn.ab (p - p') ≤ tol
              case neg =>
                have e2 : decide (Mn.ab (p - p') ≤ tol) = false := decide_eq_false c2
                have HE : Hid (z' = z) := Lib.hid (by rw [HSt.out, if_neg (by rintro ⟨⟨-, g⟩, -⟩; exact c2 (HDe.out ▸ g))])
                clear c2
                go_wp2_with fail
                go_quiet ((go_at_call 56; with_reducible exact quietP (HD1.out _)))
                go_wp2_with fail
                go_quiet (fail)
                go_wp2_with fail
                go_roundw
                case rel => exact ⟨j + 1, hlj, by go_num, by rw [HZp.out, HE.out], HW.out _⟩
                case measure => simp [intOf] <;> omega
              case pos =>
                have e2 : decide (Mn.ab (p - p') ≤ tol) = true := decide_eq_true c2
                by_cases c3 : (j : Int) ∈ us
                case pos =>
                  have HE : Hid (z' = z) := Lib.hid (by rw [HSt.out, if_neg (by rintro ⟨-, g, -⟩; exact g c3)])
                  have HI1 : Hid (∀ m n, Calls Try.prog 74 #[.slice ao us.length co, .int .i64 j] ((W.drewN m).drewN n) fun e w' => e = .returned (.bool true) ∧ (W.drewN m).drewN n = w') := Lib.hid fun m n => by
                    have := HIn.out ((W.drewN m).drewN n) _ us j ((HU.out.drewN m).drewN n) HUl.out
                    rwa [decide_eq_true c3] at this
                  clear c2 c3
                  go_wp2_with fail
                  go_quiet ((go_at_call 56; with_reducible exact quietP (HD1.out _)))
                  go_wp2_with fail
                  have HI2 := Lib.hid (HI1.out nq)
                  have HW2 : Hid (∀ n, ∃ q', (W.drewN nq).drewN n = wr.drewN q') := Lib.hid fun n => by rw [World.drewN_drewN]; exact HW.out _
                  generalize W.drewN nq = X at HI2 HW2 ⊢
                  go_quiet ((go_at_call 74; with_reducible exact quietP (HI2.out _)))
                  go_wp2_with fail
                  go_roundw
                  case rel => exact ⟨j + 1, hlj, by go_num, by rw [HZp.out, HE.out], HW2.out _⟩
                  case measure => simp [intOf] <;> omega
                case neg =>
                  have HI1 : Hid (∀ m n, Calls Try.prog 74 #[.slice ao us.length co, .int .i64 j] ((W.drewN m).drewN n) fun e w' => e = .returned (.bool false) ∧ (W.drewN m).drewN n = w') := Lib.hid fun m n => by
                    have := HIn.out ((W.drewN m).drewN n) _ us j ((HU.out.drewN m).drewN n) HUl.out
                    rwa [decide_eq_false c3] at this
                  have hsm : Mn.same (d, m, p) (d, m, p') = true := by unfold Mn.same; simp
                  rcases HZ.out with hz | ⟨i, hi, hz, hpz, bz⟩
                  case inl =>
                    have HE : Hid (z' = (j : Int)) := Lib.hid (by rw [HSt.out, if_pos ⟨⟨hsm, HDe.out ▸ c2⟩, c3, .inl (by omega)⟩])
                    subst hz
                    clear c2 c3 hsm
                    go_wp2_with fail
                    go_quiet ((go_at_call 56; with_reducible exact quietP (HD1.out _)))
                    go_wp2_with fail
                    have HI2 := Lib.hid (HI1.out nq)
                    have HW2 : Hid (∀ n, ∃ q', (W.drewN nq).drewN n = wr.drewN q') := Lib.hid fun n => by rw [World.drewN_drewN]; exact HW.out _
                    generalize W.drewN nq = X at HI2 HW2 ⊢
                    go_quiet ((go_at_call 74; with_reducible exact quietP (HI2.out _)))
                    go_wp2_with fail
                    go_roundw
                    case rel => exact ⟨j + 1, hlj, by go_num, by rw [HZp.out, HE.out], HW2.out _⟩
                    case measure => simp [intOf] <;> omega
                  case inr =>
                    have hzt : z.toNat = i := by omega
                    have HS2 := HSt.out
                    rw [hzt] at HS2
                    clear hzt HSt
                    have hd2 : Mn.ds (d, m, p) (b.getD i t0) = Mn.ab (p - (b.getD i t0).2.2) := rfl
                    generalize (b.getD i t0).2.2 = pz at hpz bz hd2
                    rw [hd2, HDe.out] at HS2
                    clear hd2
                    have HD2 := Lib.hid (fun W => HDs.out (p - pz) W (by omega) (by omega))
                    have W2 : IntKind.i64.wrap (p - pz) = p - pz := IntWalk.i64_in _ (by omega)
                    have hi2 : (0 : Int) ≤ i := by omega
                    have hi3 : (i : Int) < b.length := by omega
                    have hi4 : decide ((i : Int) < 0) = false := by simp
                    subst hz
                    by_cases c4 : Mn.ab (p - p') < Mn.ab (p - pz)
                    case pos =>
                      have HE : Hid (z' = (j : Int)) := Lib.hid (by rw [HS2, if_pos ⟨⟨hsm, c2⟩, c3, .inr c4⟩])
                      have e4 : decide (Mn.ab (p - p') < Mn.ab (p - pz)) = true := decide_eq_true c4
                      clear c2 c3 c4 hsm HS2
                      go_wp2_with fail
                      go_quiet ((go_at_call 56; with_reducible exact quietP (HD1.out _)))
                      go_wp2_with fail
                      replace a2 : (W.drewN nq).cell? ⟨ab, aoff + k * 3 + 2, none⟩ = some (.int .i64 p) := a2
                      replace b2 : (W.drewN nq).cell? ⟨bb, boff + j * 3 + 2, none⟩ = some (.int .i64 p') := b2
                      replace bz : (W.drewN nq).cell? ⟨bb, boff + i * 3 + 2, none⟩ = some (.int .i64 pz) := bz
                      have HI2 := Lib.hid (HI1.out nq)
                      have HW2 : Hid (∀ n, ∃ q', (W.drewN nq).drewN n = wr.drewN q') := Lib.hid fun n => by rw [World.drewN_drewN]; exact HW.out _
                      generalize W.drewN nq = X at a2 b2 bz HI2 HW2 ⊢
                      go_quiet ((first | (go_at_call 74; with_reducible exact quietP (HI2.out _)) | (go_at_call 56; first | with_reducible exact quietP (HD1.out _) | with_reducible exact quietP (HD2.out _))))
                      go_wp2_with fail
                      go_roundw
                      case rel => exact ⟨j + 1, hlj, by go_num, by rw [HZp.out, HE.out], HW2.out _⟩
                      case measure => simp [intOf] <;> omega
                    case neg =>
                      have HE : Hid (z' = (i : Int)) := Lib.hid (by rw [HS2, if_neg (by rintro ⟨-, -, g⟩; rcases g with g | g; omega; exact c4 g)])
                      have e4 : decide (Mn.ab (p - p') < Mn.ab (p - pz)) = false := decide_eq_false c4
                      clear c2 c3 c4 hsm HS2
                      go_wp2_with fail
                      go_quiet ((go_at_call 56; with_reducible exact quietP (HD1.out _)))
                      go_wp2_with fail
                      replace a2 : (W.drewN nq).cell? ⟨ab, aoff + k * 3 + 2, none⟩ = some (.int .i64 p) := a2
                      replace b2 : (W.drewN nq).cell? ⟨bb, boff + j * 3 + 2, none⟩ = some (.int .i64 p') := b2
                      replace bz : (W.drewN nq).cell? ⟨bb, boff + i * 3 + 2, none⟩ = some (.int .i64 pz) := bz
                      have HI2 := Lib.hid (HI1.out nq)
                      have HW2 : Hid (∀ n, ∃ q', (W.drewN nq).drewN n = wr.drewN q') := Lib.hid fun n => by rw [World.drewN_drewN]; exact HW.out _
                      generalize W.drewN nq = X at a2 b2 bz HI2 HW2 ⊢
                      go_quiet ((first | (go_at_call 74; with_reducible exact quietP (HI2.out _)) | (go_at_call 56; first | with_reducible exact quietP (HD1.out _) | with_reducible exact quietP (HD2.out _))))
                      go_wp2_with fail
                      go_roundw
                      case rel => exact ⟨j + 1, hlj, by go_num, by rw [HZp.out, HE.out], HW2.out _⟩
                      case measure => simp [intOf] <;> omega
        · obtain rfl : j = b.length := by omega
          have hI := HO.out.drewN q
          have hB := belowD HBl.out q
          generalize wr.drewN q = W at *
          generalize Mn.at t b us tol b.length = z at *
          have HIa := Lib.hid (hI.alloc (.cells #[.int .i64 z] 3))
          have HBa := Lib.hid (hB.alloc hB.size (.cells #[.int .i64 z] 3))
          have HIw := Lib.hid hI
          have HBw := Lib.hid hB
          have HLk := Lib.hid (show us.length + 1 ≤ 1000000 by have := HLn.out; omega)
          have HCe := Lib.hid (show (W.alloc (.cells #[.int .i64 z] 3)).cell? ⟨W.heap.size, 0, none⟩ = some (.int .i64 z) from (Blk.new W #[.int .i64 z] 3).one0)
          clear hI hB
          go_wp2_with (at_builtin; refine wpList_pushJ _ rfl _ _ rfl w.heap.size _ us rfl HIa.out W.heap.size _ z rfl HCe.out HLk.out HBa.out.size ?_; intro v5 w5 hown5 hg5 hv5)
          go_roundw
          case rel => exact ⟨k + 1, hlt, by go_num, by rw [HRs.out]; exact Lib.hid hown5, Lib.hid (belowG HBa.out hg5 (fun i hi => (World.ownsRow.lt HIa.out i hi).1))⟩
          case measure => simp [intOf] <;> omega
    · obtain rfl : k = a.length := by omega
      go_wp2_with fail
      go_ret
      have h9 := HO.out
      rw [List.take_length] at h9
      exact ⟨_, rfl, h9, HBl.out⟩
end Go.Proofs.Ytmamnljgkkjkcaa
