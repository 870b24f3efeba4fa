/- The mean number of days to payments: both sides. -/
import Derived.Test.YtkdooncfchmkfaaDoorLf
import Derived.Deep.Cut
namespace Go.Proofs.YtkdooncfchmkfaaDoor
open Go.RowKit
set_option maxRecDepth 8000 in
set_option maxHeartbeats 2000000 in
theorem lifeOf_any (s e m r d : Int) (w : World) (hT : Tab w) :
    Calls Tryd.prog 19 #[boV s e m r, .int .i64 d] w fun x w' => x = .returned (.int .i64 (Lf.val s e m r d)) ∧ Below w.heap.size w w' := by
  have HT := Lib.hid (hT.alloc (.cells #[.int .i64 s, .int .i64 e, .int .i64 m, .int .i64 r] 27))
  have HB0 := Lib.hid ((Below.refl w.heap.size w).alloc (Nat.le_refl _) (.cells #[.int .i64 s, .int .i64 e, .int .i64 m, .int .i64 r] 27))
  have KB := Lib.hid (Blk.new w #[.int .i64 s, .int .i64 e, .int .i64 m, .int .i64 r] 27)
  clear hT
  cases hR : runB s e m r d with
  | false =>
    have HV := Lib.hid (Lf.no hR)
    have HPA := Lib.hid (fun W hW => periodAt_no s e m r d W hW hR)
    clear hR
    rw [HV.out]
    go_enter Tryd.func19, Tryd.ntmps19
    go_wp2_with fail
    refine (HPA.out _ HT.out).mono ?_
    rintro x w1 ⟨rfl, hb1⟩
    have HB1 := Lib.hid (HB0.out.trans (hb1.mono HB0.out.size))
    clear hb1
    go_wp2_with fail
    go_ret
    exact ⟨rfl, HB1.out.alloc HB1.out.size _⟩
  | true =>
    have ok := Lf.ok hR
    have HPA := Lib.hid (fun W hW => periodAt_yes s e m r d W hW hR)
    rw [(Pc.run hR).1] at HPA
    have HFA := Lib.hid (fun W hW => after_any s e m r d W hW)
    obtain ⟨V, hV⟩ : ∃ V, V = Lf.val s e m r d := ⟨_, rfl⟩
    have HV := Lib.hid (show V = Lf.mean (aftL (floL s e m r) d) d from hV.trans (Lf.yes hR))
    rw [← hV]
    clear hV hR
    unfold AftL at HFA
    generalize ((aftL (floL s e m r) d).getD 0 f0).1 = lo at ok
    generalize aftL (floL s e m r) d = fs at *
    generalize Pc.F s e m r d = f at *
    generalize Pc.T s e m r d = t at *
    generalize Pc.Z s e m r d = z at *
    have n1 := ok.n1
    have n40 := ok.n40
    have dd0 := ok.d0
    have hh := ok.hi1
    have HBd := Lib.hid (fun k (hk : k ≤ fs.length) => Lf.bd ok k hk)
    have HTm := Lib.hid (fun k (hk : k < fs.length) => Lf.term ok hk)
    have HEa := Lib.hid (fun k (hk : k < fs.length) => ok.each k hk)
    have hp := Lf.pos ok
    have HP := Lib.hid hp
    have HLs := Lib.hid (fun k => (show Lf.n fs d (k + 1) = Lf.n fs d k + (fs.getD k f0).2 * ((fs.getD k f0).1 - d) ∧ Lf.a fs (k + 1) = Lf.a fs k + (fs.getD k f0).2 from ⟨rfl, rfl⟩))
    clear hp ok
    go_enter Tryd.func19, Tryd.ntmps19
    go_wp2_with fail
    refine (HPA.out _ HT.out).mono ?_
    rintro x w1 ⟨rfl, hb1⟩
    have HB1 := Lib.hid ((HB0.out.trans (hb1.mono HB0.out.size)).alloc (HB0.out.trans (hb1.mono HB0.out.size)).size (.cells #[.int .i64 f, .int .i64 t, .bool z] 58))
    have KB1 := Lib.hid ((KB.out.below hb1 KB.out.lt).alloc (.cells #[.int .i64 f, .int .i64 t, .bool z] 58))
    have HT1 := Lib.hid ((HT.out.below hb1 HT.out.pos).alloc (.cells #[.int .i64 f, .int .i64 t, .bool z] 58))
    clear hb1
    go_upto_region 5 with fail
    generalize w1.alloc (.cells #[.int .i64 f, .int .i64 t, .bool z] 58) = w2 at HB1 KB1 HT1 ⊢
    obtain ⟨b0, b1, b2, b3⟩ := KB1.out.four
    go_wp2_with fail
    refine (HFA.out _ HT1.out).mono ?_
    rintro x w3 ⟨v, rfl, hF, -, hb3⟩
    obtain ⟨b, c, rfl, -, -, -, hc, -⟩ := hF.form (by omega)
    have HB3 := Lib.hid (HB1.out.trans (hb3.mono HB1.out.size))
    have HC := Lib.hid hc
    clear hF hc hb3 b0 b1 b2 b3 HFA HPA
    go_wp2_with fail
    go_loopw [7, 8, 23] (fun u v x wr => ∃ k : Nat, k ≤ fs.length ∧ x = .int .i64 k ∧ u = .int .i64 (Lf.n fs d k) ∧ v = .int .i64 (Lf.a fs k) ∧ Hid (Below w3.heap.size w3 wr)) (fun _ _ x _ => fs.length - (intOf x).toNat)
    case atStart => exact ⟨0, Nat.zero_le _, rfl, rfl, rfl, Lib.hid (Below.refl _ _)⟩
    case round =>
      obtain ⟨k, hk, rfl, rfl, rfl, HB⟩ := hrel
      obtain ⟨⟨p0, p1⟩, ⟨q0, q1⟩, -, -⟩ := HBd.out k hk
      by_cases hlt : k < fs.length
      · obtain ⟨c0, c1⟩ := HC.out k hlt
        replace c0 := (HB.out.cell (p := ⟨b, k * 2, none⟩) (World.block_lt_of_cell? w3 _ c0)).trans c0
        replace c1 := (HB.out.cell (p := ⟨b, k * 2 + 1, none⟩) (World.block_lt_of_cell? w3 _ c1)).trans c1
        obtain ⟨u0, u1⟩ := HTm.out k hlt
        obtain ⟨e0, e1, e2, e3, e4⟩ := HEa.out k hlt
        have HL1 := Lib.hid (HLs.out k)
        generalize fs.getD k f0 = y at *
        obtain ⟨tt, aa⟩ := y
        simp only at c0 c1 u0 u1 e0 e1 e2 e3 e4
        have HBa := Lib.hid (HB.out.alloc HB.out.size (.cells #[.int .i64 tt, .int .i64 aa] 39))
        have hk0 : (0 : Int) ≤ k := by omega
        have hk1 : (k : Int) < fs.length := by omega
        generalize Lf.n fs d k = N at *
        generalize Lf.a fs k = A at *
        have g1 : N + aa * (tt - d) ≤ 40000000000 := by omega
        have W1 : IntKind.i64.wrap (tt - d) = tt - d := IntWalk.i64_in _ (by omega)
        have W2 : IntKind.i64.wrap (aa * (tt - d)) = aa * (tt - d) := IntWalk.i64_in _ (by omega)
        have W3 : IntKind.i64.wrap (N + aa * (tt - d)) = N + aa * (tt - d) := IntWalk.i64_in _ (by omega)
        have W4 : IntKind.i64.wrap (A + aa) = A + aa := IntWalk.i64_in _ (by omega)
        go_wp2_with fail
        first | (go_quiet (fail); go_wp2_with fail) | skip
        go_roundw
        case rel => exact ⟨k + 1, by omega, by go_num, by rw [HL1.out.1], by rw [HL1.out.2], by first | exact HBa | exact Lib.hid (below_drewN HBa.out _)⟩
        case measure => simp [intOf]; omega
      · obtain rfl : k = fs.length := by omega
        have hp := HP.out
        have hz : (Lf.a fs fs.length == 0) = false := by simp; omega
        have HBr := Lib.hid (HB3.out.trans (HB.out.mono HB3.out.size))
        have HM := Lib.hid (show V = Lf.n fs d fs.length / Lf.a fs fs.length from HV.out)
        clear HV
        generalize Lf.n fs d fs.length = N at *
        generalize Lf.a fs fs.length = A at *
        go_wp2_with fail
        go_ret
        exact ⟨ret_int HM.out.symm, HBr.out⟩
set_option maxRecDepth 8000 in
set_option maxHeartbeats 2000000 in
theorem slifeSum_any (fs : List Flo) (d lo hi : Int) (w : World) (b c : Nat) (ok : Lf.Ok fs d lo hi) (hc : ∀ i, i < fs.length → w.cell? ⟨b, i * 2, none⟩ = some (.int .i64 (fs.getD i f0).1) ∧ w.cell? ⟨b, i * 2 + 1, none⟩ = some (.int .i64 (fs.getD i f0).2)) :
    Calls Tryd.prog 38 #[.slice (some ⟨b, 0, none⟩) fs.length c, .int .i64 d] w fun x w' => x = .returned (.tuple #[.int .i64 (Lf.n fs d fs.length), .int .i64 (Lf.a fs fs.length)]) ∧ Below w.heap.size w w' := by
  have n1 := ok.n1
  have n40 := ok.n40
  have dd0 := ok.d0
  have hh := ok.hi1
  have HBd := Lib.hid (fun k (hk : k ≤ fs.length) => Lf.bd ok k hk)
  have HTm := Lib.hid (fun k (hk : k < fs.length) => Lf.term ok hk)
  have HEa := Lib.hid (fun k (hk : k < fs.length) => ok.each k hk)
  have HLs := Lib.hid (fun k => (show Lf.n fs d (k + 1) = Lf.n fs d k + (fs.getD k f0).2 * ((fs.getD k f0).1 - d) ∧ Lf.a fs (k + 1) = Lf.a fs k + (fs.getD k f0).2 from ⟨rfl, rfl⟩))
  have HC := Lib.hid hc
  obtain ⟨N0, hN⟩ : ∃ x, x = Lf.n fs d fs.length := ⟨_, rfl⟩
  obtain ⟨A0, hA⟩ : ∃ x, x = Lf.a fs fs.length := ⟨_, rfl⟩
  rw [← hN, ← hA]
  have HNA := Lib.hid (And.intro hN hA)
  clear hc ok hN hA
  go_enter Tryd.func38, Tryd.ntmps38
  go_wp2_with fail
  go_loopw [6, 7, 8] (fun u v x wr => ∃ k : Nat, k ≤ fs.length ∧ x = .int .i64 k ∧ u = .int .i64 (Lf.n fs d k) ∧ v = .int .i64 (Lf.a fs k) ∧ Hid (Below w.heap.size w wr)) (fun _ _ x _ => fs.length - (intOf x).toNat)
  case atStart => exact ⟨0, Nat.zero_le _, rfl, rfl, rfl, Lib.hid (Below.refl _ _)⟩
  case round =>
    obtain ⟨k, hk, rfl, rfl, rfl, HB⟩ := hrel
    obtain ⟨⟨p0, p1⟩, ⟨q0, q1⟩, -, -⟩ := HBd.out k hk
    by_cases hlt : k < fs.length
    · obtain ⟨c0, c1⟩ := HC.out k hlt
      replace c0 := (HB.out.cell (p := ⟨b, k * 2, none⟩) (World.block_lt_of_cell? w _ c0)).trans c0
      replace c1 := (HB.out.cell (p := ⟨b, k * 2 + 1, none⟩) (World.block_lt_of_cell? w _ c1)).trans c1
      obtain ⟨u0, u1⟩ := HTm.out k hlt
      obtain ⟨e0, e1, e2, e3, e4⟩ := HEa.out k hlt
      have HL1 := Lib.hid (HLs.out k)
      generalize fs.getD k f0 = y at *
      obtain ⟨tt, aa⟩ := y
      simp only at c0 c1 u0 u1 e0 e1 e2 e3 e4
      have hk0 : (0 : Int) ≤ k := by omega
      have hk1 : (k : Int) < fs.length := by omega
      generalize Lf.n fs d k = N at *
      generalize Lf.a fs k = A at *
      have g1 : N + aa * (tt - d) ≤ 40000000000 := by omega
      have W1 : IntKind.i64.wrap (tt - d) = tt - d := IntWalk.i64_in _ (by omega)
      have W2 : IntKind.i64.wrap (aa * (tt - d)) = aa * (tt - d) := IntWalk.i64_in _ (by omega)
      have W3 : IntKind.i64.wrap (N + aa * (tt - d)) = N + aa * (tt - d) := IntWalk.i64_in _ (by omega)
      have W4 : IntKind.i64.wrap (A + aa) = A + aa := IntWalk.i64_in _ (by omega)
      go_wp2_with fail
      go_quiet (fail)
      go_wp2_with fail
      go_roundw
      case rel => exact ⟨k + 1, by omega, by go_num, by rw [HL1.out.1], by rw [HL1.out.2], Lib.hid (below_drewN HB.out _)⟩
      case measure => simp [intOf]; omega
    · obtain rfl : k = fs.length := by omega
      generalize Lf.n fs d fs.length = N at *
      generalize Lf.a fs fs.length = A at *
      go_wp2_with fail
      refine bodyPost_ret (v := .tuple #[.int .i64 N, .int .i64 A]) (by simp [results, Tryd.results38, go_sem]) rfl ⟨by rw [HNA.out.1, HNA.out.2], HB.out⟩
set_option maxRecDepth 8000 in
set_option maxHeartbeats 2000000 in
theorem sLifeOf_any (s e m r d : Int) (w : World) :
    Calls Tryd.prog 20 #[boV s e m r, .int .i64 d] w fun x w' => x = .returned (.int .i64 (Lf.val s e m r d)) ∧ Below w.heap.size w w' := by
  have HB0 := Lib.hid ((Below.refl w.heap.size w).alloc (Nat.le_refl _) (.cells #[.int .i64 s, .int .i64 e, .int .i64 m, .int .i64 r] 27))
  have KB := Lib.hid (Blk.new w #[.int .i64 s, .int .i64 e, .int .i64 m, .int .i64 r] 27)
  have HRu := Lib.hid (fun W => running_any s e m r d W)
  cases hR : runB s e m r d with
  | false =>
    have HV := Lib.hid (Lf.no hR)
    rw [hR] at HRu
    clear hR
    rw [HV.out]
    go_enter Tryd.func20, Tryd.ntmps20
    go_wp2_with fail
    refine (HRu.out _).mono ?_
    rintro x w1 ⟨rfl, hb1⟩
    have HB1 := Lib.hid (HB0.out.trans (hb1.mono HB0.out.size))
    clear hb1
    go_wp2_with fail
    go_ret
    exact ⟨rfl, HB1.out⟩
  | true =>
    rw [hR] at HRu
    have ok := Lf.ok hR
    have HFA := Lib.hid (fun W => sAfter_any s e m r d W)
    obtain ⟨V, hV⟩ : ∃ V, V = Lf.val s e m r d := ⟨_, rfl⟩
    have HV := Lib.hid (show V = Lf.mean (aftL (floL s e m r) d) d from hV.trans (Lf.yes hR))
    rw [← hV]
    clear hV hR
    unfold AftL at HFA
    generalize ((aftL (floL s e m r) d).getD 0 f0).1 = lo at ok
    generalize aftL (floL s e m r) d = fs at *
    have n1 := ok.n1
    have hp := Lf.pos ok
    obtain ⟨⟨p0, p1⟩, ⟨q0, q1⟩, -, -⟩ := Lf.bd ok fs.length (Nat.le_refl _)
    have n40 := ok.n40
    have HSu := Lib.hid (fun W b c hc => slifeSum_any fs d lo e W b c ok hc)
    have hz : (Lf.a fs fs.length == 0) = false := by simp; omega
    have HM := Lib.hid (show V = Lf.n fs d fs.length / Lf.a fs fs.length from HV.out)
    clear HV ok
    generalize Lf.n fs d fs.length = N at *
    generalize Lf.a fs fs.length = A at *
    go_enter Tryd.func20, Tryd.ntmps20
    go_wp2_with fail
    refine (HRu.out _).mono ?_
    rintro x w1 ⟨rfl, hb1⟩
    have HB1 := Lib.hid (HB0.out.trans (hb1.mono HB0.out.size))
    obtain ⟨b0, b1, b2, b3⟩ := (KB.out.below hb1 KB.out.lt).four
    clear hb1
    go_wp2_with fail
    refine (HFA.out _).mono ?_
    rintro x w3 ⟨v, rfl, hF, -, hb3⟩
    obtain ⟨b, c, rfl, -, -, -, hc, -⟩ := hF.form (by omega)
    have HB3 := Lib.hid (HB1.out.trans (hb3.mono HB1.out.size))
    have HC := Lib.hid hc
    clear hF hc hb3 b0 b1 b2 b3 HFA
    go_wp2_with fail
    refine (HSu.out _ b c HC.out).mono ?_
    rintro x w4 ⟨rfl, hb4⟩
    have HB4 := Lib.hid (HB3.out.trans (hb4.mono HB3.out.size))
    clear hb4
    go_wp2_with fail
    go_ret
    exact ⟨ret_int HM.out.symm, HB4.out⟩
end Go.Proofs.YtkdooncfchmkfaaDoor
