/- Netting: the model. -/
import Derived.Test.YtmamnljgkkjkcaaNpE
import Derived.Test.YtmamnljgkkjkcaaPtE
import Derived.Deep.RegionHeldLaw
namespace Go.Proofs.Ytmamnljgkkjkcaa
open Go.RowKit
theorem Np.c_bi {f t u s g : Int} : Np.c (f, t, u) s g = u * (bi ((f == s) && (t == g)) - bi ((f == g) && (t == s))) := by
  unfold Np.c bi
  by_cases h1 : f = s <;> by_cases h2 : t = g <;> by_cases h3 : f = g <;> by_cases h4 : t = s <;> simp [h1, h2, h3, h4]
set_option maxRecDepth 8000 in
set_option maxHeartbeats 4000000 in
theorem snetted_any (w : World) (v : Value) (ps : List Tri) (hv : R3o w v ps) (hok : Ps.ok ps = true) :
    Calls Try.prog 64 #[v] w fun e w' => ∃ u, e = .returned u ∧ TRow 40 w' w.heap.size u (Np.net (Np.d ps)) ∧ Below w.heap.size w w' := by
  have HP := Lib.hid (Ps.parts hok)
  have HBd := Lib.hid (fun x y i hi => Np.d_bd hok x y i hi)
  have hlen := HP.out.1
  have HDt := Lib.hid (fun k (hk : k < ps.length) a b => Np.d_take hk a b)
  clear hok
  obtain ⟨⟨a, cap, rfl⟩, h1⟩ := hv
  have H := Lib.hid h1; clear h1
  go_enter Try.func64, Try.ntmps64
  go_wp2_with fail
  go_loopw [3, 4] (fun o x wr => ∃ s : Nat, s ≤ 6 ∧ x = .int .i64 s ∧ o ≠ .slice none 0 0 ∧ Hid (TRow 40 wr w.heap.size o (Np.all (Np.d ps) s)) ∧ Hid (Below w.heap.size w wr)) (fun _ x _ => 6 - (intOf x).toNat)
  case atStart => exact ⟨0, by omega, rfl, by simp, Lib.hid (TRow.new 40 w), Lib.hid ((Below.refl w.heap.size w).alloc (Nat.le_refl _) (.cells #[] 40))⟩
  case round =>
    obtain ⟨s, hs, rfl, hne, HT, HB⟩ := hrel
    by_cases hlt : s < 6
    · have hd0 := decide_eq_true (show (s : Int) ≤ 5 by omega)
      go_wp2_with fail
      go_loopw [3, 5] (fun o x wr' => ∃ m : Nat, s + m ≤ 5 ∧ x = .int .i64 (s + 1 + m) ∧ o ≠ .slice none 0 0 ∧ Hid (TRow 40 wr' w.heap.size o (Np.all (Np.d ps) s ++ Np.row (Np.d ps) s m)) ∧ Hid (Below w.heap.size w wr')) (fun _ x _ => 7 - (intOf x).toNat)
      case atStart => exact ⟨0, by omega, by simp, hne, by simpa [Np.row] using HT, HB⟩
      case round =>
        obtain ⟨m, hm5, rfl, hne2, HT2, HB2⟩ := hrel
        clear hne HT HB
        by_cases hlt2 : s + m < 5
        · have hd1 := decide_eq_true (show (s + 1 + m : Int) ≤ 5 by omega)
          obtain ⟨g, hg⟩ : ∃ g : Int, g = s + 1 + m := ⟨_, rfl⟩
          rw [← hg] at hd1 ⊢
          have hsg : (s : Int) < g := by omega
          have HRow := Lib.hid (Np.row_step (Np.d ps) s m)
          rw [← hg] at HRow
          have hln := Np.row_len (Np.d ps) s m
          have hla := Np.all_len (Np.d ps) s (by omega)
          have HL := Lib.hid (show (Np.all (Np.d ps) s ++ Np.row (Np.d ps) s m).length + 1 ≤ 1000000 by rw [List.length_append]; omega)
          clear hln hla
          obtain ⟨R, hR⟩ : ∃ R, R = Np.all (Np.d ps) s ++ Np.row (Np.d ps) s m := ⟨_, rfl⟩
          rw [← hR] at HT2 HL
          have HR := Lib.hid hR.symm
          have HG := Lib.hid hg
          clear hR hg
          go_wp2_with fail
          go_loopw [6, 7] (fun n x wr' => ∃ k q : Nat, k ≤ ps.length ∧ x = .int .i64 k ∧ n = .int .i64 (Np.d (ps.take k) s g) ∧ wr' = wr.drewN q) (fun _ x _ => ps.length - (intOf x).toNat)
          case atStart => exact ⟨0, 0, Nat.zero_le _, rfl, by simp [Np.d], rfl⟩
          case round =>
            obtain ⟨k, q, hk, rfl, rfl, rfl⟩ := hrel
            have HW := Lib.hid (fun n => World.drewN_drewN wr q n)
            have HB3 := Lib.hid (belowN HB2.out q)
            generalize hWq : wr.drewN q = W at HW HB3 ⊢
            have HWq := Lib.hid hWq
            clear hWq
            by_cases hlt3 : k < ps.length
            · obtain ⟨b, off, c, e, hbb, hc⟩ := H.out (by omega)
              simp only [Value.slice.injEq, true_and] at e
              obtain ⟨rfl, rfl⟩ := e
              obtain ⟨c0, c1, c2⟩ := hc k hlt3
              replace c0 := (HB3.out.cell (p := ⟨b, off + k * 3, none⟩) hbb).trans c0
              replace c1 := (HB3.out.cell (p := ⟨b, off + k * 3 + 1, none⟩) hbb).trans c1
              replace c2 := (HB3.out.cell (p := ⟨b, off + k * 3 + 2, none⟩) hbb).trans c2
              clear hc
              obtain ⟨-, -, -, u0, u1⟩ := HP.out.2 k hlt3
              obtain ⟨s0, s1⟩ := HBd.out s g k (by omega)
              have HD := Lib.hid (HDt.out k hlt3 s g)
              generalize ps.getD k t0 = p at c0 c1 c2 u0 u1 HD
              obtain ⟨f, t, u⟩ := p
              simp only at c0 c1 c2 u0 u1
              have ho := Np.c_bd (p := (f, t, u)) ⟨u0, u1⟩ s g
              rw [Np.c_bi] at ho HD
              have h4 : ¬ ((f == (s : Int)) = true ∧ (f == g) = true) := fun h => by
                have e1 := of_decide_eq_true (show decide (f = (s : Int)) = true from by simpa using h.1)
                have e2 := of_decide_eq_true (show decide (f = g) = true from by simpa using h.2)
                omega
              obtain ⟨o0, o1⟩ := ho
              obtain ⟨p0, p1⟩ := bi_bd ((f == (s : Int)) && (t == g))
              obtain ⟨q0, q1⟩ := bi_bd ((f == g) && (t == (s : Int)))
              have HT1 := Lib.hid (toIntB_any ((f == (s : Int)) && (t == g)))
              have HT3 := Lib.hid (toIntB_any ((f == g) && (t == (s : Int))))
              have HE := Lib.hid (show (f == (s : Int)) = false → (f == g) = false → bi ((f == (s : Int)) && (t == g)) = bi ((f == g) && (t == (s : Int))) from fun a b => by rw [a, b]; rfl)
              generalize bi ((f == (s : Int)) && (t == g)) = x1 at *
              generalize bi ((f == g) && (t == (s : Int))) = x2 at *
              obtain ⟨S, hS⟩ : ∃ S, S = Np.d (ps.take k) s g := ⟨_, rfl⟩
              rw [← hS] at s0 s1 HD ⊢
              clear hS
              have W1 : IntKind.i64.wrap (u * (x1 - x2)) = u * (x1 - x2) := IntWalk.i64_in _ (by omega)
              have W2 : IntKind.i64.wrap (S + u * (x1 - x2)) = S + u * (x1 - x2) := IntWalk.i64_in _ (by omega)
              cases z1 : (f == (s : Int)) <;> cases z2 : (f == g)
              case true.true => exact absurd ⟨z1, z2⟩ h4
              all_goals
                rw [z1] at HT1
                rw [z2] at HT3
                simp only [Bool.true_and, Bool.false_and] at HT1 HT3
                clear h4
                go_wp2_with fail
                go_quiet ((first | (go_at_call 90; with_reducible exact quietP (HT1.out _)) | (go_at_call 90; with_reducible exact quietP (HT3.out _))))
                go_wp2_with fail
                go_roundw
                case rel => exact ⟨k + 1, _, by omega, by go_num, by first | (rw [HD.out]; done) | (rw [HD.out, HE.out z1 z2]; simp), HW.out _⟩
                case measure => simp [intOf]; omega
            · obtain rfl : k = ps.length := by omega
              have HTW := Lib.hid (show TRow 40 W w.heap.size u3 R by rw [← HWq.out]; exact HT2.out.drewN q)
              have HB4 := HB3
              have hbd := HBd.out s g ps.length (Nat.le_refl _)
              rw [List.take_of_length_le (Nat.le_refl _)] at hbd ⊢
              obtain ⟨n0, n1⟩ := hbd
              clear HW HB3 HWq HB2 HT2
              have HG2 := Lib.hid (show s + m + 1 ≤ 5 from hlt2)
              obtain ⟨hgl0, hgl1⟩ : 0 ≤ g ∧ g ≤ 5 := by have := HG.out; omega
              obtain ⟨N, hN⟩ : ∃ N, N = Np.d ps s g := ⟨_, rfl⟩
              rw [← hN] at n0 n1 HRow ⊢
              have HN := Lib.hid hN
              clear hN
              by_cases hpos : 0 < N
              · have hd2 := decide_eq_true hpos
                have hd3 := decide_eq_false (show ¬ N < 0 by omega)
                have HRw := Lib.hid (show Np.row (Np.d ps) s (m + 1) = Np.row (Np.d ps) s m ++ [((s : Int), g, N)] by rw [HRow.out, Np.post, if_pos hpos])
                clear hpos
                have HA2 := Lib.hid (HB4.out.alloc HB4.out.size (.cells #[.int .i64 (s : Int), .int .i64 g, .int .i64 N] 40))
                have HRR := Lib.hid (HTW.out.alloc (.cells #[.int .i64 (s : Int), .int .i64 g, .int .i64 N] 40))
                have HNC := Lib.hid (newPost_cells W ((s : Int), g, N))
                have HLo := Lib.hid (HRR.out.lt)
                go_wp2_with (at_builtin; refine wpList_pushPost _ rfl _ _ rfl w.heap.size _ R rfl HRR.out W.heap.size _ ((s : Int), g, N) rfl HNC.out HL.out HA2.out.size ?_; intro v5 w5 hown5 hne5 hg5 hv5)
                have HT6 := Lib.hid (show TRow 40 w5 w.heap.size v5 (Np.all (Np.d ps) s ++ Np.row (Np.d ps) s (m + 1)) by rw [HRw.out, ← List.append_assoc, HR.out]; exact hown5)
                have HB6 := Lib.hid (HA2.out.grown hg5 HA2.out.size (fun j hj => (HLo.out j hj).1))
                clear hown5 hg5 hv5
                try go_wp2_with fail
                go_roundw
                case rel => exact ⟨m + 1, by omega, by have hgE := HG.out; go_num, hne5, HT6, HB6⟩
                case measure => have := HG.out; simp [intOf]; omega
              · by_cases hneg : N < 0
                · have hd2 := decide_eq_false hpos
                  have hd3 := decide_eq_true hneg
                  have HRw := Lib.hid (show Np.row (Np.d ps) s (m + 1) = Np.row (Np.d ps) s m ++ [(g, (s : Int), -N)] by rw [HRow.out, Np.post, if_neg hpos, if_pos hneg])
                  clear hpos hneg
                  have W1 : IntKind.i64.wrap (-N) = -N := IntWalk.i64_in _ (by omega)
                  have HA2 := Lib.hid (HB4.out.alloc HB4.out.size (.cells #[.int .i64 g, .int .i64 (s : Int), .int .i64 (-N)] 40))
                  have HRR := Lib.hid (HTW.out.alloc (.cells #[.int .i64 g, .int .i64 (s : Int), .int .i64 (-N)] 40))
                  have HNC := Lib.hid (newPost_cells W (g, (s : Int), (-N)))
                  have HLo := Lib.hid (HRR.out.lt)
                  go_wp2_with (at_builtin; refine wpList_pushPost _ rfl _ _ rfl w.heap.size _ R rfl HRR.out W.heap.size _ (g, (s : Int), (-N)) rfl HNC.out HL.out HA2.out.size ?_; intro v5 w5 hown5 hne5 hg5 hv5)
                  have HT6 := Lib.hid (show TRow 40 w5 w.heap.size v5 (Np.all (Np.d ps) s ++ Np.row (Np.d ps) s (m + 1)) by rw [HRw.out, ← List.append_assoc, HR.out]; exact hown5)
                  have HB6 := Lib.hid (HA2.out.grown hg5 HA2.out.size (fun j hj => (HLo.out j hj).1))
                  clear hown5 hg5 hv5
                  try go_wp2_with fail
                  go_roundw
                  case rel => exact ⟨m + 1, by omega, by have hgE := HG.out; go_num, hne5, HT6, HB6⟩
                  case measure => have := HG.out; simp [intOf]; omega
                · have hd2 := decide_eq_false hpos
                  have hd3 := decide_eq_false hneg
                  have HRw := Lib.hid (show Np.row (Np.d ps) s (m + 1) = Np.row (Np.d ps) s m by rw [HRow.out, Np.post, if_neg hpos, if_neg hneg, List.append_nil])
                  clear hpos hneg
                  go_wp2_with fail
                  go_roundw
                  case rel => exact ⟨m + 1, by omega, by have hgE := HG.out; go_num, hne2, by rw [HRw.out, HR.out]; exact HTW, HB4⟩
                  case measure => have := HG.out; simp [intOf]; omega
        · have hd1 := decide_eq_false (show ¬ (s + 1 + m : Int) ≤ 5 by omega)
          have HT4 := HT2.out
          rw [show m = 5 - s by omega] at HT4
          have HT5 := Lib.hid (show TRow 40 wr w.heap.size _ (Np.all (Np.d ps) (s + 1)) from HT4)
          clear HT4
          go_wp2_with fail
          go_roundw
          case rel => exact ⟨s + 1, by omega, by go_num, hne2, HT5, HB2⟩
          case measure => simp [intOf]; omega
    · obtain rfl : s = 6 := by omega
      have hd0 : decide (((6 : Nat) : Int) ≤ 5) = false := rfl
      go_wp2_with fail
      go_ret
      have h := HT.out
      rw [show Np.all (Np.d ps) 6 = Np.all (Np.d ps) 5 by show Np.all (Np.d ps) 5 ++ Np.row (Np.d ps) 5 (5 - 5) = _; simp [Np.row], Np.all_net] at h
      exact ⟨_, rfl, h, HB.out⟩
theorem Np.net_len (f : Int → Int → Int) : (Np.net f).length ≤ 25 := by
  rw [← Np.all_net]
  exact Np.all_len _ 5 (by omega)
set_option maxHeartbeats 1000000 in
theorem snet_any (w : World) (v : Value) (ps : List Tri) (hv : R3o w v ps) (hm : ps.length ≤ 9223372036854775807) :
    Calls Try.prog 23 #[v] w (NetQ ps w) := by
  have HV := Lib.hid hv
  have VT := Lib.hid (svposts_any w v ps hv hm)
  cases h0 : Ps.ok ps with
  | false =>
    rw [h0] at VT
    have HE := Lib.hid (show Np.val ps = ([], false) from if_neg (by rw [h0]; simp))
    clear h0
    go_enter Try.func23, Try.ntmps23
    go_wp2_with fail
    refine VT.out.mono ?_
    rintro e w1 ⟨rfl, hb1⟩
    go_wp2_with fail
    refine bodyPost_ret (v := .tuple #[.slice none 0 0, .bool false]) (by simp [results, Try.results23, go_sem]) rfl ?_
    unfold NetQ
    rw [HE.out]
    exact ⟨_, rfl, TRow.nil _ _ _, hb1⟩
  | true =>
    rw [h0] at VT
    have HC := Lib.hid (fun W hr => snetted_any W v ps hr h0)
    have HE := Lib.hid (show Np.val ps = if Np.fit (Np.d ps) = true then (Np.net (Np.d ps), true) else ([], false) by
      unfold Np.val; rw [h0]; simp only [true_and])
    have HOk := Lib.hid (Np.net_ok (Np.d ps))
    have HLn := Lib.hid (Np.net_len (Np.d ps))
    clear h0
    go_enter Try.func23, Try.ntmps23
    go_wp2_with fail
    refine VT.out.mono ?_
    rintro e w1 ⟨rfl, hb1⟩
    have HB1 := Lib.hid hb1
    have HC1 := Lib.hid (HC.out _ (HV.out.below hb1 (Nat.le_refl _)))
    clear hb1 VT HC
    go_wp2_with fail
    refine HC1.out.mono ?_
    rintro e w2 ⟨u, rfl, hu, hb2⟩
    have HU := Lib.hid hu
    have HB2 := Lib.hid (HB1.out.trans (hb2.mono HB1.out.size))
    clear hu hb2 HC1
    generalize Np.fit (Np.d ps) = F at HE HOk
    generalize Np.net (Np.d ps) = Q at HE HOk HLn HU
    have VQ := Lib.hid (svposts_any w2 u Q HU.out.r3.o (by have := HLn.out; omega))
    rw [HOk.out] at VQ
    go_wp2_with fail
    refine VQ.out.mono ?_
    rintro e w3 ⟨rfl, hb3⟩
    have HU3 := Lib.hid (HU.out.below hb3 (Nat.le_refl _))
    have HB3 := Lib.hid (HB2.out.trans (hb3.mono HB2.out.size))
    clear hb3
    cases F with
    | false =>
      rw [if_neg (by simp)] at HE
      go_wp2_with fail
      refine bodyPost_ret (v := .tuple #[.slice none 0 0, .bool false]) (by simp [results, Try.results23, go_sem]) rfl ?_
      unfold NetQ
      rw [HE.out]
      exact ⟨_, rfl, TRow.nil _ _ _, HB3.out⟩
    | true =>
      rw [if_pos rfl] at HE
      go_wp2_with fail
      refine bodyPost_ret (v := .tuple #[_, .bool true]) (by simp [results, Try.results23, go_sem]; rfl) rfl ?_
      unfold NetQ
      rw [HE.out]
      exact ⟨_, rfl, HU3.out.lower HB1.out.size, HB3.out⟩
end Go.Proofs.Ytmamnljgkkjkcaa
