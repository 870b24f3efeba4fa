/- Netting: the program. -/
import Derived.Test.YtmamnljgkkjkcaaNp
namespace Go.Proofs.Ytmamnljgkkjkcaa
open Go Go.RowKit
noncomputable def Np.val (ps : List Tri) : List Tri × Bool := if Ps.ok ps = true ∧ Np.fit (Np.d ps) = true then (Np.net (Np.d ps), true) else ([], false)
theorem Np.fit_iff {f : Int → Int → Int} : Np.fit f = true ↔ ∀ a b : Int, 0 ≤ a → a < b → b ≤ 5 → -1000000000 ≤ f a b ∧ f a b ≤ 1000000000 := by
  unfold Np.fit
  rw [List.all_eq_true]
  constructor
  · intro h a b h0 h1 h2
    exact of_decide_eq_true (h (a, b) (Np.L_mem h0 h1 h2))
  · intro h z hz
    obtain ⟨h0, h1, h2⟩ := Np.L_bd z hz
    exact decide_eq_true (h z.1 z.2 h0 h1 h2)
def Np.upto (f : Int → Int → Int) (s g : Int) : Prop := ∀ a b : Int, 0 ≤ a → a < b → b ≤ 5 → (a < s ∨ (a = s ∧ b < g)) → -1000000000 ≤ f a b ∧ f a b ≤ 1000000000
theorem Np.upto_start (f : Int → Int → Int) : Np.upto f 0 0 := fun a b h0 h1 h2 h => by omega
theorem Np.upto_in {f : Int → Int → Int} {s : Int} (h : Np.upto f s 0) : Np.upto f s (s + 1) := fun a b h0 h1 h2 h3 => h a b h0 h1 h2 (by omega)
theorem Np.upto_step {f : Int → Int → Int} {s g : Int} (h : Np.upto f s g) (hb : -1000000000 ≤ f s g ∧ f s g ≤ 1000000000) : Np.upto f s (g + 1) := fun a b h0 h1 h2 h3 => by
  by_cases e : a = s ∧ b = g
  · rw [e.1, e.2]; exact hb
  · exact h a b h0 h1 h2 (by omega)
theorem Np.upto_out {f : Int → Int → Int} {s : Int} (h : Np.upto f s 6) : Np.upto f (s + 1) 0 := fun a b h0 h1 h2 h3 => h a b h0 h1 h2 (by omega)
theorem Np.upto_fit {f : Int → Int → Int} (h : Np.upto f 5 0) : Np.fit f = true := Np.fit_iff.2 fun a b h0 h1 h2 => h a b h0 h1 h2 (by omega)
theorem Np.upto_bad {f : Int → Int → Int} {a b : Int} (h0 : 0 ≤ a) (h1 : a < b) (h2 : b ≤ 5) (h : ¬ (-1000000000 ≤ f a b ∧ f a b ≤ 1000000000)) : Np.fit f = false := by
  cases e : Np.fit f with
  | false => rfl
  | true => exact absurd (Np.fit_iff.1 e a b h0 h1 h2) h
theorem Np.pos_facts {s g n : Int} (h0 : -40000000000 ≤ n) (h1 : n ≤ 40000000000) :
    0 ≤ (Pt.pos (s, g, n)).2.2 ∧ (Pt.pos (s, g, n)).2.2 ≤ 40000000000 ∧ ((Pt.pos (s, g, n)).2.2 ≤ 1000000000 ↔ -1000000000 ≤ n ∧ n ≤ 1000000000) ∧ (0 < (Pt.pos (s, g, n)).2.2 → Np.post s g n = [Pt.pos (s, g, n)]) ∧ (¬ 0 < (Pt.pos (s, g, n)).2.2 → Np.post s g n = []) := by
  unfold Pt.pos Np.post
  by_cases c : n < 0
  · rw [if_pos (show (s, g, n).2.2 < 0 from c), if_neg (show ¬ 0 < n by omega), if_pos c]
    simp only
    refine ⟨by omega, by omega, by omega, fun _ => by first | trivial | rfl, fun k => absurd k (by omega)⟩
  · rw [if_neg (show ¬ (s, g, n).2.2 < 0 from c), if_neg c]
    simp only
    refine ⟨by omega, by omega, by omega, fun k => by rw [if_pos k], fun k => by rw [if_neg k]⟩
theorem Np.row_step (f : Int → Int → Int) (s m : Nat) : Np.row f s (m + 1) = Np.row f s m ++ Np.post s (s + 1 + m) (f s (s + 1 + m)) := rfl
theorem Np.row_len (f : Int → Int → Int) (s : Nat) : ∀ m : Nat, (Np.row f s m).length ≤ m
  | 0 => by simp [Np.row]
  | m + 1 => by
    rw [Np.row_step, List.length_append]
    have := Np.row_len f s m
    have := Np.post_len s (s + 1 + m) (f s (s + 1 + m))
    omega
theorem Np.all_len (f : Int → Int → Int) : ∀ s : Nat, s ≤ 5 → (Np.all f s).length ≤ 5 * s
  | 0, _ => by simp [Np.all]
  | s + 1, h => by
    show (Np.all f s ++ Np.row f s (5 - s)).length ≤ _
    rw [List.length_append]
    have := Np.all_len f s (by omega)
    have := Np.row_len f s (5 - s)
    omega
def NetQ (ps : List Tri) (w : World) (e : Ending) (w' : World) : Prop :=
  ∃ u, e = .returned (.tuple #[u, .bool (Np.val ps).2]) ∧ TRow 40 w' w.heap.size u (Np.val ps).1 ∧ Below w.heap.size w w'
set_option maxRecDepth 8000 in
set_option maxHeartbeats 4000000 in
theorem net_any (w : World) (v : Value) (ps : List Tri) (hv : R3o w v ps) (hm : ps.length ≤ 9223372036854775807) :
    Calls Try.prog 22 #[v] w (NetQ ps w) := by
  have VT := Lib.hid (vposts_any w v ps hv hm)
  have HV := Lib.hid hv
  obtain ⟨⟨a, cap, rfl⟩, h1⟩ := hv
  clear h1
  cases h0 : Ps.ok ps with
  | false =>
    rw [h0] at VT
    have HE := Lib.hid (show Np.val ps = ([], false) from if_neg (by rw [h0]; simp))
    clear h0
    go_enter Try.func22, Try.ntmps22
    go_wp2_with fail
    refine VT.out.mono ?_
    rintro e w1 ⟨rfl, hb1⟩
    go_wp2_with fail
    refine bodyPost_ret (v := .tuple #[.slice none 0 0, .bool false]) (by simp [results, Try.results22, go_sem]) rfl ?_
    unfold NetQ
    rw [HE.out]
    exact ⟨_, rfl, TRow.nil _ _ _, hb1⟩
  | true =>
    rw [h0] at VT
    have HE := Lib.hid (show Np.val ps = if Np.fit (Np.d ps) = true then (Np.net (Np.d ps), true) else ([], false) by
      unfold Np.val; rw [h0]; simp only [true_and])
    have HD := Lib.hid (fun W hR => differences_any W (.slice a ps.length cap) ps hR h0)
    have HBd := Lib.hid (fun x y => (show -40000000000 ≤ Np.d ps x y ∧ Np.d ps x y ≤ 40000000000 from by
      have h := Np.d_bd h0 x y ps.length (Nat.le_refl _)
      rw [List.take_of_length_le (Nat.le_refl _)] at h
      have := (Ps.parts h0).1
      omega))
    have HMd := Lib.hid (fun x y (h : x < y) => (show Np.m ps x y = Np.d ps x y from if_pos h))
    clear h0
    generalize Np.d ps = f at HE HBd HMd
    go_enter Try.func22, Try.ntmps22
    go_wp2_with fail
    refine VT.out.mono ?_
    rintro e w1 ⟨rfl, hb1⟩
    have HB1 := Lib.hid hb1
    have HD1 := Lib.hid (HD.out _ (HV.out.below hb1 (Nat.le_refl _)))
    clear hb1 VT HD
    go_wp2_with fail
    refine HD1.out.mono ?_
    rintro e w2 ⟨⟨bm, nm, rfl, hmq⟩, hb2⟩
    have HMq := Lib.hid hmq
    have HB2 := Lib.hid (HB1.out.trans (hb2.mono HB1.out.size))
    clear hmq hb2 HD1
    generalize Np.m ps = mf at HMd HMq
    go_wp2_with fail
    have hbm : bm < w2.heap.size := HMq.out.lt
    have HPos := Lib.hid (fun p W h0 h1 => positive_any p W h0 h1)
    go_loopw [14, 5] (fun x o wr => ∃ s : Nat, s ≤ 5 ∧ x = .int .i64 s ∧ Hid (TRow 40 wr w2.heap.size o (Np.all f s)) ∧ Hid (Below w2.heap.size w2 wr) ∧ Hid (Np.upto f s 0)) (fun x _ _ => 5 - (intOf x).toNat)
    case atStart => exact ⟨0, by omega, rfl, Lib.hid (TRow.nil _ _ _), Lib.hid (Below.refl _ _), Lib.hid (Np.upto_start f)⟩
    case round =>
      obtain ⟨s, hs, rfl, HT, HB, HU⟩ := hrel
      by_cases hlt : s < 5
      · have hdec := decide_eq_true (show (s : Int) < 5 by omega)
        have HU1 := Lib.hid (Np.upto_in HU.out)
        clear HU
        go_wp2_with fail
        go_loopw [5, 7] (fun o x wr' => ∃ m : Nat, s + m ≤ 5 ∧ x = .int .i64 (s + 1 + m) ∧ Hid (TRow 40 wr' w2.heap.size o (Np.all f s ++ Np.row f s m)) ∧ Hid (Below w2.heap.size w2 wr') ∧ Hid (Np.upto f s (s + 1 + m))) (fun _ x _ => 6 - (intOf x).toNat)
        case atStart => exact ⟨0, by omega, by simp, by simpa [Np.row] using HT, HB, by simpa using HU1⟩
        case round =>
          obtain ⟨m, hm5, rfl, HT2, HB2', HU2⟩ := hrel
          by_cases hlt2 : s + m < 5
          · have hdec2 := decide_eq_true (show (s + 1 + m : Int) ≤ 5 by omega)
            obtain ⟨n0, n1⟩ := HBd.out s (s + 1 + m)
            have HMe := Lib.hid (HMd.out s (s + 1 + m) (by omega))
            obtain ⟨p0, p1, p2, p3, p4⟩ := Np.pos_facts (s := s) (g := s + 1 + m) n0 n1
            have HRow := Lib.hid (Np.row_step f s m)
            have HU3 := Lib.hid (fun h => Np.upto_step HU2.out h)
            have HBad := Lib.hid (fun h => Np.upto_bad (f := f) (a := s) (b := s + 1 + m) (by omega) (by omega) (by omega) h)
            have HMw := Lib.hid (HMq.out.below HB2'.out hbm)
            have wfs := wf_i64 (x := (s : Int)) (by omega) (by omega)
            have wfg := wf_i64 (x := (s + 1 + m : Int)) (by omega) (by omega)
            have hln := Np.row_len f s m
            have hla := Np.all_len f s (by omega)
            clear HU2
            generalize f s (s + 1 + m) = n at n0 n1 HMe p0 p1 p2 p3 p4 HRow HU3 HBad
            have HP := Lib.hid (fun W => HPos.out (s, s + 1 + m, n) W (by simp only; omega) (by simp only; omega))
            have P2 := Lib.hid p2
            have P3 := Lib.hid p3
            have P4 := Lib.hid p4
            clear p2 p3 p4
            generalize Pt.pos (s, s + 1 + m, n) = y at p0 p1 P2 P3 P4 HP
            obtain ⟨y0, y1, y2⟩ := y
            simp only at p0 p1
            have HL := Lib.hid (show (Np.all f s ++ Np.row f s m).length + 1 ≤ 1000000 by rw [List.length_append]; omega)
            clear hln hla
            obtain ⟨R, hR⟩ : ∃ R, R = Np.all f s ++ Np.row f s m := ⟨_, rfl⟩
            rw [← hR] at HT2 HL
            have HR := Lib.hid hR.symm
            clear hR
            go_wp2_with (at_lookup; refine wpList_lookup_mq _ rfl _ _ 84 rfl 3 Try.underlying84 Try.underlying3 (zeroInt _) bm nm mf rfl HMw.out s (s + 1 + m) rfl wfs wfg ?_; rw [HMe.out])
            refine (HP.out _).mono ?_
            rintro e w4 ⟨rfl, hb4⟩
            have HB4 := Lib.hid (HB2'.out.trans (hb4.mono HB2'.out.size))
            have HT4 := Lib.hid (HT2.out.below hb4 (Nat.le_refl _))
            clear hb4 HP HT2
            by_cases hbig : 1000000000 < y2
            · have hd1 := decide_eq_true hbig
              have HV := Lib.hid (show Np.val ps = ([], false) by rw [HE.out, HBad.out (fun k => by have := P2.out.2 k; omega), if_neg (by simp)])
              clear hbig
              go_wp2_with fail
              refine bodyPost_ret (v := .tuple #[.slice none 0 0, .bool false]) (by simp [results, Try.results22, go_sem]) rfl ?_
              unfold NetQ
              rw [HV.out]
              exact ⟨_, rfl, TRow.nil _ _ _, HB2.out.trans ((HB4.out.alloc HB4.out.size _).mono HB2.out.size)⟩
            · have hd1 := decide_eq_false hbig
              have HU4 := Lib.hid (HU3.out (P2.out.1 (by omega)))
              clear hbig
              by_cases hz : 0 < y2
              · have hd2 := decide_eq_true hz
                have HRw := Lib.hid (show Np.row f s (m + 1) = Np.row f s m ++ [(y0, y1, y2)] by rw [HRow.out, P3.out hz])
                clear hz
                have HA1 := Lib.hid (HB4.out.alloc HB4.out.size (.cells #[.int .i64 y0, .int .i64 y1, .int .i64 y2] 40))
                have HA2 := Lib.hid (HA1.out.alloc HA1.out.size (.cells #[.int .i64 y0, .int .i64 y1, .int .i64 y2] 40))
                have HRR := Lib.hid ((HT4.out.alloc (.cells #[.int .i64 y0, .int .i64 y1, .int .i64 y2] 40)).alloc (.cells #[.int .i64 y0, .int .i64 y1, .int .i64 y2] 40))
                have HNC := Lib.hid (show ∀ j u, (ac (y0, y1, y2))[j]? = some u → ((w4.alloc (.cells #[.int .i64 y0, .int .i64 y1, .int .i64 y2] 40)).alloc (.cells #[.int .i64 y0, .int .i64 y1, .int .i64 y2] 40)).cell? ((⟨w4.heap.size + 1, 0, none⟩ : Addr).add j) = some u from by
                  have h := newPost_cells (w4.alloc (.cells #[.int .i64 y0, .int .i64 y1, .int .i64 y2] 40)) (y0, y1, y2)
                  rw [World.size_alloc] at h
                  exact h)
                have HLo := Lib.hid (HRR.out.lt)
                go_wp2_with (at_builtin; refine wpList_pushPost _ rfl _ _ rfl w2.heap.size _ R rfl HRR.out (w4.heap.size + 1) _ (y0, y1, y2) rfl HNC.out HL.out HA2.out.size ?_; intro v5 w5 hown5 hne5 hg5 hv5)
                have HT6 := Lib.hid (show TRow 40 w5 w2.heap.size v5 (Np.all f s ++ Np.row f s (m + 1)) by rw [HRw.out, ← List.append_assoc, HR.out]; exact hown5)
                have HB6 := Lib.hid (HA2.out.grown hg5 HA2.out.size (fun j hj => (HLo.out j hj).1))
                clear hown5 hne5 hg5 hv5
                go_roundw
                case rel => exact ⟨m + 1, by omega, by go_num, HT6, HB6, by rw [show (s + 1 + ((m + 1 : Nat) : Int)) = s + 1 + m + 1 by omega]; exact HU4⟩
                case measure => simp [intOf]; omega
              · have hd2 := decide_eq_false hz
                have HRw := Lib.hid (show Np.row f s (m + 1) = Np.row f s m by rw [HRow.out, P4.out (by omega), List.append_nil])
                clear hz
                go_wp2_with fail
                go_roundw
                case rel => exact ⟨m + 1, by omega, by go_num, by rw [HRw.out, HR.out]; exact Lib.hid (HT4.out.alloc _), Lib.hid (HB4.out.alloc HB4.out.size _), by rw [show (s + 1 + ((m + 1 : Nat) : Int)) = s + 1 + m + 1 by omega]; exact HU4⟩
                case measure => simp [intOf]; omega
          · have hm6 : s + m = 5 := by omega
            have hdec2 := decide_eq_false (show ¬ (s + 1 + m : Int) ≤ 5 by omega)
            have HT4 := HT2.out
            rw [show m = 5 - s by omega] at HT4
            have HT5 := Lib.hid (show TRow 40 wr w2.heap.size _ (Np.all f (s + 1)) from HT4)
            have HU4 := HU2.out
            rw [show (s + 1 + m : Int) = 6 by omega] at HU4
            have HU5 := Lib.hid (Np.upto_out HU4)
            clear HT4 HU4
            go_wp2_with fail
            go_roundw
            case rel => exact ⟨s + 1, by omega, by go_num, HT5, HB2', HU5⟩
            case measure => simp [intOf]; omega
      · obtain rfl : s = 5 := by omega
        have HV := Lib.hid (show Np.val ps = (Np.net f, true) by rw [HE.out, if_pos (Np.upto_fit HU.out)])
        have HT2 := HT.out
        rw [Np.all_net] at HT2
        have HT3 := Lib.hid HT2
        clear HT2
        have hdec : decide ((5 : Int) < 5) = false := rfl
        go_wp2_with fail
        refine bodyPost_ret (v := .tuple #[_, .bool true]) (by simp [results, Try.results22, go_sem]; rfl) rfl ?_
        unfold NetQ
        rw [HV.out]
        exact ⟨_, rfl, HT3.out.lower HB2.out.size, HB2.out.trans (HB.out.mono HB2.out.size)⟩
end Go.Proofs.Ytmamnljgkkjkcaa
