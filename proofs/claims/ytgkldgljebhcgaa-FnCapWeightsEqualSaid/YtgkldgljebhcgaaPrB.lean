/- Shares in proportion to weights: the program. -/
import Derived.Test.YtgkldgljebhcgaaAvHold
import Derived.Test.YtgkldgljebhcgaaSrt3
import Derived.Laws.MakeOwn
namespace Go.Proofs.Ytgkldgljebhcgaa
open Go.RowKit
def Pr.okB (A : Int) (xs : List Int) : Bool := btw A 0 1000000000 && (Ho.ok xs && (xs.sum != 0))
def Pr.val (A : Int) (xs : List Int) : List Int := if Pr.okB A xs = true then Pr.out A xs else []
theorem Pr.val_yes {A : Int} {xs : List Int} (h : Pr.okB A xs = true) : Pr.val A xs = Pr.out A xs := if_pos h
theorem Pr.val_no {A : Int} {xs : List Int} (h : Pr.okB A xs = false) : Pr.val A xs = [] := if_neg (by rw [h]; simp)
theorem Pr.val_len {A : Int} {xs : List Int} (hl : xs.length ≤ 9) : (Pr.val A xs).length ≤ 9 := by unfold Pr.val; split; rw [Pr.out_len]; exact hl; simp
set_option maxHeartbeats 400000 in
theorem hold_any (w : World) (v : Value) (xs : List Int) (hv : R1o w v xs) (hm : xs.length ≤ 9223372036854775807) :
    Calls Try.prog 41 #[v] w fun x w' => x = .returned (.bool (Ho.ok xs)) ∧ Below w.heap.size w w' := by
  have HX := Lib.hid (av_Hold w v xs 1 8 hv hm)
  obtain ⟨⟨a, c, rfl⟩, h1⟩ := hv
  clear h1
  go_enter Try.func41, Try.ntmps41
  go_wp2_with fail
  refine HX.out.mono ?_
  rintro e w1 ⟨rfl, hb⟩
  go_wp2_with fail
  go_ret
  exact ⟨rfl, hb⟩
/-- A row of zeros that make gives. -/
abbrev mz (n : Nat) : Array Value := madeCells (Value.int .i64 0).cells (n * 1)
theorem mz_row (W : World) (n : Nat) (hn : n ≤ 1000) : IRow (W.alloc (.cells (mz n) 3)) W.heap.size (.slice (some ⟨W.heap.size, 0, none⟩) n n) (List.replicate n 0) := by
  have h : World.ownsRow (W.alloc (.cells (mz n) 3)) W.heap.size 3 1 (.slice (some ⟨W.heap.size, 0, none⟩) n n) n (mz n).toList := World.ownsRow_lit W _ n (Nat.le_refl _) (by unfold maxLen; omega) (size_madeCells _ _)
  rw [made_ints1] at h
  unfold IRow
  rw [List.length_replicate]
  exact h
theorem mk_ints {n : Nat} (hn : n ≤ 1000) (W : World) : (Instr.makeSlice 23 (.int .i64 n) (.int .i64 n)).run Try.prog W = .ok (.slice (some ⟨W.heap.size, 0, none⟩) n n) (W.alloc (.cells (mz n) 3)) := by
  obtain ⟨i0, hi, hz0, hz1, hz2⟩ := info_parts infoInt
  have h := run_make (P := Try.prog) W 23 3 i0 (.int .i64 0) Try.underlying23 hi hz0 .i64 .i64 n n (by omega) (Int.le_refl _) (by rw [hz2]; omega) (by omega)
  rw [hz1] at h
  simp only [Int.toNat_natCast] at h
  exact h
/-- Two rows of zeros that a call has made. -/
def Two (w W : World) (n bs br : Nat) : Prop :=
  IRow W w.heap.size (.slice (some ⟨bs, 0, none⟩) n n) (List.replicate n 0) ∧ IRow W w.heap.size (.slice (some ⟨br, 0, none⟩) n n) (List.replicate n 0) ∧ bs ≠ br ∧ Below w.heap.size w W
theorem two_make (w : World) (n : Nat) (hn : n ≤ 1000) : Two w ((w.alloc (.cells (mz n) 3)).alloc (.cells (mz n) 3)) n w.heap.size (w.heap.size + 1) := by
  refine ⟨(mz_row w n hn).alloc _, ?_, by omega, ((Below.refl _ _).alloc (Nat.le_refl _) _).alloc (by simp) _⟩
  have h := mz_row (w.alloc (.cells (mz n) 3)) n hn
  rw [show (w.alloc (.cells (mz n) 3)).heap.size = w.heap.size + 1 by simp] at h
  exact h.lower (by omega)
theorem Two.symm {w W : World} {n bs br : Nat} (h : Two w W n bs br) : Two w W n br bs := ⟨h.2.1, h.1, fun e => h.2.2.1 e.symm, h.2.2.2⟩
theorem Two.drew {w W : World} {n bs br : Nat} (h : Two w W n bs br) : Two w W.drew n bs br := ⟨h.1, h.2.1, h.2.2.1, h.2.2.2.drew⟩
theorem Pr.okB_ok {A : Int} {xs : List Int} (h : Pr.okB A xs = true) : (0 ≤ A ∧ A ≤ 1000000000) ∧ (1 ≤ xs.length ∧ xs.length ≤ 8 ∧ xs.all holdB = true) ∧ Pr.Ok A xs := by
  unfold Pr.okB at h
  rw [Bool.and_eq_true, Bool.and_eq_true, btw_iff] at h
  obtain ⟨hA, hH, hs⟩ := h
  have hp := Ho.parts hH
  refine ⟨hA, hp, hA.1, fun x hx => (Ho.mem hp.2.2 x hx).1, ?_⟩
  have := (Ho.sum_bd hp.2.2 hp.2.1).1
  have hne : xs.sum ≠ 0 := by simpa using hs
  omega
theorem Pr.sh_len (A : Int) (xs : List Int) (j : Nat) : (Pr.sh A xs j).length = xs.length := by unfold Pr.sh; rw [Pr.shs_len, Pr.fl_len]
theorem Pr.sh_bd {A : Int} {xs : List Int} (ok : Pr.Ok A xs) {j i : Nat} (hj : j ≤ xs.length) (hi : i < xs.length) : 0 ≤ (Pr.sh A xs j).getD i 0 ∧ (Pr.sh A xs j).getD i 0 ≤ A + 1 := by
  have h1 := Pr.fl_nn ok hi
  have h2 := Pr.fl_le ok hi
  have h := Pr.shs_at (rs := Pr.rs A xs) (sh := Pr.fl A xs) (i := i) (by rw [Pr.fl_len, Pr.rs_len]) j (by rw [Pr.rs_len]; exact hj)
  unfold Pr.sh
  rcases Classical.em (Pr.In (Sr.ord (Pr.rs A xs)) j i) with c | c
  · rw [h.1 c]; omega
  · rw [h.2 c]; omega
set_option maxRecDepth 8000 in
set_option maxHeartbeats 8000000 in
theorem proRate_any (w : World) (A : Int) (v : Value) (xs : List Int) (hv : R1o w v xs) (hm : xs.length ≤ 9223372036854775807) :
    Calls Try.prog 36 #[.int .i64 A, v] w (HandsI (Pr.val A xs) w) := by
  have VH := Lib.hid (hold_any w v xs hv hm)
  have HV := Lib.hid hv
  obtain ⟨⟨a, cap, rfl⟩, -⟩ := hv
  have hO : Pr.okB A xs = (btw A 0 1000000000 && (Ho.ok xs && (xs.sum != 0))) := rfl
  cases h0 : btw A 0 1000000000 with
  | false =>
    have E := Lib.hid (Pr.val_no (hO.trans (by rw [h0]; rfl)))
    clear hO
    go_enter Try.func36, Try.ntmps36
    go_wp2_with fail
    refine (between_any _ _ _ _).mono ?_
    rintro e w1 ⟨rfl, rfl⟩
    rw [h0]
    go_wp2_with fail
    go_ret
    exact ⟨_, rfl, by rw [E.out]; exact IRow.nil _ _, Below.refl _ _⟩
  | true =>
    cases h1 : Ho.ok xs with
    | false =>
      have E := Lib.hid (Pr.val_no (hO.trans (by rw [h0, h1]; rfl)))
      have H1 := Lib.hid h1
      clear hO h1
      go_enter Try.func36, Try.ntmps36
      go_wp2_with fail
      refine (between_any _ _ _ _).mono ?_
      rintro e w1 ⟨rfl, rfl⟩
      rw [h0]
      go_wp2_with fail
      refine VH.out.mono ?_
      rw [H1.out]
      rintro e w1 ⟨rfl, hb1⟩
      go_wp2_with fail
      go_ret
      exact ⟨_, rfl, by rw [E.out]; exact IRow.nil _ _, hb1⟩
    | true =>
      obtain ⟨l0, l1, hall⟩ := Ho.parts h1
      have hsm : Small xs := fun i hi => by have := Ho.at hall hi; omega
      obtain ⟨t1, t2⟩ := Ho.sum_bd hall l1
      have SI := Lib.hid (fun W (hb : Below w.heap.size w W) => sumInts_any W _ xs (HV.out.below hb (Nat.le_refl _)) (by omega) hsm)
      by_cases hz : xs.sum = 0
      · have E := Lib.hid (Pr.val_no (hO.trans (by rw [h0, h1, hz]; rfl)))
        have H1 := Lib.hid h1
        clear hO h1 hall hsm
        rw [hz] at SI
        go_enter Try.func36, Try.ntmps36
        go_wp2_with fail
        refine (between_any _ _ _ _).mono ?_
        rintro e w1 ⟨rfl, rfl⟩
        rw [h0]
        go_wp2_with fail
        refine VH.out.mono ?_
        rw [H1.out]
        rintro e w1 ⟨rfl, hb1⟩
        have HB1 := Lib.hid hb1; clear hb1
        go_wp2_with fail
        refine (SI.out _ HB1.out).mono ?_
        rintro e w2 ⟨rfl, rfl⟩
        go_wp2_with fail
        go_ret
        exact ⟨_, rfl, by rw [E.out]; exact IRow.nil _ _, HB1.out⟩
      · have hok : Pr.okB A xs = true := hO.trans (by rw [h0, h1]; simpa using hz)
        have E := Lib.hid (Pr.val_yes hok)
        obtain ⟨⟨a0, a1⟩, -, ok⟩ := Pr.okB_ok hok
        have H1 := Lib.hid h1
        have HK := Lib.hid ok
        have HA := Lib.hid hall
        clear hO h1 hall hsm hok
        have hbeq : (xs.sum == 0) = false := by simpa using hz
        have hT : 0 < xs.sum := ok.t0
        have hn : xs.length ≤ 1000 := by omega
        have fmk := fun W => mk_ints hn W
        clear ok
        go_enter Try.func36, Try.ntmps36
        go_wp2_with fail
        refine (between_any _ _ _ _).mono ?_
        rintro e w1 ⟨rfl, rfl⟩
        rw [h0]
        go_wp2_with fail
        refine VH.out.mono ?_
        rw [H1.out]
        rintro e w1 ⟨rfl, hb1⟩
        have HB1 := Lib.hid hb1; clear hb1
        go_wp2_with fail
        refine (SI.out _ HB1.out).mono ?_
        rintro e w2 ⟨rfl, rfl⟩
        go_wp2_with fail
        go_region
        have TW : Two w1 ((w1.alloc (.cells (mz xs.length) 3)).alloc (.cells (mz xs.length) 3)).drew xs.length w1.heap.size (w1.heap.size + 1) := (two_make w1 xs.length hn).drew
        generalize ((w1.alloc (.cells (mz xs.length) 3)).alloc (.cells (mz xs.length) 3)).drew = w3 at *
        generalize w1.heap.size + 1 = br at *
        generalize w1.heap.size = bs at *
        rotate_left
        have TW : Two w1 ((w1.alloc (.cells (mz xs.length) 3)).alloc (.cells (mz xs.length) 3)).drew xs.length (w1.heap.size + 1) w1.heap.size := (two_make w1 xs.length hn).symm.drew
        generalize ((w1.alloc (.cells (mz xs.length) 3)).alloc (.cells (mz xs.length) 3)).drew = w3 at *
        generalize w1.heap.size + 1 = bs at *
        generalize w1.heap.size = br at *
        all_goals
          obtain ⟨hs3, hr3, hne, hb3⟩ := TW
          have HS3 := Lib.hid (show IRow w3 w1.heap.size _ ((Pr.fl A xs).take 0 ++ List.replicate (xs.length - 0) 0) by simpa using hs3)
          have HR3 := Lib.hid (show IRow w3 w1.heap.size _ ((Pr.rs A xs).take 0 ++ List.replicate (xs.length - 0) 0) by simpa using hr3)
          have HB3 := Lib.hid (HB1.out.trans (hb3.mono HB1.out.size))
          have hsz1 := HB1.out.size
          clear hs3 hr3 hb3
          have HFl := Lib.hid (Pr.fl_len A xs)
          have HRl := Lib.hid (Pr.rs_len A xs)
          have HFa := Lib.hid (fun i (hi : i < xs.length) => Pr.fl_at (A := A) hi)
          have HRa := Lib.hid (fun i (hi : i < xs.length) => Pr.rs_at (A := A) hi)
          have HXa := Lib.hid (fun i (hi : i < xs.length) => Ho.at HA.out hi)
          obtain ⟨n, hnn⟩ : ∃ n, n = xs.length := ⟨_, rfl⟩
          rw [← hnn] at l0 l1 hn HS3 HR3 HFl HRl HFa HRa HXa HV ⊢
          have HN := Lib.hid hnn; clear hnn
          go_wp2_with fail
          go_loopw [33] (fun x wr => ∃ k : Nat, k ≤ n ∧ x = .int .i64 k ∧ Hid (IRow wr w1.heap.size (.slice (some ⟨bs, 0, none⟩) n n) ((Pr.fl A xs).take k ++ List.replicate (n - k) 0)) ∧ Hid (IRow wr w1.heap.size (.slice (some ⟨br, 0, none⟩) n n) ((Pr.rs A xs).take k ++ List.replicate (n - k) 0)) ∧ Hid (Below w.heap.size w wr)) (fun x _ => n - (intOf x).toNat)
          case atStart => exact ⟨0, Nat.zero_le _, rfl, HS3, HR3, HB3⟩
          case round =>
            obtain ⟨k, hk, rfl, HF, HG, HB⟩ := hrel
            by_cases hlt : k < n
            · obtain ⟨b, off, d', e, hbl, hc⟩ := HV.out.2 (by rw [← HN.out]; omega)
              rw [← HN.out] at e
              simp only [Value.slice.injEq, true_and] at e
              obtain ⟨rfl, rfl⟩ := e
              have c0 := (HB.out.cell (p := ⟨b, off + k, none⟩) hbl).trans (hc k (by rw [← HN.out]; exact hlt))
              clear hc
              obtain ⟨x0, x1⟩ := HXa.out k hlt
              have hfa := HFa.out k hlt
              have hra := HRa.out k hlt
              generalize xs.getD k 0 = x at c0 x0 x1 hfa hra
              generalize xs.sum = T at *
              have hlf : ((Pr.fl A xs).take k ++ List.replicate (n - k) (0 : Int)).length = n := by rw [List.length_append, List.length_take, List.length_replicate, HFl.out]; omega
              have hlr : ((Pr.rs A xs).take k ++ List.replicate (n - k) (0 : Int)).length = n := by rw [List.length_append, List.length_take, List.length_replicate, HRl.out]; omega
              have HLf := Lib.hid hlf
              have HLr := Lib.hid hlr
              clear hlf hlr
              obtain ⟨b4, cap4, e4, -, hbl4, -, hc4, hf4⟩ := HF.out.form (by rw [HLf.out]; omega)
              simp only [Value.slice.injEq, Option.some.injEq, Addr.mk.injEq, and_true] at e4
              obtain ⟨rfl, -⟩ := e4
              have d0 := hc4 k (by rw [HLf.out]; exact hlt)
              have g0 := hf4 k
              obtain ⟨b5, cap5, e5, -, hbl5, -, hc5, hf5⟩ := HG.out.form (by rw [HLr.out]; omega)
              simp only [Value.slice.injEq, Option.some.injEq, Addr.mk.injEq, and_true] at e5
              obtain ⟨rfl, -⟩ := e5
              have d1 := hc5 k (by rw [HLr.out]; exact hlt)
              have g1 := hf5 k
              clear hc4 hf4 hc5 hf5
              have HTf := Lib.hid (show ((Pr.fl A xs).take k ++ List.replicate (n - k) (0 : Int)).set k (A * x / T) = (Pr.fl A xs).take (k + 1) ++ List.replicate (n - (k + 1)) 0 by
                have h := copy_int (xs := Pr.fl A xs) (k := k) (by rw [HFl.out]; exact hlt)
                rw [HFl.out, hfa] at h
                exact h)
              have HTr := Lib.hid (show ((Pr.rs A xs).take k ++ List.replicate (n - k) (0 : Int)).set k (A * x % T) = (Pr.rs A xs).take (k + 1) ++ List.replicate (n - (k + 1)) 0 by
                have h := copy_int (xs := Pr.rs A xs) (k := k) (by rw [HRl.out]; exact hlt)
                rw [HRl.out, hra] at h
                exact h)
              clear hfa hra
              have HSf := Lib.hid (fun W (hW : IRow W w1.heap.size (.slice (some ⟨bs, 0, none⟩) n n) ((Pr.fl A xs).take k ++ List.replicate (n - k) 0)) => (show IRow W w1.heap.size (.slice (some ⟨bs, 0, none⟩) ((Pr.fl A xs).take k ++ List.replicate (n - k) (0 : Int)).length n) ((Pr.fl A xs).take k ++ List.replicate (n - k) 0) by rw [HLf.out]; exact hW).store k (A * x / T))
              have HSr := Lib.hid (fun W (hW : IRow W w1.heap.size (.slice (some ⟨br, 0, none⟩) n n) ((Pr.rs A xs).take k ++ List.replicate (n - k) 0)) => (show IRow W w1.heap.size (.slice (some ⟨br, 0, none⟩) ((Pr.rs A xs).take k ++ List.replicate (n - k) (0 : Int)).length n) ((Pr.rs A xs).take k ++ List.replicate (n - k) 0) by rw [HLr.out]; exact hW).store k (A * x % T))
              generalize List.getD ((Pr.fl A xs).take k ++ List.replicate (n - k) 0) k 0 = y0 at d0
              generalize List.getD ((Pr.rs A xs).take k ++ List.replicate (n - k) 0) k 0 = y1 at d1
              have hq1 : A * x ≤ 1000000000 * 9999 := Int.mul_le_mul a1 x1 x0 (by omega)
              have hq0 : 0 ≤ A * x := Int.mul_nonneg a0 x0
              have W1 : IntKind.i64.wrap (A * x) = A * x := IntWalk.i64_in _ (by omega)
              have hki : (k : Int) < n := by omega
              have hk0 : (0 : Int) ≤ k := by omega
              have hT2 : T ≠ 0 := by omega
              go_wp2_with fail
              go_region
              have HF2 := Lib.hid (HSf.out wr HF.out)
              have HG2 := Lib.hid ((HSr.out wr HG.out))
              have HF3 := Lib.hid (HF2.out.1.keptBy (HSr.out _ ((HG.out.keptBy HF2.out.2 (fun j hj => by have hj2 : some br = some j := hj; injection hj2 with hj2; omega)))).2 (fun j hj => by have hj2 : some bs = some j := hj; injection hj2 with hj2; omega))
              have HG3 := Lib.hid (HSr.out _ ((HG.out.keptBy HF2.out.2 (fun j hj => by have hj2 : some br = some j := hj; injection hj2 with hj2; omega)))).1
              have hbs := (World.ownsRow.lt HF.out bs rfl).1
              have hbr := (World.ownsRow.lt HG.out br rfl).1
              have HB4 := Lib.hid (((HB.out.setCell (p := ⟨bs, k, none⟩) (Nat.le_trans hsz1 hbs) (.int .i64 (A * x / T))).setCell (p := ⟨br, k, none⟩) (Nat.le_trans hsz1 hbr) (.int .i64 (A * x % T))).drew)
              go_wp2_with fail
              go_roundw
              case rel =>
                refine ⟨k + 1, by omega, by go_num, ?_, ?_, HB4⟩
                · have h := HF3.out
                  rw [List.length_set, HLf.out, HTf.out] at h
                  exact Lib.hid h
                · have h := HG3.out
                  rw [List.length_set, HLr.out, HTr.out] at h
                  exact Lib.hid h
              case measure => simp [intOf]; omega
            · obtain rfl : k = n := by omega
              have HF1 := Lib.hid (show IRow wr w1.heap.size (.slice (some ⟨bs, 0, none⟩) k k) (Pr.fl A xs) from by
                have h := HF.out
                rw [List.take_of_length_le (by rw [HFl.out]; exact Nat.le_refl _), Nat.sub_self] at h
                simp only [List.replicate_zero, List.append_nil] at h
                exact h)
              have HG1 := Lib.hid (show IRow wr w1.heap.size (.slice (some ⟨br, 0, none⟩) k k) (Pr.rs A xs) from by
                have h := HG.out
                rw [List.take_of_length_le (by rw [HRl.out]; exact Nat.le_refl _), Nat.sub_self] at h
                simp only [List.replicate_zero, List.append_nil] at h
                exact h)
              have hR1 := HF1.out.r1
              have hfs : Small (Pr.fl A xs) := fun i hi => by
                rw [HFl.out] at hi
                have h1 := Pr.fl_nn HK.out (i := i) (by rw [← HN.out]; exact hi)
                have h2 := Pr.fl_le HK.out (i := i) (by rw [← HN.out]; exact hi)
                omega
              have SF := Lib.hid (sumInts_any wr _ _ hR1 (by rw [HFl.out]; omega) hfs)
              have GR := Lib.hid (greatest_any wr _ _ HG1.out.r1 (by rw [HRl.out]; exact l0) (by rw [HRl.out]; omega))
              rw [HRl.out] at GR
              obtain ⟨L, hL⟩ : ∃ L : Nat, A - (Pr.fl A xs).sum = (L : Int) := ⟨(Pr.left A xs).toNat, by have := Pr.left_nn HK.out; unfold Pr.left at *; omega⟩
              have hLn : L < k := by have := Pr.left_lt HK.out; have := HN.out; unfold Pr.left at *; omega
              have HOut := Lib.hid (show Pr.out A xs = Pr.sh A xs L by unfold Pr.out; rw [show (Pr.left A xs).toNat = L by unfold Pr.left; omega])
              have hf0 : 0 ≤ (Pr.fl A xs).sum ∧ (Pr.fl A xs).sum ≤ A := ⟨Pr.sum_nn _ (fun y hy => by
                obtain ⟨j, hj, rfl⟩ := List.mem_iff_getElem.1 hy
                rw [← Sr.getD_get hj]
                exact Pr.fl_nn HK.out (by rw [HFl.out] at hj; rw [← HN.out]; exact hj)), by omega⟩
              obtain ⟨f0, f1⟩ := hf0
              clear hR1 hfs
              have HLL := Lib.hid hL
              generalize (Pr.fl A xs).sum = FS at SF hL f0 f1 HLL
              have hsz : w.heap.size ≤ wr.heap.size := HB.out.size
              go_wp2_with fail
              refine SF.out.mono ?_
              rintro e w4 ⟨rfl, rfl⟩
              go_wp2_with fail
              refine GR.out.mono ?_
              rintro e w5 ⟨ob, oc, rfl, hO5, hb5⟩
              have HF5 := Lib.hid (HF1.out.below hb5 (Nat.le_refl _))
              have HO5 := Lib.hid hO5
              have HB5 := Lib.hid (HB.out.trans (hb5.mono hsz))
              have hoc : k ≤ oc := by
                have hl : (Sr.ord (Pr.rs A xs)).length = k := by rw [Sr.ord_len, HRl.out]
                obtain ⟨b', cap', e', -, -, ⟨q1, -⟩, -, -⟩ := hO5.form (by omega)
                simp only [Value.slice.injEq, Option.some.injEq, Addr.mk.injEq, and_true] at e'
                obtain ⟨-, -, rfl⟩ := e'
                omega
              have hobs : ob ≠ bs := by
                have h1 := (World.ownsRow.lt hO5 ob rfl).1
                have h2 := (World.ownsRow.lt HF1.out bs rfl).2
                omega
              clear hO5 hb5
              have hLc : L ≤ oc := by omega
              go_wp2_with fail
              have HSL := Lib.hid (fun j => Pr.sh_len A xs j)
              have HSB := Lib.hid (fun j i (hj : j ≤ k) (hi : i < k) => Pr.sh_bd HK.out (j := j) (i := i) (by rw [← HN.out]; exact hj) (by rw [← HN.out]; exact hi))
              have HSt := Lib.hid (show ∀ j, Pr.sh A xs (j + 1) = (Pr.sh A xs j).set ((Sr.ord (Pr.rs A xs)).getD j 0).toNat ((Pr.sh A xs j).getD ((Sr.ord (Pr.rs A xs)).getD j 0).toNat 0 + 1) from fun _ => rfl)
              have HIn := Lib.hid (fun j (hj : j < k) => (by have h := Sr.ord_in (rs := Pr.rs A xs) (k := j) (by rw [HRl.out]; exact hj); rw [HRl.out] at h; exact h : 0 ≤ (Sr.ord (Pr.rs A xs)).getD j 0 ∧ (Sr.ord (Pr.rs A xs)).getD j 0 < k))
              have HOl := Lib.hid (show (Sr.ord (Pr.rs A xs)).length = k by rw [Sr.ord_len, HRl.out])
              generalize Sr.ord (Pr.rs A xs) = os at HO5 HSt HIn HOl
              have HN2 := Lib.hid HN.out.symm
              go_loopw [64] (fun x wr => ∃ j : Nat, j ≤ L ∧ x = .int .i64 j ∧ Hid (IRow wr w1.heap.size (.slice (some ⟨bs, 0, none⟩) k k) (Pr.sh A xs j)) ∧ Hid (w5.grownBy wr (some bs))) (fun x _ => L - (intOf x).toNat)
              case atStart => exact ⟨0, Nat.zero_le _, rfl, HF5, Lib.hid ⟨rfl, rfl, rfl, Nat.le_refl _, fun _ _ _ => rfl⟩⟩
              case round =>
                obtain ⟨j, hj, rfl, HFj, HGj⟩ := hrel
                by_cases hjl : j < L
                · have HOj := Lib.hid (HO5.out.keptBy HGj.out (fun i hi => by have hi2 : some ob = some i := hi; injection hi2 with hi2; omega))
                  have hjk : j < k := by omega
                  obtain ⟨b6, cap6, e6, -, hbl6, -, hc6, -⟩ := HOj.out.form (by rw [HOl.out]; omega)
                  rw [HOl.out] at e6
                  simp only [Value.slice.injEq, Option.some.injEq, Addr.mk.injEq, and_true, true_and] at e6
                  obtain ⟨rfl, rfl⟩ := e6
                  have c0 := hc6 j (by rw [HOl.out]; exact hjk)
                  clear hc6
                  obtain ⟨p0, p1⟩ := HIn.out j hjk
                  have hst := HSt.out j
                  obtain ⟨p, hp⟩ : ∃ p : Nat, os.getD j 0 = p := ⟨(os.getD j 0).toNat, by omega⟩
                  rw [hp] at c0 p0 p1 hst
                  rw [Int.toNat_natCast] at hst
                  have HSj := Lib.hid hst
                  clear hst hp
                  have hpk : p < k := by omega
                  obtain ⟨s0, s1⟩ := HSB.out j p (by omega) hpk
                  have hlj : (Pr.sh A xs j).length = k := by rw [HSL.out, HN2.out]
                  have HLj := Lib.hid hlj
                  clear hlj
                  obtain ⟨b7, cap7, e7, -, hbl7, -, hc7, hf7⟩ := HFj.out.form (by rw [HLj.out]; omega)
                  simp only [Value.slice.injEq, Option.some.injEq, Addr.mk.injEq, and_true] at e7
                  obtain ⟨rfl, -⟩ := e7
                  have d0 := hc7 p (by rw [HLj.out]; exact hpk)
                  have g0 := hf7 p
                  clear hc7 hf7
                  have HSo := Lib.hid ((show IRow wr w1.heap.size (.slice (some ⟨bs, 0, none⟩) (Pr.sh A xs j).length k) (Pr.sh A xs j) by rw [HLj.out]; exact HFj.out).store p ((Pr.sh A xs j).getD p 0 + 1))
                  generalize (Pr.sh A xs j).getD p 0 = y at d0 s0 s1 HSo HSj
                  have hp2 : (p : Int) < k := by omega
                  have hjl2 : (j : Int) < L := by omega
                  go_wp2_with fail
                  go_roundw
                  case rel =>
                    refine ⟨j + 1, by omega, by go_num, ?_, Lib.hid (grownS HGj.out HSo.out.2)⟩
                    have h := HSo.out.1
                    rw [List.length_set, HLj.out, ← HSj.out] at h
                    exact Lib.hid h
                  case measure => simp [intOf]; omega
                · obtain rfl : j = L := by omega
                  have hbs := (World.ownsRow.lt HFj.out bs rfl).1
                  have HBj := Lib.hid (HB5.out.grown HGj.out HB5.out.size (fun i hi => by injection hi with hi; omega))
                  go_wp2_with fail
                  go_ret
                  refine ⟨_, rfl, ?_, HBj.out⟩
                  rw [E.out, HOut.out]
                  have h := HFj.out.lower hsz1
                  rw [← show (Pr.sh A xs j).length = k by rw [HSL.out, HN2.out]] at h
                  rw [← show (Pr.sh A xs j).length = k by rw [HSL.out, HN2.out]]
                  exact h
end Go.Proofs.Ytgkldgljebhcgaa
