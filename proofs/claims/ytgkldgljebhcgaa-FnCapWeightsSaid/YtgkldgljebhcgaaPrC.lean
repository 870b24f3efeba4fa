/- Shares in proportion to weights: the model. -/
import Derived.Test.YtgkldgljebhcgaaPrB
namespace Go.Proofs.Ytgkldgljebhcgaa
open Go.RowKit
/-- One number appended; where the row then lies. -/
theorem wpList_pushI (w : World) {ops : Array Oper} {rest : List Oper} {o : Oper} {a : Act} {Q : Exit → Act → World → Prop} (hgd : o.guard = none) (s x : Operand)
    (ho : o.op = .call { callee := .builtin .append, args := #[s, x], argTypes := #[23, 23] })
    (B : Nat) (v : Value) (xs : List Int) (hs : a.eval s = v) (hown : Own w B v xs) (b c : Nat) (y : Int) (hx : a.eval x = .slice (some ⟨b, 0, none⟩) 1 c) (hcell : w.cell? ⟨b, 0, none⟩ = some (.int .i64 y))
    (hl : xs.length + 1 ≤ 1000000) (hB : B ≤ w.heap.size)
    (h : ∀ v' w', Own w' B v' (xs ++ [y]) → w.grownBy w' v.ownBlock → (v'.ownBlock = v.ownBlock ∨ v'.ownBlock = some w.heap.size) → wpList Try.prog ops Q rest (a.put o.dst v') w') : wpList Try.prog ops Q (o :: rest) a w := by
  obtain ⟨i0, hi, hz0, hz1, hz2⟩ := info_parts infoInt
  refine wpList_append_own_at w hgd s x 23 ho B 3 i0 (.int .i64 0) 1 8 Try.underlying23 hi hz0 hz1 hz2 rfl (by decide) v xs.length _ hs hown.1 ⟨b, 0, none⟩ 1 c [.int .i64 y] hx rfl ?_ (ints_oneCell .i64 [y]) (by unfold maxLen; omega) (by omega) hB ?_
  · intro j u hu
    cases j with
    | zero => simp at hu; subst hu; exact hcell
    | succ j => simp at hu
  · intro v' w' h1 h2 h3 h4
    refine h v' w' ⟨by simpa using h1, fun e => ?_⟩ h2 h4
    exact hown.2 (h3.1 e).1
set_option maxHeartbeats 800000 in
theorem stotal_any (w : World) (v : Value) (xs : List Int) (hv : R1o w v xs) (hl : xs.length ≤ 1000) (hx : Small xs) :
    Calls Try.prog 18 #[v] w fun e w' => e = .returned (.int .i64 xs.sum) ∧ w = w' := by
  obtain ⟨⟨a, cap, rfl⟩, h1⟩ := hv
  have H := Lib.hid h1; clear h1
  have HX := Lib.hid hx
  have HS := Lib.hid (Small.take hx)
  clear hx
  have hm : (xs.length : Int) ≤ 1000 := by omega
  go_enter Try.func18, Try.ntmps18
  go_wp2_with fail
  go_loop [3, 4] (fun o y => ∃ k : Nat, k ≤ xs.length ∧ y = .int .i64 k ∧ o = .int .i64 (xs.take k).sum) (fun _ y => xs.length - (intOf y).toNat)
  case atStart => exact ⟨0, Nat.zero_le _, rfl, by simp⟩
  case round =>
    obtain ⟨k, hk, rfl, rfl⟩ := hrel
    obtain ⟨s0, s1⟩ := HS.out k hk
    by_cases hlt : k < xs.length
    · obtain ⟨b, off, c, e, hbb, hc⟩ := H.out (by omega)
      simp only [Value.slice.injEq, true_and] at e
      obtain ⟨rfl, rfl⟩ := e
      have c0 := hc k hlt
      clear hc
      obtain ⟨x0, x1⟩ := HX.out k hlt
      have HT := Lib.hid (show (xs.take (k + 1)).sum = (xs.take k).sum + xs.getD k 0 by rw [take_snoc1 hlt, List.sum_append]; simp)
      generalize xs.getD k 0 = x at c0 x0 x1 HT
      generalize (xs.take k).sum = S at *
      go_wp2_with fail
      go_round
      case rel => exact ⟨k + 1, by omega, by go_num, by rw [HT.out]⟩
      case measure => simp [intOf] <;> omega
    · have E2 : xs.take k = xs := List.take_of_length_le (by omega)
      rw [E2]
      clear E2
      go_wp2_with fail
      go_ret
      exact ⟨rfl, rfl⟩
set_option maxHeartbeats 800000 in
theorem sholders_any (w : World) (v : Value) (xs : List Int) (hv : R1o w v xs) (hm : xs.length ≤ 9223372036854775807) :
    Calls Try.prog 26 #[v] w fun e w' => e = .returned (.bool (Ho.ok xs)) ∧ w = w' := by
  have HA := Lib.hid (allIn_any w v xs 0 9999 hv hm)
  obtain ⟨⟨a, cap, rfl⟩, -⟩ := hv
  have hO : Ho.ok xs = (btw xs.length 1 8 && xs.all holdB) := rfl
  have hA : xs.all holdB = xs.all (fun x => btw x 0 9999) := rfl
  cases h : btw xs.length 1 8 with
  | false =>
    have E := Lib.hid (hO.trans (show _ = false by rw [h, Bool.false_and]))
    go_enter Try.func26, Try.ntmps26
    go_wp2_with fail
    refine (inRange_any _ _ _ _).mono ?_
    rintro e w1 ⟨rfl, rfl⟩
    rw [h]
    go_wp2_with fail
    go_ret
    exact ⟨ret_bool E.out.symm, rfl⟩
  | true =>
    have E := Lib.hid (hO.trans (show _ = xs.all (fun x => btw x 0 9999) by rw [h, hA, Bool.true_and]))
    go_enter Try.func26, Try.ntmps26
    go_wp2_with fail
    refine (inRange_any _ _ _ _).mono ?_
    rintro e w1 ⟨rfl, rfl⟩
    rw [h]
    go_wp2_with fail
    refine HA.out.mono ?_
    rintro e w1 ⟨rfl, rfl⟩
    go_wp2_with fail
    go_ret
    exact ⟨ret_bool E.out.symm, rfl⟩
/-- A row of numbers, not nil, that a call hands back. -/
def HandsN (xs : List Int) (w : World) (e : Ending) (w' : World) : Prop := ∃ v, e = .returned v ∧ Own w' w.heap.size v xs ∧ Below w.heap.size w w'
theorem Pr.fl_take {A : Int} {xs : List Int} {i : Nat} (hi : i < xs.length) : (Pr.fl A xs).take (i + 1) = (Pr.fl A xs).take i ++ [A * xs.getD i 0 / xs.sum] := by
  rw [take_snoc1 (by rw [Pr.fl_len]; exact hi), Pr.fl_at hi]
theorem Pr.rs_take {A : Int} {xs : List Int} {i : Nat} (hi : i < xs.length) : (Pr.rs A xs).take (i + 1) = (Pr.rs A xs).take i ++ [A * xs.getD i 0 % xs.sum] := by
  rw [take_snoc1 (by rw [Pr.rs_len]; exact hi), Pr.rs_at hi]
theorem Own.keptBy {w w' : World} {B : Nat} {v : Value} {xs : List Int} {r : Option Nat} (h : Own w B v xs) (hg : w.grownBy w' r) (hr : ∀ i j, v.ownBlock = some i → r = some j → i ≠ j) : Own w' B v xs :=
  ⟨World.ownsRow.kept h.1 hg (by
    cases hb : v.ownBlock with
    | none => exact .inl rfl
    | some i => exact .inr fun e => hr i i hb e.symm rfl), h.2⟩
theorem below_by {w a b : World} {B : Nat} {r : Option Nat} (h : Below B w a) (hg : a.grownBy b r) (hB : B ≤ a.heap.size) (hr : ∀ k, r = some k → B ≤ k) : Below B w b := h.grown hg hB hr
set_option maxRecDepth 8000 in
set_option maxHeartbeats 8000000 in
theorem sprorate_any (w : World) (A : Int) (v : Value) (xs : List Int) (hv : R1o w v xs) (a0 : 0 ≤ A) (a1 : A ≤ 1000000000) (hall : xs.all holdB = true) (hl : xs.length ≤ 8) (hT : 0 < xs.sum) :
    Calls Try.prog 20 #[.int .i64 A, v] w (HandsN (Pr.out A xs) w) := by
  have ok : Pr.Ok A xs := ⟨a0, fun x hx => (Ho.mem hall x hx).1, hT⟩
  have l0 := Pr.pos_len ok
  have hbA := ((Below.refl w.heap.size w).alloc (Nat.le_refl _) (.cells #[] 3)).alloc (by simp) (.cells #[] 3)
  have hsm : Small xs := fun i hi => by have := Ho.at hall hi; omega
  have ST := Lib.hid (stotal_any ((w.alloc (.cells #[] 3)).alloc (.cells #[] 3)) v xs (hv.below hbA (Nat.le_refl _)) (by omega) hsm)
  have HV := Lib.hid hv
  obtain ⟨⟨a, cap, rfl⟩, -⟩ := hv
  have HO1 : Hid (Own ((w.alloc (.cells #[] 3)).alloc (.cells #[] 3)) w.heap.size (.slice (some ⟨w.heap.size, 0, none⟩) 0 0) []) := Lib.hid ((own_new w).alloc _)
  have HO2 : Hid (Own ((w.alloc (.cells #[] 3)).alloc (.cells #[] 3)) w.heap.size (.slice (some ⟨w.heap.size + 1, 0, none⟩) 0 0) []) := Lib.hid (by
    have h := own_new (w.alloc (.cells #[] 3))
    rw [show (w.alloc (.cells #[] 3)).heap.size = w.heap.size + 1 by simp] at h
    exact ⟨IRow.lower h.1 (by omega), h.2⟩)
  have HBA := Lib.hid hbA
  have hszA : w.heap.size ≤ ((w.alloc (.cells #[] 3)).alloc (.cells #[] 3)).heap.size := by simp; omega
  have HszA := Lib.hid hszA
  clear hbA hsm hszA
  have HXa := Lib.hid (fun i (hi : i < xs.length) => Ho.at hall hi)
  have HFt := Lib.hid (fun i (hi : i < xs.length) => Pr.fl_take (A := A) hi)
  have HRt := Lib.hid (fun i (hi : i < xs.length) => Pr.rs_take (A := A) hi)
  have HFl := Lib.hid (Pr.fl_len A xs)
  have HRl := Lib.hid (Pr.rs_len A xs)
  have HFe := Lib.hid (show ∀ i, xs.length ≤ i → (Pr.fl A xs).take i = Pr.fl A xs from fun i hi => List.take_of_length_le (by rw [Pr.fl_len]; exact hi))
  have HRe := Lib.hid (show ∀ i, xs.length ≤ i → (Pr.rs A xs).take i = Pr.rs A xs from fun i hi => List.take_of_length_le (by rw [Pr.rs_len]; exact hi))
  have HFs := Lib.hid (fun i (hi : i ≤ xs.length) => (show 0 ≤ ((Pr.fl A xs).take i).sum ∧ ((Pr.fl A xs).take i).sum ≤ 1000000000 * (i : Int) from by
    have hnn : ∀ y ∈ (Pr.fl A xs).take i, 0 ≤ y ∧ y ≤ 1000000000 := fun y hy => by
      have hy2 := List.mem_of_mem_take hy
      obtain ⟨j, hj, rfl⟩ := List.mem_iff_getElem.1 hy2
      rw [← Sr.getD_get hj]
      rw [Pr.fl_len] at hj
      have h1 := Pr.fl_nn ok hj
      have h2 := Pr.fl_le ok hj
      omega
    have h2 := Pr.sum_le _ (fun y hy => (hnn y hy).2)
    rw [List.length_take, Pr.fl_len, Nat.min_eq_left hi, Int.mul_comm] at h2
    exact ⟨Pr.sum_nn _ (fun y hy => (hnn y hy).1), h2⟩))
  have HK := Lib.hid ok
  clear ok hall
  obtain ⟨n, hnn⟩ : ∃ n, n = xs.length := ⟨_, rfl⟩
  rw [← hnn] at l0 hl HXa HFt HRt HFl HRl HFe HRe HFs HV ⊢
  have HN := Lib.hid hnn; clear hnn
  go_enter Try.func20, Try.ntmps20
  go_wp2_with fail
  rw [HN.out]
  refine ST.out.mono ?_
  rw [← HN.out]
  rintro e w1 ⟨rfl, rfl⟩
  go_wp2_with fail
  go_loopw [5, 6, 8, 9] (fun o r l x wr => ∃ (i b1 c1 b2 c2 : Nat), i ≤ n ∧ x = .int .i64 i ∧ o = .slice (some ⟨b1, 0, none⟩) i c1 ∧ r = .slice (some ⟨b2, 0, none⟩) i c2 ∧ l = .int .i64 (A - ((Pr.fl A xs).take i).sum) ∧ b1 ≠ b2 ∧
    Hid (Own wr w.heap.size (.slice (some ⟨b1, 0, none⟩) i c1) ((Pr.fl A xs).take i)) ∧ Hid (Own wr w.heap.size (.slice (some ⟨b2, 0, none⟩) i c2) ((Pr.rs A xs).take i)) ∧ Hid (Below w.heap.size w wr)) (fun _ _ _ x _ => n - (intOf x).toNat)
  case atStart => exact ⟨0, _, _, _, _, Nat.zero_le _, rfl, rfl, rfl, by simp, by omega, HO1, HO2, HBA⟩
  case round =>
    obtain ⟨i, b1, c1, b2, c2, hi, rfl, rfl, rfl, rfl, hne, H1, H2, HB⟩ := hrel
    by_cases hlt : i < n
    · obtain ⟨b, off, d', e, hbl, hc⟩ := HV.out.2 (by rw [← HN.out]; omega)
      rw [← HN.out] at e
      simp only [Value.slice.injEq, true_and] at e
      obtain ⟨rfl, rfl⟩ := e
      have c0 := (HB.out.cell (p := ⟨b, off + i, none⟩) hbl).trans (hc i (by rw [← HN.out]; exact hlt))
      obtain ⟨x0, x1⟩ := HXa.out i hlt
      have hft := HFt.out i hlt
      have hrt := HRt.out i hlt
      obtain ⟨f0, f1⟩ := HFs.out i hi
      obtain ⟨f2, f3⟩ := HFs.out (i + 1) (by omega)
      have HC := Lib.hid (fun W (hW : Below w.heap.size w W) => (hW.cell (p := ⟨b, off + i, none⟩) hbl).trans (hc i (by rw [← HN.out]; exact hlt)))
      clear hc
      generalize xs.getD i 0 = x at c0 x0 x1 hft hrt HC
      generalize xs.sum = T at *
      have hl1 : ((Pr.fl A xs).take i).length = i := by rw [List.length_take, HFl.out]; omega
      have hl2 : ((Pr.rs A xs).take i).length = i := by rw [List.length_take, HRl.out]; omega
      have hsum : ((Pr.fl A xs).take (i + 1)).sum = ((Pr.fl A xs).take i).sum + A * x / T := by rw [hft, List.sum_append]; simp
      rw [hsum] at f2 f3
      have HSum := Lib.hid hsum
      have HFt1 := Lib.hid hft
      have HRt1 := Lib.hid hrt
      clear hsum hft hrt
      generalize ((Pr.fl A xs).take i).sum = S at f0 f1 f2 f3 HSum
      have hq1 : A * x ≤ 1000000000 * 9999 := Int.mul_le_mul a1 x1 x0 (by omega)
      have hq0 : 0 ≤ A * x := Int.mul_nonneg a0 x0
      have hqd : 0 ≤ A * x / T := Int.ediv_nonneg hq0 (by omega)
      have W1 : IntKind.i64.wrap (A * x) = A * x := IntWalk.i64_in _ (by omega)
      have hT2 : T ≠ 0 := by omega
      have hsz := HB.out.size
      have hKN := (Blk.new wr #[.int .i64 (A * x / T)] 3).one0
      have HK1 := Lib.hid hKN
      clear hKN
      obtain ⟨hb1, hb1l⟩ := World.ownsRow.lt H1.out.1 b1 rfl
      obtain ⟨hb2, hb2l⟩ := World.ownsRow.lt H2.out.1 b2 rfl
      have HB5 := Lib.hid (fun (w5 : World) (hg : (wr.alloc (.cells #[.int .i64 (A * x / T)] 3)).grownBy w5 (some b1)) => below_by (HB.out.alloc hsz (.cells #[.int .i64 (A * x / T)] 3)) hg (by simp; omega) (fun k hk => by injection hk with hk; omega))
      have H25 := Lib.hid (fun (w5 : World) (hg : (wr.alloc (.cells #[.int .i64 (A * x / T)] 3)).grownBy w5 (some b1)) => ((H2.out.alloc (.cells #[.int .i64 (A * x / T)] 3)).keptBy hg (fun p q hp hq => by have hp2 : some b2 = some p := hp; injection hp2; injection hq; omega)).alloc (.cells #[.int .i64 (A * x % T)] 3))
      have HK2 := Lib.hid (fun w5 : World => (Blk.new w5 #[.int .i64 (A * x % T)] 3).one0)
      go_wp2_with (first | (at_builtin; refine wpList_pushI _ rfl _ _ rfl w.heap.size _ ((Pr.fl A xs).take i) rfl (H1.out.alloc _) wr.heap.size _ (A * x / T) rfl HK1.out (by rw [hl1]; omega) (by simp; omega) ?_; intro v5 w5 hown5 hg5 hv5; have hb5 := HB5.out w5 hg5; have c5 := HC.out w5 hb5) | (at_builtin; refine wpList_pushI _ rfl _ _ rfl w.heap.size _ ((Pr.rs A xs).take i) rfl (H25.out w5 hg5) w5.heap.size _ (A * x % T) rfl (HK2.out w5) (by rw [hl2]; omega) (by have := hb5.size; simp; omega) ?_; intro v6 w6 hown6 hg6 hv6))
      have hl15 : ((Pr.fl A xs).take i ++ [A * x / T]).length = i + 1 := by rw [List.length_append, hl1]; rfl
      have hl26 : ((Pr.rs A xs).take i ++ [A * x % T]).length = i + 1 := by rw [List.length_append, hl2]; rfl
      have hg6' : (w5.alloc (.cells #[.int .i64 (A * x % T)] 3)).grownBy w6 (some b2) := hg6
      obtain ⟨b5, c5', e5, -, hl5, -, -⟩ := hown5.form
      obtain ⟨b6, c6', e6, -, -, -, -⟩ := hown6.form
      rw [hl15] at e5
      rw [hl26] at e6
      subst e5
      subst e6
      have hv5' : b5 = b1 ∨ b5 = wr.heap.size + 1 := by
        rcases hv5 with q | q
        · have q2 : some b5 = some b1 := q
          injection q2 with q2; exact .inl q2
        · have q2 : some b5 = some (wr.alloc (.cells #[.int .i64 (A * x / T)] 3)).heap.size := q
          injection q2 with q2; right; rw [q2]; simp
      have hv6' : b6 = b2 ∨ b6 = w5.heap.size + 1 := by
        rcases hv6 with q | q
        · have q2 : some b6 = some b2 := q
          injection q2 with q2; exact .inl q2
        · have q2 : some b6 = some (w5.alloc (.cells #[.int .i64 (A * x % T)] 3)).heap.size := q
          injection q2 with q2; right; rw [q2]; simp
      have hw5 : wr.heap.size < w5.heap.size := by have := hg5.size; simp at this; omega
      have hne5 : b5 ≠ b2 := by omega
      have HO5 := Lib.hid ((hown5.alloc (.cells #[.int .i64 (A * x % T)] 3)).keptBy hg6' (fun p q hp hq => by have hp2 : some b5 = some p := hp; injection hp2; injection hq; omega))
      have HO6 := Lib.hid hown6
      have HB6 := Lib.hid (below_by (hb5.alloc hb5.size (.cells #[.int .i64 (A * x % T)] 3)) hg6' (by have := hb5.size; simp; omega) (fun k hk => by injection hk with hk; omega))
      clear hown5 hown6 hg5 hg6 hg6' hv5 hv6 hb5 c5
      go_roundw
      case rel =>
        refine ⟨i + 1, b5, c5', b6, c6', by omega, by go_num, rfl, rfl, ?_, by omega, ?_, ?_, HB6⟩
        · rw [HSum.out]; congr 1; omega
        · exact Lib.hid (by rw [HFt1.out]; exact HO5.out)
        · exact Lib.hid (by rw [HRt1.out]; exact HO6.out)
      case measure => simp [intOf]; omega
    · obtain rfl : i = n := by omega
      have hneg := hne
      have HF := Lib.hid (show Own wr w.heap.size (.slice (some ⟨b1, 0, none⟩) i c1) (Pr.fl A xs) by have h := H1.out; rw [HFe.out i (Nat.le_refl _)] at h; exact h)
      have HR := Lib.hid (show Own wr w.heap.size (.slice (some ⟨b2, 0, none⟩) i c2) (Pr.rs A xs) by have h := H2.out; rw [HRe.out i (Nat.le_refl _)] at h; exact h)
      rw [HFe.out i (Nat.le_refl _)]
      obtain ⟨L, hL⟩ : ∃ L : Nat, A - (Pr.fl A xs).sum = (L : Int) := ⟨(Pr.left A xs).toNat, by have := Pr.left_nn HK.out; unfold Pr.left at *; omega⟩
      have hLn : L < i := by have := Pr.left_lt HK.out; have := HN.out; unfold Pr.left at *; omega
      have HOut := Lib.hid (show Pr.out A xs = Pr.sh A xs L by unfold Pr.out; rw [show (Pr.left A xs).toNat = L by unfold Pr.left; omega])
      rw [hL]
      have HSL := Lib.hid (fun j => Pr.sh_len A xs j)
      have HSB := Lib.hid (fun j q (hj : j ≤ i) (hq : q < i) => Pr.sh_bd HK.out (j := j) (i := q) (by rw [← HN.out]; exact hj) (by rw [← HN.out]; exact hq))
      have HSt := Lib.hid (show ∀ j, Pr.sh A xs (j + 1) = (Pr.sh A xs j).set ((Sr.ord (Pr.rs A xs)).getD j 0).toNat ((Pr.sh A xs j).getD ((Sr.ord (Pr.rs A xs)).getD j 0).toNat 0 + 1) from fun _ => rfl)
      have HRst := Lib.hid (show ∀ j, Sr.rst (Pr.rs A xs) (Sr.ord (Pr.rs A xs)) (j + 1) = (Sr.rst (Pr.rs A xs) (Sr.ord (Pr.rs A xs)) j).set ((Sr.ord (Pr.rs A xs)).getD j 0).toNat (-1) from fun _ => rfl)
      have HRsl := Lib.hid (fun j => (Sr.rst_len (Pr.rs A xs) (Sr.ord (Pr.rs A xs)) j).trans HRl.out)
      have HIn := Lib.hid (fun j (hj : j < i) => (by have h := Sr.ord_in (rs := Pr.rs A xs) (k := j) (by rw [HRl.out]; exact hj); rw [HRl.out] at h; exact h : 0 ≤ (Sr.ord (Pr.rs A xs)).getD j 0 ∧ (Sr.ord (Pr.rs A xs)).getD j 0 < i))
      have HMx := Lib.hid (fun j (hj : j < i) => (by
        have h := Sr.amax_ord (rs := Pr.rs A xs) (fun q hq => (Pr.rs_in HK.out (by rw [HRl.out] at hq; rw [← HN.out]; exact hq)).1) (k := j) (by rw [HRl.out]; exact hj)
        rw [HRl.out] at h; exact h : Sr.amax (Sr.rst (Pr.rs A xs) (Sr.ord (Pr.rs A xs)) j) (i - 1) = ((Sr.ord (Pr.rs A xs)).getD j 0).toNat))
      have HR2 := Lib.hid (show IRow wr w.heap.size (.slice (some ⟨b2, 0, none⟩) i c2) (Sr.rst (Pr.rs A xs) (Sr.ord (Pr.rs A xs)) 0) from HR.out.1)
      generalize Sr.ord (Pr.rs A xs) = os at HSt HRst HRsl HIn HMx HR2
      generalize Sr.rst (Pr.rs A xs) os = rst at HRst HRsl HMx HR2
      have HF2 := Lib.hid (show IRow wr w.heap.size (.slice (some ⟨b1, 0, none⟩) i c1) (Pr.sh A xs 0) from HF.out.1)
      have HN2 := Lib.hid HN.out.symm
      clear hL HF HR
      go_wp2_with fail
      go_loopw [8] (fun l wr => ∃ j : Nat, j ≤ L ∧ l = .int .i64 ((L : Int) - j) ∧ Hid (IRow wr w.heap.size (.slice (some ⟨b1, 0, none⟩) i c1) (Pr.sh A xs j)) ∧ Hid (IRow wr w.heap.size (.slice (some ⟨b2, 0, none⟩) i c2) (rst j)) ∧ Hid (Below w.heap.size w wr)) (fun l _ => (intOf l).toNat)
      case atStart => exact ⟨0, Nat.zero_le _, by simp, HF2, HR2, HB⟩
      case round =>
        obtain ⟨j, hj, rfl, HFj, HRj, HBj⟩ := hrel
        by_cases hjl : j < L
        · have hgt : (0 : Int) < (L : Int) - j := by omega
          have HRj0 := HRj
          go_wp2_with fail
          have hmx := HMx.out j (by omega)
          obtain ⟨p0, p1⟩ := HIn.out j (by omega)
          have hst := HSt.out j
          have hrs := HRst.out j
          obtain ⟨p, hp⟩ : ∃ p : Nat, os.getD j 0 = p := ⟨(os.getD j 0).toNat, by omega⟩
          rw [hp] at p0 p1 hst hrs hmx
          rw [Int.toNat_natCast] at hst hrs hmx
          have hpn : p < i := by omega
          obtain ⟨s0, s1⟩ := HSB.out j p (by omega) hpn
          have hlj : (Pr.sh A xs j).length = i := by rw [HSL.out, HN2.out]
          have hlr : (rst j).length = i := HRsl.out j
          have HST := Lib.hid hst
          have HRS := Lib.hid hrs
          have HMX := Lib.hid hmx
          have HLJ := Lib.hid hlj
          have HLR := Lib.hid hlr
          have HAM := Lib.hid (fun m => (Sr.amax_is (rst j) m).1)
          have HAS := Lib.hid (show ∀ m, Sr.amax (rst j) (m + 1) = if (rst j).getD (Sr.amax (rst j) m) 0 < (rst j).getD (m + 1) 0 then m + 1 else Sr.amax (rst j) m from fun _ => rfl)
          have HA0 := Lib.hid (show Sr.amax (rst j) 0 = 0 from rfl)
          clear hp hst hrs hmx hlj hlr
          have HSf := Lib.hid (fun W (hW : IRow W w.heap.size (.slice (some ⟨b1, 0, none⟩) i c1) (Pr.sh A xs j)) => (show IRow W w.heap.size (.slice (some ⟨b1, 0, none⟩) (Pr.sh A xs j).length c1) (Pr.sh A xs j) by rw [HLJ.out]; exact hW).store p ((Pr.sh A xs j).getD p 0 + 1))
          have HSr := Lib.hid (fun W (hW : IRow W w.heap.size (.slice (some ⟨b2, 0, none⟩) i c2) (rst j)) => (show IRow W w.heap.size (.slice (some ⟨b2, 0, none⟩) (rst j).length c2) (rst j) by rw [HLR.out]; exact hW).store p (-1))
          obtain ⟨b7, cap7, e7, -, -, -, hc7, hf7⟩ := HFj.out.form (by rw [HLJ.out]; omega)
          simp only [Value.slice.injEq, Option.some.injEq, Addr.mk.injEq, and_true] at e7
          obtain ⟨rfl, -⟩ := e7
          have HD := Lib.hid (hc7 p (by rw [HLJ.out]; exact hpn))
          have HG := Lib.hid (hf7 p)
          obtain ⟨b8, cap8, e8, -, -, -, hc8, hf8⟩ := HRj.out.form (by rw [HLR.out]; omega)
          simp only [Value.slice.injEq, Option.some.injEq, Addr.mk.injEq, and_true] at e8
          obtain ⟨rfl, -⟩ := e8
          have HC8 := Lib.hid (fun q (hq : q < i) => hc8 q (by rw [HLR.out]; exact hq))
          have HG8 := Lib.hid (hf8 p)
          clear hc7 hf7 hc8 hf8
          generalize rst j = R at HRS HMX HLR HAM HAS HA0 HSr HC8 HRj
          go_loopw [11, 12] (fun x y wq => ∃ m : Nat, m + 1 ≤ i ∧ y = .int .i64 ((m : Int) + 1) ∧ x = .int .i64 (Sr.amax R m : Nat) ∧ ∃ q, wq = wr.drewN q) (fun _ y _ => i - (intOf y).toNat)
          case atStart => exact ⟨0, by omega, by go_num, by rw [HA0.out]; rfl, 0, rfl⟩
          case round =>
            obtain ⟨m, hm, rfl, rfl, q, rfl⟩ := hrel
            have hle := HAM.out m
            by_cases hmi : m + 1 < i
            · have d0 := HC8.out (m + 1) hmi
              have d1 := HC8.out (Sr.amax R m) (by omega)
              have has := HAS.out m
              generalize Sr.amax R m = t at hle d1 has
              generalize R.getD (m + 1) 0 = y at d0 has
              generalize R.getD t 0 = z at d1 has
              have hm1 : (m : Int) + 1 < i := by omega
              have hm2 : (0 : Int) ≤ (m : Int) + 1 := by omega
              have ht1 : (t : Int) < i := by omega
              have ht2 : t < i := by omega
              by_cases hzy : z < y
              · rw [if_pos hzy] at has
                have HX := Lib.hid has; clear has
                go_wp2_with fail
                go_quiet (fail)
                go_wp2_with fail
                go_roundw
                case rel => exact ⟨m + 1, by omega, by go_num, by rw [HX.out]; rfl, _, (by first | exact World.drewN_drewN _ _ _ | rfl)⟩
                case measure => simp [intOf]; omega
              · rw [if_neg hzy] at has
                have HX := Lib.hid has; clear has
                go_wp2_with fail
                go_quiet (fail)
                go_wp2_with fail
                go_roundw
                case rel => exact ⟨m + 1, by omega, by go_num, by rw [HX.out], _, (by first | exact World.drewN_drewN _ _ _ | rfl)⟩
                case measure => simp [intOf]; omega
            · have hmx : Sr.amax R m = p := by rw [← HMX.out]; congr 1; omega
              rw [hmx]
              clear hmx hle
              have hnm : ¬ (m : Int) + 1 < i := by omega
              have d0 := HD.out
              have g0 := HG.out
              have d1 := HC8.out p hpn
              have g1 := HG8.out
              have HF3 := Lib.hid (HSf.out (wr.drewN q) (HFj.out.drewN q))
              have HR3 := Lib.hid (HSr.out _ ((HRj.out.drewN q).keptBy HF3.out.2 (fun u hu => by have hu2 : some b2 = some u := hu; injection hu2; omega)))
              have HF4 := Lib.hid (HF3.out.1.keptBy HR3.out.2 (fun u hu => by have hu2 : some b1 = some u := hu; injection hu2; omega))
              have hb1 := (World.ownsRow.lt HFj.out b1 rfl).1
              have hb2 := (World.ownsRow.lt HRj.out b2 rfl).1
              generalize (Pr.sh A xs j).getD p 0 = y at d0 s0 s1 HF3 HR3 HF4 HST
              generalize R.getD p 0 = z at d1
              have HBn := Lib.hid (((belowD HBj.out q).setCell (p := ⟨b1, p, none⟩) hb1 (.int .i64 (y + 1))).setCell (p := ⟨b2, p, none⟩) hb2 (.int .i64 (-1)))
              have hp1 : (p : Int) < i := by omega
              go_wp2_with fail
              go_roundw
              case rel =>
                refine ⟨j + 1, by omega, by congr 1; omega, ?_, ?_, HBn⟩
                · have h := HF4.out
                  rw [List.length_set, HLJ.out, ← HST.out] at h
                  exact Lib.hid h
                · have h := HR3.out.1
                  rw [List.length_set, HLR.out, ← HRS.out] at h
                  exact Lib.hid h
              case measure => simp [intOf]; omega
        · obtain rfl : j = L := by omega
          have hgt : ¬ (0 : Int) < (j : Int) - j := by omega
          have HRes := Lib.hid (show Own wr w.heap.size (.slice (some ⟨b1, 0, none⟩) i c1) (Pr.out A xs) from ⟨by
            rw [HOut.out]
            have h := HFj.out
            rw [← show (Pr.sh A xs j).length = i by rw [HSL.out, HN2.out]] at h
            rw [← show (Pr.sh A xs j).length = i by rw [HSL.out, HN2.out]]
            exact h, by simp⟩)
          go_wp2_with fail
          go_ret
          exact ⟨_, rfl, HRes.out, HBj.out⟩
end Go.Proofs.Ytgkldgljebhcgaa
