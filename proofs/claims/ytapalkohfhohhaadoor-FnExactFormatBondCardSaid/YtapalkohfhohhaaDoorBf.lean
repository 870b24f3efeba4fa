/- The texts of bonds, on both sides. -/
import Derived.Test.YtapalkohfhohhaaDoorBt
import Derived.Test.YtapalkohfhohhaaDoorBnd
import Derived.Test.YtapalkohfhohhaaDoorDq
namespace Go.Proofs.YtapalkohfhohhaaDoor
open Go.RowKit
abbrev bdA (s e m r : Int) : Array Value := #[.int .i64 s, .int .i64 e, .int .i64 m, .int .i64 r]
abbrev bdV (s e m r : Int) : Value := .agg (bdA s e m r)
theorem vbT {s e m r : Int} (h : vbB s e m r = true) : (0 ≤ s ∧ s < e ∧ e ≤ 36524) ∧ (1 ≤ m ∧ m ≤ 12) ∧ (0 ≤ r ∧ r ≤ 3000) := by
  unfold vbB at h
  have h0 := of_decide_eq_true h
  have hne : perL s e m r ≠ [] := fun k => by rw [k] at h0; simp at h0
  have hr : btw r 0 3000 = true := by
    unfold perL at hne
    split at hne
    · assumption
    · exact absurd rfl hne
  unfold perL at hne
  rw [if_pos hr] at hne
  have ok : Sc.okB s e m = true := by
    cases q : Sc.okB s e m with
    | true => rfl
    | false => exact absurd (Sc.sch_no1 q) hne
  have k := Sc.okB_iff.1 ok
  exact ⟨k.1, Sc.mon_bd k.2, btw_iff.1 hr⟩
/-- The text of a day's date. -/
noncomputable def Dy (n : Int) : List UInt8 := Dt.txt (Cal.Y n).toNat (Cal.M n).toNat (Cal.D n).toNat
theorem vld_of {n : Int} (h0 : 0 ≤ n) (h1 : n ≤ 36524) : vldB (Cal.Y n) (Cal.M n) (Cal.D n) = true := vldB_iff.2 (Cal.vld_dt h0 h1)
theorem Dy.len {n : Int} (h0 : 0 ≤ n) (h1 : n ≤ 36524) : (Dy n).length = 10 := by
  have := Cal.Y_bd h0 h1
  exact Dt.txt_len (by omega) (by omega)
/-- The text of a bond, if it is valid. -/
noncomputable def Bt.fmt (s e m r : Int) : List UInt8 := if vbB s e m r = true then Bt.txt r.toNat (Dy s) (Dy e) m.toNat else []
theorem Bt.fmt_no {s e m r : Int} (h : vbB s e m r = false) : Bt.fmt s e m r = [] := if_neg (by rw [h]; simp)
theorem Bt.fmt_yes {s e m r : Int} (h : vbB s e m r = true) : Bt.fmt s e m r = Bt.txt r.toNat (Dy s) (Dy e) m.toNat := if_pos h
set_option maxHeartbeats 400000 in
theorem percent_any (r : Int) (w : World) (hP : TabP w) (h0 : 0 ≤ r) (h1 : r ≤ 3000) :
    Calls Tryd.prog 51 #[.int .i64 r] w fun e w' => e = .returned (str (Bt.rt r.toNat)) ∧ Below w.heap.size w w' := by
  have hgw := hP.lt
  have HP := Lib.hid hP; clear hP
  have IY := Lib.hid (fun W hW => itoa_any (r / 100) W hW (by omega) (by omega))
  have IM := Lib.hid (fun W hW => twoD_any (r % 100) W hW (by omega) (by omega))
  obtain ⟨A, hA⟩ : ∃ A, Lib.decDigits (r / 100).toNat = A := ⟨_, rfl⟩
  obtain ⟨B, hB⟩ : ∃ B, two (r % 100).toNat = B := ⟨_, rfl⟩
  obtain ⟨S1, h1'⟩ : ∃ s, s = A ++ [46] := ⟨_, rfl⟩
  obtain ⟨S2, h2'⟩ : ∃ s, s = S1 ++ B := ⟨_, rfl⟩
  have E := Lib.hid (show Bt.rt r.toNat = S2 by unfold Bt.rt; rw [h2', h1', ← hA, ← hB, show (r / 100).toNat = r.toNat / 100 by omega, show (r % 100).toNat = r.toNat % 100 by omega]; simp)
  have lA : A.length ≤ 10 := by rw [← hA]; exact dec_len9 (by omega)
  have lB : B.length = 2 := by rw [← hB]; rfl
  have l1 : S1.length ≤ 11 := by rw [h1']; simp; omega
  have A1 := fun W => add_str W (x := A) (y := [46]) (by omega) (by simp) h1'.symm
  have A2 := fun W => add_str W (x := S1) (y := B) (by omega) (by omega) h2'.symm
  have q1 : r.tdiv 100 = r / 100 := by rw [Int.tdiv_eq_ediv_of_nonneg h0]
  have q2 : r.tmod 100 = r % 100 := by rw [Int.tmod_eq_emod_of_nonneg h0]
  rw [hA] at IY
  rw [hB] at IM
  clear hA hB lA lB h1' h2' l1
  go_enter Tryd.func51, Tryd.ntmps51
  go_wp2_with fail
  refine (IY.out _ HP.out).mono ?_
  rintro e w1 ⟨rfl, hb⟩
  have HP1 := HP.out.below hb hgw
  go_wp2_with fail
  refine (IM.out _ HP1).mono ?_
  rintro e w2 ⟨rfl, hb2⟩
  have hb3 := hb.trans (hb2.mono hb.size)
  go_wp2_with fail
  go_ret
  exact ⟨by rw [E.out]; rfl, hb3⟩
set_option maxHeartbeats 400000 in
theorem dayText_any (n : Int) (w : World) (hT : Tab w) (hP : TabP w) (h0 : 0 ≤ n) (h1 : n ≤ 36524) :
    Calls Tryd.prog 52 #[.int .i64 n] w fun e w' => e = .returned (str (Dy n)) ∧ Below w.heap.size w w' := by
  have hgw := hP.lt
  have g0 := hT.pos
  have HT := Lib.hid hT
  have HP := Lib.hid hP
  have DO := Lib.hid (dateOf_yes n w hT (btw_iff.2 ⟨h0, h1⟩))
  have FM := Lib.hid (fun W hT hP => fmtD_any (Cal.Y n) (Cal.M n) (Cal.D n) W hT hP)
  rw [Dt.fmt_yes (vld_of h0 h1)] at FM
  obtain ⟨F, hF⟩ : ∃ F, Dy n = F := ⟨_, rfl⟩
  rw [show Dt.txt (Cal.Y n).toNat (Cal.M n).toNat (Cal.D n).toNat = F from hF] at FM
  rw [hF]
  obtain ⟨y, hy⟩ : ∃ y, Cal.Y n = y := ⟨_, rfl⟩
  obtain ⟨m, hm⟩ : ∃ y, Cal.M n = y := ⟨_, rfl⟩
  obtain ⟨d, hd⟩ : ∃ y, Cal.D n = y := ⟨_, rfl⟩
  rw [hy, hm, hd] at FM DO
  clear hT hP hF hy hm hd
  go_enter Tryd.func52, Tryd.ntmps52
  go_wp2_with fail
  refine (DO.out).mono ?_
  rintro e w1 ⟨rfl, hb⟩
  have K := ((Kp.refl w).below hb).new 24 (dtA y m d)
  clear hb
  obtain ⟨x0, x1, x2⟩ := K.d1
  go_wp2_with fail
  have hb2 := K.1
  refine (FM.out _ (HT.out.below hb2 g0) (HP.out.below hb2 hgw)).mono ?_
  rintro e w2 ⟨rfl, hb⟩
  have hb3 := hb2.trans (hb.mono hb2.size)
  go_wp2_with fail
  go_ret
  exact ⟨rfl, hb3⟩
theorem join4 {W : World} {b : Nat} {x y z u : List UInt8} (c : UInt8) (k : Blk W b 9 #[str x, str y, str z, str u]) (hl : x.length + y.length + z.length + u.length ≤ 1000000) :
    Calls Tryd.prog 35 #[.slice (some ⟨b, 0, none⟩) 4 4, str [c]] W fun e w' => e = .returned (str (x ++ (c :: (y ++ (c :: (z ++ (c :: u))))))) ∧ Below W.heap.size W w' := by
  have hj : Lib.join ([ByteArray.mk x.toArray, ByteArray.mk y.toArray, ByteArray.mk z.toArray, ByteArray.mk u.toArray].map (·.data.toList)) (ByteArray.mk [c].toArray).data.toList = x ++ (c :: (y ++ (c :: (z ++ (c :: u))))) := by
    simp only [List.map_cons, List.map_nil]
    rw [Lib.join_cons]
    simp [Lib.joinTail]
  have := Tryd.strings_Join b 0 4 [ByteArray.mk x.toArray, ByteArray.mk y.toArray, ByteArray.mk z.toArray, ByteArray.mk u.toArray] (ByteArray.mk [c].toArray) W (fun j u hu => by
    unfold Blk at k
    rcases j with _ | _ | _ | _ | j
    · simp at hu; subst hu; simp [World.cell?, k]
    · simp at hu; subst hu; simp [World.cell?, k]
    · simp at hu; subst hu; simp [World.cell?, k]
    · simp at hu; subst hu; simp [World.cell?, k]
    · simp at hu) k.lt (by simp) (by simp) (by rw [hj]; simp; omega)
  rw [hj] at this
  exact this
abbrev BdS (b : Nat) (s e m r : Int) (w : World) : Prop := w.cell? ⟨b, 0, none⟩ = some (.int .i64 s) ∧ w.cell? ⟨b, 1, none⟩ = some (.int .i64 e) ∧ w.cell? ⟨b, 2, none⟩ = some (.int .i64 m) ∧ w.cell? ⟨b, 3, none⟩ = some (.int .i64 r)
theorem Kp.b1 {w W : World} {l : List (Nat × TypeId × Array Value)} {b : Nat} {T : TypeId} {s e m r : Int} (k : Kp w ((b, T, bdA s e m r) :: l) W) : BdS b s e m r W := k.first.four
set_option maxHeartbeats 2000000 in
theorem fmtB_any (s e m r : Int) (w : World) (hT : Tab w) (hP : TabP w) :
    Calls Tryd.prog 23 #[bdV s e m r] w fun x w' => x = .returned (str (Bt.fmt s e m r)) ∧ Below w.heap.size w w' := by
  have h0 := hT.pos
  have HT := Lib.hid hT; clear hT
  have hgw := hP.lt
  have HP := Lib.hid hP; clear hP
  have K := (Kp.refl w).new 35 (bdA s e m r)
  obtain ⟨x0, x1, x2, x3⟩ := K.b1
  have VM := Lib.hid (validBond_any s e m r _ (HT.out.below K.1 h0))
  cases h : vbB s e m r with
  | false =>
    rw [Bt.fmt_no h]
    rw [h] at VM
    clear h
    go_enter Tryd.func23, Tryd.ntmps23
    go_wp2_with fail
    refine (VM.out).mono ?_
    rintro e w1 ⟨rfl, hb⟩
    replace K := K.below hb
    clear hb x0 x1 x2 x3
    go_wp2_with fail
    go_ret
    exact ⟨rfl, K.1⟩
  | true =>
    obtain ⟨⟨s0, s1, e1⟩, ⟨m0, m1⟩, r0, r1⟩ := vbT h
    have IR := Lib.hid (fun W hP => percent_any r W hP (by omega) (by omega))
    have IS := Lib.hid (fun W hT hP => dayText_any s W hT hP (by omega) (by omega))
    have IE := Lib.hid (fun W hT hP => dayText_any e W hT hP (by omega) (by omega))
    have IM := Lib.hid (fun W hW => itoa_any m W hW (by omega) (by omega))
    obtain ⟨A, hA⟩ : ∃ A, Bt.rt r.toNat = A := ⟨_, rfl⟩
    obtain ⟨B, hB⟩ : ∃ B, Dy s = B := ⟨_, rfl⟩
    obtain ⟨C, hC⟩ : ∃ C, Dy e = C := ⟨_, rfl⟩
    obtain ⟨D, hD⟩ : ∃ D, Lib.decDigits m.toNat = D := ⟨_, rfl⟩
    have E := Lib.hid (show Bt.fmt s e m r = A ++ (32 :: (B ++ (32 :: (C ++ (32 :: D))))) by rw [Bt.fmt_yes h, ← hA, ← hB, ← hC, ← hD]; rfl)
    have lA : A.length ≤ 5 := by rw [← hA]; exact (Bt.rt_len (by omega)).2
    have lB : B.length = 10 := by rw [← hB]; exact Dy.len (by omega) (by omega)
    have lC : C.length = 10 := by rw [← hC]; exact Dy.len (by omega) (by omega)
    have lD : D.length ≤ 10 := by rw [← hD]; exact dec_len9 (by omega)
    rw [hA] at IR
    rw [hB] at IS
    rw [hC] at IE
    rw [hD] at IM
    rw [h] at VM
    have HJ := Lib.hid (fun (W : World) (b : Nat) (k : Blk W b 9 #[str A, str B, str C, str D]) => join4 32 k (by omega))
    clear h hA hB hC hD lA lB lC lD s0 s1 e1 m0 m1 r0 r1
    go_enter Tryd.func23, Tryd.ntmps23
    go_wp2_with fail
    refine (VM.out).mono ?_
    rintro e w1 ⟨rfl, hb⟩
    replace K := K.below hb
    clear hb x0 x1 x2 x3
    obtain ⟨x0, x1, x2, x3⟩ := K.b1
    go_wp2_with fail
    go_region_held3 (BdS w.heap.size s e m r) (first | with_reducible exact K.drew.b1 | with_reducible exact K1.b1 | with_reducible exact K2.b1 | with_reducible exact K3.b1 | with_reducible exact K4.b1 | with_reducible exact (K4.alloc _).b1 | with_reducible exact K5.b1 | fail "nokeep") (first | ((go_at_call 51; (with_reducible refine (IR.out _ (HP.out.below K.drew.bl hgw)).mono ?_); rintro e w2 ⟨rfl, hb2⟩; have K1 := K.drew.below hb2)) | ((go_at_call 52; (with_reducible refine (IS.out _ (HT.out.below K1.bl h0) (HP.out.below K1.bl hgw)).mono ?_); rintro e w3 ⟨rfl, hb3⟩; have K2 := K1.below hb3)) | ((go_at_call 52; (with_reducible refine (IE.out _ (HT.out.below K2.bl h0) (HP.out.below K2.bl hgw)).mono ?_); rintro e w4 ⟨rfl, hb4⟩; have K3 := K2.below hb4)) | ((go_at_call 36; (with_reducible refine (IM.out _ (HP.out.below K3.bl hgw)).mono ?_); rintro e w5 ⟨rfl, hb5⟩; have K4 := K3.below hb5)) | ((go_at_call 35; (with_reducible refine (HJ.out _ _ (Blk.new _ _ _)).mono ?_); rintro e w6 ⟨rfl, hb6⟩; have K5 := (K4.alloc _).below hb6)))
    all_goals
      go_wp2_with fail
      go_ret
      exact ⟨by rw [E.out]; rfl, K5.1⟩
set_option maxHeartbeats 2000000 in
theorem sfmtB0_any (s e m r : Int) (w : World) (h : vbB s e m r = true) :
    Calls Tryd.prog 54 #[bdV s e m r] w fun x w' => x = .returned (str (Bt.txt r.toNat (Dy s) (Dy e) m.toNat)) ∧ Below w.heap.size w w' := by
  have K := (Kp.refl w).new 35 (bdA s e m r)
  obtain ⟨x0, x1, x2, x3⟩ := K.b1
  obtain ⟨⟨s0, s1, e1⟩, ⟨m0, m1⟩, r0, r1⟩ := vbT h
  have q1 : r.tdiv 100 = r / 100 := by rw [Int.tdiv_eq_ediv_of_nonneg r0]
  have q2 : r.tmod 100 = r % 100 := by rw [Int.tmod_eq_emod_of_nonneg r0]
  have q3 : IntKind.i64.wrap (r / 100) = r / 100 := by rw [IntKind.wrap_i64]; omega
  have IR := Lib.hid (fun W => sfmt_any (r / 100).toNat (r / 100) W (by omega) (by omega) (Nat.le_refl _))
  have IT := Lib.hid (fun W => stwo_any (r % 100) W (by omega) (by omega))
  have DS := Lib.hid (fun W => sDateOf_any s W (by omega) (by omega))
  have DE := Lib.hid (fun W => sDateOf_any e W (by omega) (by omega))
  have FS := Lib.hid (fun W => sfmtD0_any _ _ _ W (vld_of (n := s) (by omega) (by omega)))
  have FE := Lib.hid (fun W => sfmtD0_any _ _ _ W (vld_of (n := e) (by omega) (by omega)))
  have IM := Lib.hid (fun W => sfmt_any m.toNat m W (by omega) (by omega) (Nat.le_refl _))
  obtain ⟨A, hA⟩ : ∃ A, Lib.decDigits (r / 100).toNat = A := ⟨_, rfl⟩
  obtain ⟨A', hA'⟩ : ∃ A, two (r % 100).toNat = A := ⟨_, rfl⟩
  obtain ⟨B, hB⟩ : ∃ B, Dy s = B := ⟨_, rfl⟩
  obtain ⟨C, hC⟩ : ∃ C, Dy e = C := ⟨_, rfl⟩
  obtain ⟨D, hD⟩ : ∃ D, Lib.decDigits m.toNat = D := ⟨_, rfl⟩
  obtain ⟨S1, h1⟩ : ∃ s, s = A ++ [46] := ⟨_, rfl⟩
  obtain ⟨S2, h2⟩ : ∃ s, s = S1 ++ A' := ⟨_, rfl⟩
  obtain ⟨S3, h3⟩ : ∃ s, s = S2 ++ [32] := ⟨_, rfl⟩
  obtain ⟨S4, h4⟩ : ∃ s, s = S3 ++ B := ⟨_, rfl⟩
  obtain ⟨S5, h5⟩ : ∃ s, s = S4 ++ [32] := ⟨_, rfl⟩
  obtain ⟨S6, h6⟩ : ∃ s, s = S5 ++ C := ⟨_, rfl⟩
  obtain ⟨S7, h7⟩ : ∃ s, s = S6 ++ [32] := ⟨_, rfl⟩
  obtain ⟨S8, h8⟩ : ∃ s, s = S7 ++ D := ⟨_, rfl⟩
  have E := Lib.hid (show Bt.txt r.toNat (Dy s) (Dy e) m.toNat = S8 by
    unfold Bt.txt Bt.rt
    rw [hB, hC, hD, h8, h7, h6, h5, h4, h3, h2, h1, ← hA, ← hA', show (r / 100).toNat = r.toNat / 100 by omega, show (r % 100).toNat = r.toNat % 100 by omega]
    simp)
  have lA : A.length ≤ 10 := by rw [← hA]; exact dec_len9 (by omega)
  have lA' : A'.length = 2 := by rw [← hA']; rfl
  have lB : B.length = 10 := by rw [← hB]; exact Dy.len (by omega) (by omega)
  have lC : C.length = 10 := by rw [← hC]; exact Dy.len (by omega) (by omega)
  have lD : D.length ≤ 10 := by rw [← hD]; exact dec_len9 (by omega)
  have l1 : S1.length ≤ 11 := by rw [h1]; simp; omega
  have l2 : S2.length ≤ 13 := by rw [h2]; simp; omega
  have l3 : S3.length ≤ 14 := by rw [h3]; simp; omega
  have l4 : S4.length ≤ 24 := by rw [h4]; simp; omega
  have l5 : S5.length ≤ 25 := by rw [h5]; simp; omega
  have l6 : S6.length ≤ 35 := by rw [h6]; simp; omega
  have l7 : S7.length ≤ 36 := by rw [h7]; simp; omega
  have A1 := fun W => add_str W (x := A) (y := [46]) (by omega) (by simp) h1.symm
  have A2 := fun W => add_str W (x := S1) (y := A') (by omega) (by omega) h2.symm
  have A3 := fun W => add_str W (x := S2) (y := [32]) (by omega) (by simp) h3.symm
  have A4 := fun W => add_str W (x := S3) (y := B) (by omega) (by omega) h4.symm
  have A5 := fun W => add_str W (x := S4) (y := [32]) (by omega) (by simp) h5.symm
  have A6 := fun W => add_str W (x := S5) (y := C) (by omega) (by omega) h6.symm
  have A7 := fun W => add_str W (x := S6) (y := [32]) (by omega) (by simp) h7.symm
  have A8 := fun W => add_str W (x := S7) (y := D) (by omega) (by omega) h8.symm
  rw [hA] at IR
  rw [hA'] at IT
  rw [show Dt.txt (Cal.Y s).toNat (Cal.M s).toNat (Cal.D s).toNat = B from hB] at FS
  rw [show Dt.txt (Cal.Y e).toNat (Cal.M e).toNat (Cal.D e).toNat = C from hC] at FE
  rw [hD] at IM
  generalize Cal.Y s = ys at *
  generalize Cal.M s = ms at *
  generalize Cal.D s = ds at *
  generalize Cal.Y e = ye at *
  generalize Cal.M e = me at *
  generalize Cal.D e = de at *
  clear h hA hA' hB hC hD lA lA' lB lC lD h1 h2 h3 h4 h5 h6 h7 h8 l1 l2 l3 l4 l5 l6 l7 s0 s1 e1 m0 m1 r0 r1
  go_enter Tryd.func54, Tryd.ntmps54
  go_wp2_with fail
  go_region_held3 (BdS w.heap.size s e m r) (first | with_reducible exact K.drew.b1 | with_reducible exact K1.b1 | with_reducible exact K2.b1 | with_reducible exact K3.b1 | with_reducible exact K4.b1 | with_reducible exact K5.b1 | with_reducible exact K6.b1 | with_reducible exact K7.b1 | fail "nokeep") (first | ((go_at_call 69; (with_reducible refine (IR.out _).mono ?_); rintro e w2 ⟨rfl, hb2⟩; have K1 := K.drew.below hb2)) | ((go_at_call 70; (with_reducible refine (IT.out _).mono ?_); rintro e w3 ⟨rfl, hb3⟩; have K2 := K1.below hb3)) | ((go_at_call 60; (with_reducible refine (DS.out _).mono ?_); rintro e w4 ⟨rfl, hb4⟩; have K3 := K2.below hb4)) | ((go_at_call 39; (with_reducible refine (FS.out _).mono ?_); rintro e w5 ⟨rfl, hb5⟩; have K4 := K3.below hb5)) | ((go_at_call 60; (with_reducible refine (DE.out _).mono ?_); rintro e w6 ⟨rfl, hb6⟩; have K5 := K4.below hb6)) | ((go_at_call 39; (with_reducible refine (FE.out _).mono ?_); rintro e w7 ⟨rfl, hb7⟩; have K6 := K5.below hb7)) | ((go_at_call 69; (with_reducible refine (IM.out _).mono ?_); rintro e w8 ⟨rfl, hb8⟩; have K7 := K6.below hb8)))
  all_goals
    go_wp2_with fail
    go_ret
    exact ⟨by rw [E.out]; rfl, K7.1⟩
set_option maxHeartbeats 400000 in
theorem sfmtB_any (s e m r : Int) (w : World) :
    Calls Tryd.prog 24 #[bdV s e m r] w fun x w' => x = .returned (str (Bt.fmt s e m r)) ∧ Below w.heap.size w w' := by
  have K := (Kp.refl w).new 35 (bdA s e m r)
  obtain ⟨x0, x1, x2, x3⟩ := K.b1
  have VM := Lib.hid (fun W => sVBond_any s e m r W)
  cases h : vbB s e m r with
  | false =>
    rw [Bt.fmt_no h]
    rw [h] at VM; clear h
    go_enter Tryd.func24, Tryd.ntmps24
    go_wp2_with fail
    refine (VM.out _).mono ?_
    rintro e w1 ⟨rfl, hb⟩
    replace K := K.below hb
    clear hb x0 x1 x2 x3
    go_wp2_with fail
    go_ret
    exact ⟨rfl, K.1⟩
  | true =>
    rw [Bt.fmt_yes h]
    have FM := Lib.hid (fun W => sfmtB0_any s e m r W h)
    rw [h] at VM; clear h
    go_enter Tryd.func24, Tryd.ntmps24
    go_wp2_with fail
    refine (VM.out _).mono ?_
    rintro e w1 ⟨rfl, hb⟩
    replace K := K.below hb
    clear hb x0 x1 x2 x3
    obtain ⟨x0, x1, x2, x3⟩ := K.b1
    go_wp2_with fail
    refine (FM.out _).mono ?_
    rintro e w2 ⟨rfl, hb⟩
    replace K := K.below hb
    clear hb x0 x1 x2 x3
    go_wp2_with fail
    go_ret
    exact ⟨rfl, K.1⟩
set_option maxHeartbeats 1000000 in
theorem exFormatBond (s e m r : Int) (w : World) (hT : Tab w) (hP : TabP w) :
    Calls Tryd.prog 11 #[bdV s e m r] w fun x w' => x = .returned (.bool true) ∧ Below w.heap.size w w' := by
  have K := (Kp.refl w).new 46 (bdA s e m r)
  obtain ⟨x0, x1, x2, x3⟩ := K.b1
  have HT := Lib.hid hT
  have HP := Lib.hid hP
  have hgw := hP.lt
  have h0 := hT.pos
  clear hT hP
  obtain ⟨F, hF⟩ : ∃ F, Bt.fmt s e m r = F := ⟨_, rfl⟩
  have HF := Lib.hid hF; clear hF
  have TM := Lib.hid (fun W => toBond_any s e m r W)
  go_enter Tryd.func11, Tryd.ntmps11
  go_wp2_with fail
  refine (TM.out _).mono ?_
  rintro e w1 ⟨rfl, hb⟩
  replace K := K.below hb
  clear hb x0 x1 x2 x3
  obtain ⟨x0, x1, x2, x3⟩ := K.b1
  go_wp2_with fail
  refine (sfmtB_any _ _ _ _ _).mono ?_
  rw [HF.out]
  rintro e w2 ⟨rfl, hb⟩
  replace K := K.below hb
  clear hb x0 x1 x2 x3
  obtain ⟨x0, x1, x2, x3⟩ := K.b1
  go_wp2_with fail
  refine (TM.out _).mono ?_
  rintro e w3 ⟨rfl, hb⟩
  replace K := K.below hb
  clear hb x0 x1 x2 x3
  go_wp2_with fail
  refine (fmtB_any _ _ _ _ _ (HT.out.below K.1 h0) (HP.out.below K.1 hgw)).mono ?_
  rw [HF.out]
  rintro e w4 ⟨rfl, hb⟩
  replace K := K.below hb
  go_wp2_with fail
  go_ret
  exact ⟨rfl, K.1⟩
end Go.Proofs.YtapalkohfhohhaaDoor
