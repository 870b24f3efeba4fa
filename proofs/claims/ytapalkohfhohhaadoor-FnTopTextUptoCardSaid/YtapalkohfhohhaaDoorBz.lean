/- The texts of bonds: written and read, by the program and by the model; their laws. -/
import Derived.Test.YtapalkohfhohhaaDoorBnd
import Derived.Test.YtapalkohfhohhaaDoorDq
import Derived.Test.YtapalkohfhohhaaDoorDrawBond
import Derived.Test.YtapalkohfhohhaaDoorProg
import Derived.Below
import Derived.OwnWalk
import Derived.Maps.AppendAt
import Derived.Laws.OwnMore
import Derived.Test.YtapalkohfhohhaaDoorDl
namespace Go.Proofs.YtapalkohfhohhaaDoor
open Go.RowKit
abbrev bdA (s e m r : Int) : Array Value := #[.int .i64 s, .int .i64 e, .int .i64 m, .int .i64 r]
abbrev bdV (s e m r : Int) : Value := .agg (bdA s e m r)
theorem vbT {s e m r : Int} (h : vbB s e m r = true) : (0 ≤ s ∧ s < e ∧ e ≤ 36524) ∧ (1 ≤ m ∧ m ≤ 12) ∧ (0 ≤ r ∧ r ≤ 3000) := by
  unfold vbB at h
  have h0 := of_decide_eq_true h
  have hne : perL s e m r ≠ [] := fun k => by rw [k] at h0; simp at h0
  have hr : btw r 0 3000 = true := by
    unfold perL at hne
    split at hne
    · assumption
    · exact absurd rfl hne
  unfold perL at hne
  rw [if_pos hr] at hne
  have ok : Sc.okB s e m = true := by
    cases q : Sc.okB s e m with
    | true => rfl
    | false => exact absurd (Sc.sch_no1 q) hne
  have k := Sc.okB_iff.1 ok
  exact ⟨k.1, Sc.mon_bd k.2, btw_iff.1 hr⟩
/-- The text of a day's date. -/
noncomputable def Dy (n : Int) : List UInt8 := Dt.txt (Cal.Y n).toNat (Cal.M n).toNat (Cal.D n).toNat
theorem vld_of {n : Int} (h0 : 0 ≤ n) (h1 : n ≤ 36524) : vldB (Cal.Y n) (Cal.M n) (Cal.D n) = true := vldB_iff.2 (Cal.vld_dt h0 h1)
theorem Dy.len {n : Int} (h0 : 0 ≤ n) (h1 : n ≤ 36524) : (Dy n).length = 10 := by
  have := Cal.Y_bd h0 h1
  exact Dt.txt_len (by omega) (by omega)
/-- The text of a bond, if it is valid. -/
noncomputable def Bt.fmt (s e m r : Int) : List UInt8 := if vbB s e m r = true then Bt.txt r.toNat (Dy s) (Dy e) m.toNat else []
theorem Bt.fmt_no {s e m r : Int} (h : vbB s e m r = false) : Bt.fmt s e m r = [] := if_neg (by rw [h]; simp)
theorem Bt.fmt_yes {s e m r : Int} (h : vbB s e m r = true) : Bt.fmt s e m r = Bt.txt r.toNat (Dy s) (Dy e) m.toNat := if_pos h
set_option maxHeartbeats 400000 in
theorem percent_any (r : Int) (w : World) (hP : TabP w) (h0 : 0 ≤ r) (h1 : r ≤ 3000) :
    Calls Tryd.prog 51 #[.int .i64 r] w fun e w' => e = .returned (str (Bt.rt r.toNat)) ∧ Below w.heap.size w w' := by
  have hgw := hP.lt
  have HP := Lib.hid hP; clear hP
  have IY := Lib.hid (fun W hW => itoa_any (r / 100) W hW (by omega) (by omega))
  have IM := Lib.hid (fun W hW => twoD_any (r % 100) W hW (by omega) (by omega))
  obtain ⟨A, hA⟩ : ∃ A, Lib.decDigits (r / 100).toNat = A := ⟨_, rfl⟩
  obtain ⟨B, hB⟩ : ∃ B, two (r % 100).toNat = B := ⟨_, rfl⟩
  obtain ⟨S1, h1'⟩ : ∃ s, s = A ++ [46] := ⟨_, rfl⟩
  obtain ⟨S2, h2'⟩ : ∃ s, s = S1 ++ B := ⟨_, rfl⟩
  have E := Lib.hid (show Bt.rt r.toNat = S2 by unfold Bt.rt; rw [h2', h1', ← hA, ← hB, show (r / 100).toNat = r.toNat / 100 by omega, show (r % 100).toNat = r.toNat % 100 by omega]; simp)
  have lA : A.length ≤ 10 := by rw [← hA]; exact dec_len9 (by omega)
  have lB : B.length = 2 := by rw [← hB]; rfl
  have l1 : S1.length ≤ 11 := by rw [h1']; simp; omega
  have A1 := fun W => add_str W (x := A) (y := [46]) (by omega) (by simp) h1'.symm
  have A2 := fun W => add_str W (x := S1) (y := B) (by omega) (by omega) h2'.symm
  have q1 : r.tdiv 100 = r / 100 := by rw [Int.tdiv_eq_ediv_of_nonneg h0]
  have q2 : r.tmod 100 = r % 100 := by rw [Int.tmod_eq_emod_of_nonneg h0]
  rw [hA] at IY
  rw [hB] at IM
  clear hA hB lA lB h1' h2' l1
  go_enter Tryd.func51, Tryd.ntmps51
  go_wp2_with fail
  refine (IY.out _ HP.out).mono ?_
  rintro e w1 ⟨rfl, hb⟩
  have HP1 := HP.out.below hb hgw
  go_wp2_with fail
  refine (IM.out _ HP1).mono ?_
  rintro e w2 ⟨rfl, hb2⟩
  have hb3 := hb.trans (hb2.mono hb.size)
  go_wp2_with fail
  go_ret
  exact ⟨by rw [E.out]; rfl, hb3⟩
set_option maxHeartbeats 400000 in
theorem dayText_any (n : Int) (w : World) (hT : Tab w) (hP : TabP w) (h0 : 0 ≤ n) (h1 : n ≤ 36524) :
    Calls Tryd.prog 52 #[.int .i64 n] w fun e w' => e = .returned (str (Dy n)) ∧ Below w.heap.size w w' := by
  have hgw := hP.lt
  have g0 := hT.pos
  have HT := Lib.hid hT
  have HP := Lib.hid hP
  have DO := Lib.hid (dateOf_yes n w hT (btw_iff.2 ⟨h0, h1⟩))
  have FM := Lib.hid (fun W hT hP => fmtD_any (Cal.Y n) (Cal.M n) (Cal.D n) W hT hP)
  rw [Dt.fmt_yes (vld_of h0 h1)] at FM
  obtain ⟨F, hF⟩ : ∃ F, Dy n = F := ⟨_, rfl⟩
  rw [show Dt.txt (Cal.Y n).toNat (Cal.M n).toNat (Cal.D n).toNat = F from hF] at FM
  rw [hF]
  obtain ⟨y, hy⟩ : ∃ y, Cal.Y n = y := ⟨_, rfl⟩
  obtain ⟨m, hm⟩ : ∃ y, Cal.M n = y := ⟨_, rfl⟩
  obtain ⟨d, hd⟩ : ∃ y, Cal.D n = y := ⟨_, rfl⟩
  rw [hy, hm, hd] at FM DO
  clear hT hP hF hy hm hd
  go_enter Tryd.func52, Tryd.ntmps52
  go_wp2_with fail
  refine (DO.out).mono ?_
  rintro e w1 ⟨rfl, hb⟩
  have K := ((Kp.refl w).below hb).new 24 (dtA y m d)
  clear hb
  obtain ⟨x0, x1, x2⟩ := K.d1
  go_wp2_with fail
  have hb2 := K.1
  refine (FM.out _ (HT.out.below hb2 g0) (HP.out.below hb2 hgw)).mono ?_
  rintro e w2 ⟨rfl, hb⟩
  have hb3 := hb2.trans (hb.mono hb2.size)
  go_wp2_with fail
  go_ret
  exact ⟨rfl, hb3⟩
theorem join4 {W : World} {b : Nat} {x y z u : List UInt8} (c : UInt8) (k : Blk W b 9 #[str x, str y, str z, str u]) (hl : x.length + y.length + z.length + u.length ≤ 1000000) :
    Calls Tryd.prog 35 #[.slice (some ⟨b, 0, none⟩) 4 4, str [c]] W fun e w' => e = .returned (str (x ++ (c :: (y ++ (c :: (z ++ (c :: u))))))) ∧ Below W.heap.size W w' := by
  have hj : Lib.join ([ByteArray.mk x.toArray, ByteArray.mk y.toArray, ByteArray.mk z.toArray, ByteArray.mk u.toArray].map (·.data.toList)) (ByteArray.mk [c].toArray).data.toList = x ++ (c :: (y ++ (c :: (z ++ (c :: u))))) := by
    simp only [List.map_cons, List.map_nil]
    rw [Lib.join_cons]
    simp [Lib.joinTail]
  have := Tryd.strings_Join b 0 4 [ByteArray.mk x.toArray, ByteArray.mk y.toArray, ByteArray.mk z.toArray, ByteArray.mk u.toArray] (ByteArray.mk [c].toArray) W (fun j u hu => by
    unfold Blk at k
    rcases j with _ | _ | _ | _ | j
    · simp at hu; subst hu; simp [World.cell?, k]
    · simp at hu; subst hu; simp [World.cell?, k]
    · simp at hu; subst hu; simp [World.cell?, k]
    · simp at hu; subst hu; simp [World.cell?, k]
    · simp at hu) k.lt (by simp) (by simp) (by rw [hj]; simp; omega)
  rw [hj] at this
  exact this
abbrev BdS (b : Nat) (s e m r : Int) (w : World) : Prop := w.cell? ⟨b, 0, none⟩ = some (.int .i64 s) ∧ w.cell? ⟨b, 1, none⟩ = some (.int .i64 e) ∧ w.cell? ⟨b, 2, none⟩ = some (.int .i64 m) ∧ w.cell? ⟨b, 3, none⟩ = some (.int .i64 r)
theorem Kp.b1 {w W : World} {l : List (Nat × TypeId × Array Value)} {b : Nat} {T : TypeId} {s e m r : Int} (k : Kp w ((b, T, bdA s e m r) :: l) W) : BdS b s e m r W := k.first.four
set_option maxHeartbeats 2000000 in
theorem fmtB_any (s e m r : Int) (w : World) (hT : Tab w) (hP : TabP w) :
    Calls Tryd.prog 23 #[bdV s e m r] w fun x w' => x = .returned (str (Bt.fmt s e m r)) ∧ Below w.heap.size w w' := by
  have h0 := hT.pos
  have HT := Lib.hid hT; clear hT
  have hgw := hP.lt
  have HP := Lib.hid hP; clear hP
  have K := (Kp.refl w).new 35 (bdA s e m r)
  obtain ⟨x0, x1, x2, x3⟩ := K.b1
  have VM := Lib.hid (validBond_any s e m r _ (HT.out.below K.1 h0))
  cases h : vbB s e m r with
  | false =>
    rw [Bt.fmt_no h]
    rw [h] at VM
    clear h
    go_enter Tryd.func23, Tryd.ntmps23
    go_wp2_with fail
    refine (VM.out).mono ?_
    rintro e w1 ⟨rfl, hb⟩
    replace K := K.below hb
    clear hb x0 x1 x2 x3
    go_wp2_with fail
    go_ret
    exact ⟨rfl, K.1⟩
  | true =>
    obtain ⟨⟨s0, s1, e1⟩, ⟨m0, m1⟩, r0, r1⟩ := vbT h
    have IR := Lib.hid (fun W hP => percent_any r W hP (by omega) (by omega))
    have IS := Lib.hid (fun W hT hP => dayText_any s W hT hP (by omega) (by omega))
    have IE := Lib.hid (fun W hT hP => dayText_any e W hT hP (by omega) (by omega))
    have IM := Lib.hid (fun W hW => itoa_any m W hW (by omega) (by omega))
    obtain ⟨A, hA⟩ : ∃ A, Bt.rt r.toNat = A := ⟨_, rfl⟩
    obtain ⟨B, hB⟩ : ∃ B, Dy s = B := ⟨_, rfl⟩
    obtain ⟨C, hC⟩ : ∃ C, Dy e = C := ⟨_, rfl⟩
    obtain ⟨D, hD⟩ : ∃ D, Lib.decDigits m.toNat = D := ⟨_, rfl⟩
    have E := Lib.hid (show Bt.fmt s e m r = A ++ (32 :: (B ++ (32 :: (C ++ (32 :: D))))) by rw [Bt.fmt_yes h, ← hA, ← hB, ← hC, ← hD]; rfl)
    have lA : A.length ≤ 5 := by rw [← hA]; exact (Bt.rt_len (by omega)).2
    have lB : B.length = 10 := by rw [← hB]; exact Dy.len (by omega) (by omega)
    have lC : C.length = 10 := by rw [← hC]; exact Dy.len (by omega) (by omega)
    have lD : D.length ≤ 10 := by rw [← hD]; exact dec_len9 (by omega)
    rw [hA] at IR
    rw [hB] at IS
    rw [hC] at IE
    rw [hD] at IM
    rw [h] at VM
    have HJ := Lib.hid (fun (W : World) (b : Nat) (k : Blk W b 9 #[str A, str B, str C, str D]) => join4 32 k (by omega))
    clear h hA hB hC hD lA lB lC lD s0 s1 e1 m0 m1 r0 r1
    go_enter Tryd.func23, Tryd.ntmps23
    go_wp2_with fail
    refine (VM.out).mono ?_
    rintro e w1 ⟨rfl, hb⟩
    replace K := K.below hb
    clear hb x0 x1 x2 x3
    obtain ⟨x0, x1, x2, x3⟩ := K.b1
    go_wp2_with fail
    go_region_held3 (BdS w.heap.size s e m r) (first | with_reducible exact K.drew.b1 | with_reducible exact K1.b1 | with_reducible exact K2.b1 | with_reducible exact K3.b1 | with_reducible exact K4.b1 | with_reducible exact (K4.alloc _).b1 | with_reducible exact K5.b1 | fail "nokeep") (first | ((go_at_call 51; (with_reducible refine (IR.out _ (HP.out.below K.drew.bl hgw)).mono ?_); rintro e w2 ⟨rfl, hb2⟩; have K1 := K.drew.below hb2)) | ((go_at_call 52; (with_reducible refine (IS.out _ (HT.out.below K1.bl h0) (HP.out.below K1.bl hgw)).mono ?_); rintro e w3 ⟨rfl, hb3⟩; have K2 := K1.below hb3)) | ((go_at_call 52; (with_reducible refine (IE.out _ (HT.out.below K2.bl h0) (HP.out.below K2.bl hgw)).mono ?_); rintro e w4 ⟨rfl, hb4⟩; have K3 := K2.below hb4)) | ((go_at_call 36; (with_reducible refine (IM.out _ (HP.out.below K3.bl hgw)).mono ?_); rintro e w5 ⟨rfl, hb5⟩; have K4 := K3.below hb5)) | ((go_at_call 35; (with_reducible refine (HJ.out _ _ (Blk.new _ _ _)).mono ?_); rintro e w6 ⟨rfl, hb6⟩; have K5 := (K4.alloc _).below hb6)))
    all_goals
      go_wp2_with fail
      go_ret
      exact ⟨by rw [E.out]; rfl, K5.1⟩
set_option maxHeartbeats 2000000 in
theorem sfmtB0_any (s e m r : Int) (w : World) (h : vbB s e m r = true) :
    Calls Tryd.prog 54 #[bdV s e m r] w fun x w' => x = .returned (str (Bt.txt r.toNat (Dy s) (Dy e) m.toNat)) ∧ Below w.heap.size w w' := by
  have K := (Kp.refl w).new 35 (bdA s e m r)
  obtain ⟨x0, x1, x2, x3⟩ := K.b1
  obtain ⟨⟨s0, s1, e1⟩, ⟨m0, m1⟩, r0, r1⟩ := vbT h
  have q1 : r.tdiv 100 = r / 100 := by rw [Int.tdiv_eq_ediv_of_nonneg r0]
  have q2 : r.tmod 100 = r % 100 := by rw [Int.tmod_eq_emod_of_nonneg r0]
  have q3 : IntKind.i64.wrap (r / 100) = r / 100 := by rw [IntKind.wrap_i64]; omega
  have IR := Lib.hid (fun W => sfmt_any (r / 100).toNat (r / 100) W (by omega) (by omega) (Nat.le_refl _))
  have IT := Lib.hid (fun W => stwo_any (r % 100) W (by omega) (by omega))
  have DS := Lib.hid (fun W => sDateOf_any s W (by omega) (by omega))
  have DE := Lib.hid (fun W => sDateOf_any e W (by omega) (by omega))
  have FS := Lib.hid (fun W => sfmtD0_any _ _ _ W (vld_of (n := s) (by omega) (by omega)))
  have FE := Lib.hid (fun W => sfmtD0_any _ _ _ W (vld_of (n := e) (by omega) (by omega)))
  have IM := Lib.hid (fun W => sfmt_any m.toNat m W (by omega) (by omega) (Nat.le_refl _))
  obtain ⟨A, hA⟩ : ∃ A, Lib.decDigits (r / 100).toNat = A := ⟨_, rfl⟩
  obtain ⟨A', hA'⟩ : ∃ A, two (r % 100).toNat = A := ⟨_, rfl⟩
  obtain ⟨B, hB⟩ : ∃ B, Dy s = B := ⟨_, rfl⟩
  obtain ⟨C, hC⟩ : ∃ C, Dy e = C := ⟨_, rfl⟩
  obtain ⟨D, hD⟩ : ∃ D, Lib.decDigits m.toNat = D := ⟨_, rfl⟩
  obtain ⟨S1, h1⟩ : ∃ s, s = A ++ [46] := ⟨_, rfl⟩
  obtain ⟨S2, h2⟩ : ∃ s, s = S1 ++ A' := ⟨_, rfl⟩
  obtain ⟨S3, h3⟩ : ∃ s, s = S2 ++ [32] := ⟨_, rfl⟩
  obtain ⟨S4, h4⟩ : ∃ s, s = S3 ++ B := ⟨_, rfl⟩
  obtain ⟨S5, h5⟩ : ∃ s, s = S4 ++ [32] := ⟨_, rfl⟩
  obtain ⟨S6, h6⟩ : ∃ s, s = S5 ++ C := ⟨_, rfl⟩
  obtain ⟨S7, h7⟩ : ∃ s, s = S6 ++ [32] := ⟨_, rfl⟩
  obtain ⟨S8, h8⟩ : ∃ s, s = S7 ++ D := ⟨_, rfl⟩
  have E := Lib.hid (show Bt.txt r.toNat (Dy s) (Dy e) m.toNat = S8 by
    unfold Bt.txt Bt.rt
    rw [hB, hC, hD, h8, h7, h6, h5, h4, h3, h2, h1, ← hA, ← hA', show (r / 100).toNat = r.toNat / 100 by omega, show (r % 100).toNat = r.toNat % 100 by omega]
    simp)
  have lA : A.length ≤ 10 := by rw [← hA]; exact dec_len9 (by omega)
  have lA' : A'.length = 2 := by rw [← hA']; rfl
  have lB : B.length = 10 := by rw [← hB]; exact Dy.len (by omega) (by omega)
  have lC : C.length = 10 := by rw [← hC]; exact Dy.len (by omega) (by omega)
  have lD : D.length ≤ 10 := by rw [← hD]; exact dec_len9 (by omega)
  have l1 : S1.length ≤ 11 := by rw [h1]; simp; omega
  have l2 : S2.length ≤ 13 := by rw [h2]; simp; omega
  have l3 : S3.length ≤ 14 := by rw [h3]; simp; omega
  have l4 : S4.length ≤ 24 := by rw [h4]; simp; omega
  have l5 : S5.length ≤ 25 := by rw [h5]; simp; omega
  have l6 : S6.length ≤ 35 := by rw [h6]; simp; omega
  have l7 : S7.length ≤ 36 := by rw [h7]; simp; omega
  have A1 := fun W => add_str W (x := A) (y := [46]) (by omega) (by simp) h1.symm
  have A2 := fun W => add_str W (x := S1) (y := A') (by omega) (by omega) h2.symm
  have A3 := fun W => add_str W (x := S2) (y := [32]) (by omega) (by simp) h3.symm
  have A4 := fun W => add_str W (x := S3) (y := B) (by omega) (by omega) h4.symm
  have A5 := fun W => add_str W (x := S4) (y := [32]) (by omega) (by simp) h5.symm
  have A6 := fun W => add_str W (x := S5) (y := C) (by omega) (by omega) h6.symm
  have A7 := fun W => add_str W (x := S6) (y := [32]) (by omega) (by simp) h7.symm
  have A8 := fun W => add_str W (x := S7) (y := D) (by omega) (by omega) h8.symm
  rw [hA] at IR
  rw [hA'] at IT
  rw [show Dt.txt (Cal.Y s).toNat (Cal.M s).toNat (Cal.D s).toNat = B from hB] at FS
  rw [show Dt.txt (Cal.Y e).toNat (Cal.M e).toNat (Cal.D e).toNat = C from hC] at FE
  rw [hD] at IM
  generalize Cal.Y s = ys at *
  generalize Cal.M s = ms at *
  generalize Cal.D s = ds at *
  generalize Cal.Y e = ye at *
  generalize Cal.M e = me at *
  generalize Cal.D e = de at *
  clear h hA hA' hB hC hD lA lA' lB lC lD h1 h2 h3 h4 h5 h6 h7 h8 l1 l2 l3 l4 l5 l6 l7 s0 s1 e1 m0 m1 r0 r1
  go_enter Tryd.func54, Tryd.ntmps54
  go_wp2_with fail
  go_region_held3 (BdS w.heap.size s e m r) (first | with_reducible exact K.drew.b1 | with_reducible exact K1.b1 | with_reducible exact K2.b1 | with_reducible exact K3.b1 | with_reducible exact K4.b1 | with_reducible exact K5.b1 | with_reducible exact K6.b1 | with_reducible exact K7.b1 | fail "nokeep") (first | ((go_at_call 69; (with_reducible refine (IR.out _).mono ?_); rintro e w2 ⟨rfl, hb2⟩; have K1 := K.drew.below hb2)) | ((go_at_call 70; (with_reducible refine (IT.out _).mono ?_); rintro e w3 ⟨rfl, hb3⟩; have K2 := K1.below hb3)) | ((go_at_call 60; (with_reducible refine (DS.out _).mono ?_); rintro e w4 ⟨rfl, hb4⟩; have K3 := K2.below hb4)) | ((go_at_call 39; (with_reducible refine (FS.out _).mono ?_); rintro e w5 ⟨rfl, hb5⟩; have K4 := K3.below hb5)) | ((go_at_call 60; (with_reducible refine (DE.out _).mono ?_); rintro e w6 ⟨rfl, hb6⟩; have K5 := K4.below hb6)) | ((go_at_call 39; (with_reducible refine (FE.out _).mono ?_); rintro e w7 ⟨rfl, hb7⟩; have K6 := K5.below hb7)) | ((go_at_call 69; (with_reducible refine (IM.out _).mono ?_); rintro e w8 ⟨rfl, hb8⟩; have K7 := K6.below hb8)))
  all_goals
    go_wp2_with fail
    go_ret
    exact ⟨by rw [E.out]; rfl, K7.1⟩
set_option maxHeartbeats 400000 in
theorem sfmtB_any (s e m r : Int) (w : World) :
    Calls Tryd.prog 24 #[bdV s e m r] w fun x w' => x = .returned (str (Bt.fmt s e m r)) ∧ Below w.heap.size w w' := by
  have K := (Kp.refl w).new 35 (bdA s e m r)
  obtain ⟨x0, x1, x2, x3⟩ := K.b1
  have VM := Lib.hid (fun W => sVBond_any s e m r W)
  cases h : vbB s e m r with
  | false =>
    rw [Bt.fmt_no h]
    rw [h] at VM; clear h
    go_enter Tryd.func24, Tryd.ntmps24
    go_wp2_with fail
    refine (VM.out _).mono ?_
    rintro e w1 ⟨rfl, hb⟩
    replace K := K.below hb
    clear hb x0 x1 x2 x3
    go_wp2_with fail
    go_ret
    exact ⟨rfl, K.1⟩
  | true =>
    rw [Bt.fmt_yes h]
    have FM := Lib.hid (fun W => sfmtB0_any s e m r W h)
    rw [h] at VM; clear h
    go_enter Tryd.func24, Tryd.ntmps24
    go_wp2_with fail
    refine (VM.out _).mono ?_
    rintro e w1 ⟨rfl, hb⟩
    replace K := K.below hb
    clear hb x0 x1 x2 x3
    obtain ⟨x0, x1, x2, x3⟩ := K.b1
    go_wp2_with fail
    refine (FM.out _).mono ?_
    rintro e w2 ⟨rfl, hb⟩
    replace K := K.below hb
    clear hb x0 x1 x2 x3
    go_wp2_with fail
    go_ret
    exact ⟨rfl, K.1⟩
set_option maxHeartbeats 1000000 in
theorem exFormatBond (s e m r : Int) (w : World) (hT : Tab w) (hP : TabP w) :
    Calls Tryd.prog 11 #[bdV s e m r] w fun x w' => x = .returned (.bool true) ∧ Below w.heap.size w w' := by
  have K := (Kp.refl w).new 46 (bdA s e m r)
  obtain ⟨x0, x1, x2, x3⟩ := K.b1
  have HT := Lib.hid hT
  have HP := Lib.hid hP
  have hgw := hP.lt
  have h0 := hT.pos
  clear hT hP
  obtain ⟨F, hF⟩ : ∃ F, Bt.fmt s e m r = F := ⟨_, rfl⟩
  have HF := Lib.hid hF; clear hF
  have TM := Lib.hid (fun W => toBond_any s e m r W)
  go_enter Tryd.func11, Tryd.ntmps11
  go_wp2_with fail
  refine (TM.out _).mono ?_
  rintro e w1 ⟨rfl, hb⟩
  replace K := K.below hb
  clear hb x0 x1 x2 x3
  obtain ⟨x0, x1, x2, x3⟩ := K.b1
  go_wp2_with fail
  refine (sfmtB_any _ _ _ _ _).mono ?_
  rw [HF.out]
  rintro e w2 ⟨rfl, hb⟩
  replace K := K.below hb
  clear hb x0 x1 x2 x3
  obtain ⟨x0, x1, x2, x3⟩ := K.b1
  go_wp2_with fail
  refine (TM.out _).mono ?_
  rintro e w3 ⟨rfl, hb⟩
  replace K := K.below hb
  clear hb x0 x1 x2 x3
  go_wp2_with fail
  refine (fmtB_any _ _ _ _ _ (HT.out.below K.1 h0) (HP.out.below K.1 hgw)).mono ?_
  rw [HF.out]
  rintro e w4 ⟨rfl, hb⟩
  replace K := K.below hb
  go_wp2_with fail
  go_ret
  exact ⟨rfl, K.1⟩
theorem put4_below {B : Nat} {a W : World} (k : Below B a W) {b : Nat} (hq : B ≤ b) (s e m r : Int) : Below B a (put4 W b s e m r) :=
  (((k.setCell (p := ⟨b, 0, none⟩) hq _).setCell (p := ⟨b, 1, none⟩) hq _).setCell (p := ⟨b, 2, none⟩) hq _).setCell (p := ⟨b, 3, none⟩) hq _
theorem put4_far {W : World} {g : Nat} {T : TypeId} {cs : Array Value} (k : Blk W g T cs) {b : Nat} (hq : g ≠ b) (s e m r : Int) : Blk (put4 W b s e m r) g T cs :=
  (((k.far (q := ⟨b, 0, none⟩) hq _).far (q := ⟨b, 1, none⟩) hq _).far (q := ⟨b, 2, none⟩) hq _).far (q := ⟨b, 3, none⟩) hq _
set_option maxHeartbeats 1000000 in
theorem rate_any (g : Nat) (l : List UInt8) (w : World) (hc : Cur w g l) :
    Calls Tryd.prog 80 #[.pointer (some ⟨g, 0, none⟩)] w fun e w' => e = .returned (.int .i64 (Bt.rate l).1) ∧ Cur w' g (Bt.rate l).2 ∧ w.grownBy w' (some g) := by
  obtain ⟨a, r1, h1⟩ : ∃ y r, rdN l 0 = (y, r) := ⟨_, _, rfl⟩
  obtain ⟨n, r2, h2⟩ : ∃ y r, rdN (skp 46 r1) 0 = (y, r) := ⟨_, _, rfl⟩
  have E : Bt.rate l = (IntKind.i64.wrap (IntKind.i64.wrap (100 * a) + n), r2) := by
    unfold Bt.rate
    rw [h1]
    simp only
    rw [h2]
  rw [E]
  simp only
  have C0 := Lib.hid hc; clear hc
  have H1 := Lib.hid h1
  have H2 := Lib.hid h2
  clear h1 h2 E
  go_enter Tryd.func80, Tryd.ntmps80
  go_wp2_with fail
  refine (number_any _ _ _ C0.out).mono ?_
  rw [H1.out]
  rintro e w1 ⟨rfl, c1, g1⟩
  have C1 := Lib.hid c1
  clear c1
  go_wp2_with fail
  refine (skip_any _ _ 46 _ C1.out).mono ?_
  rintro e w2 ⟨rfl, c2, g2⟩
  have C2 := Lib.hid c2; clear c2
  have hg := grown_trans g1 g2
  clear g1 g2
  go_wp2_with fail
  refine (number_any _ _ _ C2.out).mono ?_
  try dsimp only
  rw [H2.out]
  rintro e w3 ⟨rfl, c3, g3⟩
  replace hg := grown_trans hg g3
  go_wp2_with fail
  go_ret
  exact ⟨by rw [wrap_eq, wrap_eq]; rfl, c3, hg⟩
/-- The bond that the program's cursor reads: its start, end, months and rate. -/
def Bt.pb (l : List UInt8) : Int × Int × Int × Int :=
  let x := Bt.read l
  (dayV x.2.1.1 x.2.1.2.1 x.2.1.2.2, dayV x.2.2.1.1 x.2.2.1.2.1 x.2.2.1.2.2, x.2.2.2, x.1)
set_option maxHeartbeats 2000000 in
theorem bond_any (g : Nat) (l : List UInt8) (w : World) (hc : Cur w g l) (hT : ∀ w', w.grownBy w' (some g) → Tab w') :
    Calls Tryd.prog 56 #[.pointer (some ⟨g, 0, none⟩)] w fun e w' => e = .returned (bdV (Bt.pb l).1 (Bt.pb l).2.1 (Bt.pb l).2.2.1 (Bt.pb l).2.2.2) ∧ w.grownBy w' (some g) := by
  have hgl := hc.lt
  have HT := Lib.hid hT; clear hT
  have C0 := Lib.hid (hc.alloc (.cells (bdA 0 0 0 0) 35)); clear hc
  have kR := Blk.new w (bdA 0 0 0 0) 35
  have hg := grown_alloc (grown_refl w g) (.cells (bdA 0 0 0 0) 35)
  obtain ⟨ra, r1, h1⟩ : ∃ y r, Bt.rate l = (y, r) := ⟨_, _, rfl⟩
  obtain ⟨⟨y1, m1, d1⟩, r2, h2⟩ : ∃ y r, Dt.read (skp 32 r1) = (y, r) := ⟨_, _, rfl⟩
  obtain ⟨⟨y2, m2, d2⟩, r3, h3⟩ : ∃ y r, Dt.read (skp 32 r2) = (y, r) := ⟨_, _, rfl⟩
  obtain ⟨mo, r4, h4⟩ : ∃ y r, rdN (skp 32 r3) 0 = (y, r) := ⟨_, _, rfl⟩
  have E : Bt.pb l = (dayV y1 m1 d1, dayV y2 m2 d2, mo, ra) := by
    have e : Bt.read l = (ra, (y1, m1, d1), (y2, m2, d2), mo) := by
      unfold Bt.read
      rw [h1]
      simp only
      rw [h2]
      simp only
      rw [h3]
      simp only
      rw [h4]
    unfold Bt.pb
    rw [e]
  rw [E]
  simp only
  obtain ⟨S, hS⟩ : ∃ n, dayV y1 m1 d1 = n := ⟨_, rfl⟩
  obtain ⟨F, hF⟩ : ∃ n, dayV y2 m2 d2 = n := ⟨_, rfl⟩
  rw [hS, hF]
  have H1 := Lib.hid h1
  have H2 := Lib.hid h2
  have H3 := Lib.hid h3
  have H4 := Lib.hid h4
  have D1 := Lib.hid (fun W hT => dayOf_any y1 m1 d1 W hT)
  have D2 := Lib.hid (fun W hT => dayOf_any y2 m2 d2 W hT)
  rw [hS] at D1
  rw [hF] at D2
  clear h1 h2 h3 h4 E hS hF
  go_enter Tryd.func56, Tryd.ntmps56
  go_wp2_with fail
  refine (rate_any _ _ _ C0.out).mono ?_
  rw [H1.out]
  rintro e w1 ⟨rfl, c1, g1⟩
  have hs1 := c1.lt
  have C1 := Lib.hid (c1.alloc (.cells (bdA 0 0 0 ra) 35)); clear c1
  replace kR := (kR.grown g1 (by omega)).alloc (.cells (bdA 0 0 0 ra) 35)
  have kD := Blk.new w1 (bdA 0 0 0 ra) 35
  replace hg := grown_alloc (grown_trans hg g1) (.cells (bdA 0 0 0 ra) 35)
  have hRD : w.heap.size < w1.heap.size := by have := g1.size; simp at this; omega
  clear g1 C0
  go_wp2_with fail
  refine (skip_any _ _ 32 _ C1.out).mono ?_
  rintro e w2 ⟨rfl, c2, g2⟩
  have C2 := Lib.hid c2; clear c2
  replace kR := kR.grown g2 (by omega)
  replace kD := kD.grown g2 (by omega)
  replace hg := grown_trans hg g2
  clear g2 C1
  go_wp2_with fail
  refine (date_any _ _ _ C2.out).mono ?_
  try dsimp only
  rw [H2.out]
  rintro e w3 ⟨rfl, c3, g3⟩
  replace kR := kR.grown g3 (by omega)
  replace kD := kD.grown g3 (by omega)
  replace hg := grown_trans hg g3
  have T3 := Lib.hid (HT.out _ hg)
  have l3 := c3.lt
  have C3 := Lib.hid c3
  clear g3 C2 c3
  go_wp2_with fail
  refine (D1.out _ T3.out).mono ?_
  rintro e w4 ⟨rfl, hb⟩
  replace kR := kR.below hb kR.lt
  replace kD := kD.below hb kD.lt
  have c4 := C3.out.below hb l3
  replace hg := grown_trans hg (grown_below hb)
  have f4 := fourFz kD
  obtain ⟨x0, x1, x2, x3⟩ := kD.four
  obtain ⟨f0, f1, f2, f3⟩ := f4
  have kD2 : Blk (w4.setCell ⟨w1.heap.size, 0, none⟩ (.int .i64 S)) w1.heap.size 35 (bdA S 0 0 ra) := kD.putD 0 _ rfl
  have C4 := Lib.hid (c4.far (q := ⟨w1.heap.size, 0, none⟩) (by show g ≠ w1.heap.size; omega) (.int .i64 S))
  have kR2 := kR.far (q := ⟨w1.heap.size, 0, none⟩) (by show w.heap.size ≠ w1.heap.size; omega) (.int .i64 S)
  have hg2 := grown_setCell hg (p := ⟨w1.heap.size, 0, none⟩) (by show w.heap.size ≤ w1.heap.size; omega) (.int .i64 S)
  clear hb C3 c4 kD kR hg T3
  go_wp2_with fail
  clear x0 x1 x2 x3 f0 f1 f2 f3
  refine (skip_any _ _ 32 _ C4.out).mono ?_
  rintro e w5 ⟨rfl, c5, g5⟩
  have C5 := Lib.hid c5; clear c5
  replace kR2 := kR2.grown g5 (by omega)
  replace kD2 := kD2.grown g5 (by omega)
  replace hg2 := grown_trans hg2 g5
  clear g5 C4
  go_wp2_with fail
  refine (date_any _ _ _ C5.out).mono ?_
  try dsimp only
  rw [H3.out]
  rintro e w6 ⟨rfl, c6, g6⟩
  replace kR2 := kR2.grown g6 (by omega)
  replace kD2 := kD2.grown g6 (by omega)
  replace hg2 := grown_trans hg2 g6
  have T6 := Lib.hid (HT.out _ hg2)
  have l6 := c6.lt
  have C6 := Lib.hid c6
  clear g6 C5 c6
  go_wp2_with fail
  refine (D2.out _ T6.out).mono ?_
  rintro e w7 ⟨rfl, hb⟩
  replace kR2 := kR2.below hb kR2.lt
  replace kD2 := kD2.below hb kD2.lt
  have c7 := C6.out.below hb l6
  replace hg2 := grown_trans hg2 (grown_below hb)
  have f4 := fourFz kD2
  obtain ⟨x0, x1, x2, x3⟩ := kD2.four
  obtain ⟨f0, f1, f2, f3⟩ := f4
  have kD3 : Blk (w7.setCell ⟨w1.heap.size, 1, none⟩ (.int .i64 F)) w1.heap.size 35 (bdA S F 0 ra) := kD2.putD 1 _ rfl
  have C7 := Lib.hid (c7.far (q := ⟨w1.heap.size, 1, none⟩) (by show g ≠ w1.heap.size; omega) (.int .i64 F))
  have kR3 := kR2.far (q := ⟨w1.heap.size, 1, none⟩) (by show w.heap.size ≠ w1.heap.size; omega) (.int .i64 F)
  have hg3 := grown_setCell hg2 (p := ⟨w1.heap.size, 1, none⟩) (by show w.heap.size ≤ w1.heap.size; omega) (.int .i64 F)
  clear hb C6 c7 kD2 kR2 hg2 T6
  go_wp2_with fail
  clear x0 x1 x2 x3 f0 f1 f2 f3
  refine (skip_any _ _ 32 _ C7.out).mono ?_
  rintro e w8 ⟨rfl, c8, g8⟩
  have C8 := Lib.hid c8; clear c8
  replace kR3 := kR3.grown g8 (by omega)
  replace kD3 := kD3.grown g8 (by omega)
  replace hg3 := grown_trans hg3 g8
  clear g8 C7
  go_wp2_with fail
  refine (number_any _ _ _ C8.out).mono ?_
  try dsimp only
  rw [H4.out]
  rintro e w9 ⟨rfl, c9, g9⟩
  replace kR3 := kR3.grown g9 (by omega)
  replace kD3 := kD3.grown g9 (by omega)
  replace hg3 := grown_trans hg3 g9
  have f4 := fourFz kD3
  obtain ⟨x0, x1, x2, x3⟩ := kD3.four
  obtain ⟨f0, f1, f2, f3⟩ := f4
  have kD4 : Blk (w9.setCell ⟨w1.heap.size, 2, none⟩ (.int .i64 mo)) w1.heap.size 35 (bdA S F mo ra) := kD3.putD 2 _ rfl
  have kR4 := kR3.far (q := ⟨w1.heap.size, 2, none⟩) (by show w.heap.size ≠ w1.heap.size; omega) (.int .i64 mo)
  have hg4 := grown_setCell hg3 (p := ⟨w1.heap.size, 2, none⟩) (by show w.heap.size ≤ w1.heap.size; omega) (.int .i64 mo)
  have r4 := fourFz kR4
  obtain ⟨i0, i1, i2, i3⟩ := kR4.four
  obtain ⟨j0, j1, j2, j3⟩ := r4
  obtain ⟨u0, u1, u2, u3⟩ := kD4.four
  clear g9 C8 hg3
  go_wp2_with fail
  obtain ⟨q0, q1, q2, q3⟩ := (put4_blk kR4 S F mo ra).four
  unfold put4 at q0 q1 q2 q3
  refine bodyPost_ret (v := bdV S F mo ra) (by simp [results, Tryd.results56, go_sem, q0, q1, q2, q3]) rfl ⟨rfl, put4_grown hg4 (Nat.le_refl _) S F mo ra⟩
theorem Bt.txt_ne (r : Nat) (s e : List UInt8) (m : Nat) : Bt.txt r s e m ≠ [] := by unfold Bt.txt; simp
/-- Is this the text of the bond? -/
noncomputable def Bt.conf (t : Int × Int × Int × Int) (l : List UInt8) : Bool := decide (Bt.fmt t.1 t.2.1 t.2.2.1 t.2.2.2 ≠ [] ∧ Bt.fmt t.1 t.2.1 t.2.2.1 t.2.2.2 = l)
noncomputable def Bt.out (t : Int × Int × Int × Int) (l : List UInt8) : Int × Int × Int × Int := if Bt.conf t l = true then t else (0, 0, 0, 0)
theorem Bt.out_yes {t : Int × Int × Int × Int} {l : List UInt8} (h : Bt.conf t l = true) : Bt.out t l = t := if_pos h
theorem Bt.out_no {t : Int × Int × Int × Int} {l : List UInt8} (h : Bt.conf t l = false) : Bt.out t l = (0, 0, 0, 0) := if_neg (by rw [h]; simp)
theorem Bt.conf_iff {s e m r : Int} {l : List UInt8} : Bt.conf (s, e, m, r) l = true ↔ vbB s e m r = true ∧ Bt.txt r.toNat (Dy s) (Dy e) m.toNat = l := by
  unfold Bt.conf
  rw [decide_eq_true_iff]
  cases h : vbB s e m r with
  | false => rw [Bt.fmt_no h]; simp
  | true => rw [Bt.fmt_yes h]; have := Bt.txt_ne r.toNat (Dy s) (Dy e) m.toNat; simp [this]
set_option maxHeartbeats 2000000 in
theorem confB_any (s e m r : Int) (l : List UInt8) (w : World) (hT : Tab w) (hP : TabP w) :
    Calls Tryd.prog 55 #[bdV s e m r, str l, .func (.func 23) #[] #[]] w fun x w' => x = .returned (.tuple #[bdV (Bt.out (s, e, m, r) l).1 (Bt.out (s, e, m, r) l).2.1 (Bt.out (s, e, m, r) l).2.2.1 (Bt.out (s, e, m, r) l).2.2.2, .bool (Bt.conf (s, e, m, r) l)]) ∧ Below w.heap.size w w' := by
  have hb0 := ((Below.refl w.heap.size w).alloc (Nat.le_refl _) (.cells (bdA s e m r) 35)).alloc (by simp) (.cells (bdA 0 0 0 0) 35)
  have HT := Lib.hid (hT.below hb0 hT.pos)
  have HP := Lib.hid (hP.below hb0 hP.lt)
  clear hT hP hb0
  have K := ((Kp.refl w).new 35 (bdA s e m r)).new 35 (bdA 0 0 0 0)
  simp only [World.size_alloc] at K
  obtain ⟨F, hF⟩ : ∃ F, Bt.fmt s e m r = F := ⟨_, rfl⟩
  have FM := Lib.hid (fun W hT hP => fmtB_any s e m r W hT hP)
  rw [hF] at FM
  obtain ⟨x0, x1, x2, x3⟩ := K.second.four
  rcases F with _ | ⟨c, t⟩
  · have E : Bt.conf (s, e, m, r) l = false := by unfold Bt.conf; simp only; rw [hF]; simp
    rw [Bt.out_no E, E]
    clear E hF
    go_enter Tryd.func55, Tryd.ntmps55
    go_wp2_with fail
    refine (FM.out _ HT.out HP.out).mono ?_
    rintro e w1 ⟨rfl, hb⟩
    replace K := (K.below hb).new 35 (bdA 0 0 0 0)
    clear hb x0 x1 x2 x3
    obtain ⟨x0, x1, x2, x3⟩ := K.first.four
    have ff := fourFz K.second
    obtain ⟨z0, z1, z2, z3⟩ := K.second.four
    obtain ⟨f0, f1, f2, f3⟩ := ff
    go_wp2_with fail
    obtain ⟨q0, q1, q2, q3⟩ := (put4_blk K.second 0 0 0 0).four
    unfold put4 at q0 q1 q2 q3
    refine bodyPost_ret (v := .tuple #[bdV 0 0 0 0, .bool false]) (by simp [results, Tryd.results55, go_sem, q0, q1, q2, q3]) rfl ⟨rfl, ?_⟩
    repeat (refine Below.setCell ?_ (by simp <;> omega) _)
    exact K.1
  · by_cases h : (c :: t) = l
    · subst h
      have E : Bt.conf (s, e, m, r) (c :: t) = true := by unfold Bt.conf; simp only; rw [hF]; simp
      rw [Bt.out_yes E, E]
      clear E hF
      go_enter Tryd.func55, Tryd.ntmps55
      go_wp2_with fail
      refine (FM.out _ HT.out HP.out).mono ?_
      rintro x w1 ⟨rfl, hb⟩
      replace K := K.below hb
      clear hb x0 x1 x2 x3
      have ff := fourFz K.first
      obtain ⟨z0, z1, z2, z3⟩ := K.first.four
      obtain ⟨f0, f1, f2, f3⟩ := ff
      obtain ⟨x0, x1, x2, x3⟩ := K.second.four
      go_wp2_with fail
      obtain ⟨q0, q1, q2, q3⟩ := (put4_blk K.first s e m r).four
      unfold put4 at q0 q1 q2 q3
      refine bodyPost_ret (v := .tuple #[bdV s e m r, .bool true]) (by simp [results, Tryd.results55, go_sem, q0, q1, q2, q3]) rfl ⟨rfl, ?_⟩
      repeat (refine Below.setCell ?_ (by simp <;> omega) _)
      exact K.1
    · have E : Bt.conf (s, e, m, r) l = false := by unfold Bt.conf; simp only; rw [hF]; simp [h]
      have hq : ((c :: t) == l) = false := by simp [h]
      rw [Bt.out_no E, E]
      clear E hF h
      go_enter Tryd.func55, Tryd.ntmps55
      go_wp2_with fail
      refine (FM.out _ HT.out HP.out).mono ?_
      rintro x w1 ⟨rfl, hb⟩
      replace K := (K.below hb).new 35 (bdA 0 0 0 0)
      clear hb x0 x1 x2 x3
      obtain ⟨x0, x1, x2, x3⟩ := K.first.four
      have ff := fourFz K.second
      obtain ⟨z0, z1, z2, z3⟩ := K.second.four
      obtain ⟨f0, f1, f2, f3⟩ := ff
      go_wp2_with fail
      obtain ⟨q0, q1, q2, q3⟩ := (put4_blk K.second 0 0 0 0).four
      unfold put4 at q0 q1 q2 q3
      refine bodyPost_ret (v := .tuple #[bdV 0 0 0 0, .bool false]) (by simp [results, Tryd.results55, go_sem, q0, q1, q2, q3]) rfl ⟨rfl, ?_⟩
      repeat (refine Below.setCell ?_ (by simp <;> omega) _)
      exact K.1
/-- What ParseBond gives: the bond, and whether there is one. -/
noncomputable def Bt.val (l : List UInt8) : Int × Int × Int × Int := Bt.out (Bt.pb l) l
noncomputable def Bt.ok (l : List UInt8) : Bool := Bt.conf (Bt.pb l) l
set_option maxHeartbeats 1000000 in
theorem parseB_any (l : List UInt8) (w : World) (hT : Tab w) (hP : TabP w) :
    Calls Tryd.prog 25 #[str l] w fun x w' => x = .returned (.tuple #[bdV (Bt.val l).1 (Bt.val l).2.1 (Bt.val l).2.2.1 (Bt.val l).2.2.2, .bool (Bt.ok l)]) ∧ Below w.heap.size w w' := by
  have hb0 := ((Below.refl w.heap.size w).alloc (Nat.le_refl _) (.cells (bdA 0 0 0 0) 35)).alloc (by simp) (.cells #[str l] 57)
  have kR := (Blk.new w (bdA 0 0 0 0) 35).alloc (.cells #[str l] 57)
  have hC : Cur ((w.alloc (.cells (bdA 0 0 0 0) 35)).alloc (.cells #[str l] 57)) (w.heap.size + 1) l := by simpa using Blk.new (w.alloc (.cells (bdA 0 0 0 0) 35)) #[str l] 57
  have HT := Lib.hid hT
  have HP := Lib.hid hP
  have hgw := hP.lt
  have h0 := hT.pos
  clear hT hP
  have HC := Lib.hid hC; clear hC
  obtain ⟨⟨s, e, m, r⟩, hr⟩ : ∃ t, Bt.pb l = t := ⟨_, rfl⟩
  have E1 : Bt.val l = Bt.out (s, e, m, r) l := by unfold Bt.val; rw [hr]
  have E2 : Bt.ok l = Bt.conf (s, e, m, r) l := by unfold Bt.ok; rw [hr]
  rw [E1, E2]
  have BM := Lib.hid (fun W g hc hT => bond_any g l W hc hT)
  rw [hr] at BM
  have HB0 := Lib.hid hb0
  clear hr E1 E2 hb0
  go_enter Tryd.func25, Tryd.ntmps25
  go_wp2_with fail
  refine (BM.out _ _ HC.out (fun W hg => HT.out.below (below_grown HB0.out hg (by omega)) h0)).mono ?_
  rintro x w1 ⟨rfl, hg⟩
  replace kR := kR.grown hg (by omega)
  have hb1 := below_grown HB0.out hg (by omega)
  clear hg
  have CM := Lib.hid (confB_any s e m r l w1 (HT.out.below hb1 h0) (HP.out.below hb1 hgw))
  go_wp2_with fail
  refine (CM.out).mono ?_
  generalize hO : Bt.out (s, e, m, r) l = O
  obtain ⟨a, b, c, d⟩ := O
  have HO := Lib.hid hO; clear hO
  generalize hB : Bt.conf (s, e, m, r) l = B
  have HB := Lib.hid hB; clear hB
  rintro x w2 ⟨rfl, hb⟩
  replace kR := kR.below hb kR.lt
  have hb2 := hb1.trans (hb.mono hb1.size)
  clear hb hb1
  have ff := fourFz kR
  obtain ⟨z0, z1, z2, z3⟩ := kR.four
  obtain ⟨f0, f1, f2, f3⟩ := ff
  go_wp2_with fail
  obtain ⟨q0, q1, q2, q3⟩ := (put4_blk kR a b c d).four
  unfold put4 at q0 q1 q2 q3
  refine bodyPost_ret (v := .tuple #[bdV a b c d, .bool B]) (by simp [results, Tryd.results25, go_sem, q0, q1, q2, q3]) rfl ⟨by rw [HO.out, HB.out], put4_below hb2 (Nat.le_refl _) a b c d⟩
theorem infoStr : (Tryd.prog.info? 9).map (fun i => (i.zero, i.size, i.bytes)) = some (some (.string ⟨#[]⟩), 1, 16) := by kernel_rfl
/-- A row of texts that the call has made. -/
def OwnS (w : World) (B : Nat) (v : Value) (xs : List (List UInt8)) : Prop := w.ownsRow B 9 1 v xs.length (xs.map (str)) ∧ v ≠ .slice none 0 0
theorem OwnS.form {w : World} {B : Nat} {v : Value} {xs : List (List UInt8)} (h : OwnS w B v xs) :
    ∃ b cap, v = .slice (some ⟨b, 0, none⟩) xs.length cap ∧ B ≤ b ∧ b < w.heap.size ∧ (∀ i, i < xs.length → w.cell? ⟨b, i, none⟩ = some (str (xs.getD i []))) ∧ (∀ i, w.frozen? ⟨b, i, none⟩ = false) := by
  obtain ⟨h1, h2⟩ := h
  rcases h1.2 with ⟨h3, _⟩ | ⟨b, cap, cur, rfl, hb, hblk, _⟩
  · exact absurd h3 h2
  · refine ⟨b, cap, rfl, hb, ?_, fun i hi => ?_, fun i => h1.frozenAt i⟩
    · rcases Nat.lt_or_ge b w.heap.size with hlt | hge
      · exact hlt
      · rw [Array.getElem?_eq_none hge] at hblk; cases hblk
    · rw [h1.cellAt i (by omega)]
      rw [List.getElem?_map, List.getElem?_eq_getElem hi, List.getD_eq_getElem?_getD, List.getElem?_eq_getElem hi]
      rfl
theorem OwnS.kept {w w' : World} {B g : Nat} {v : Value} {xs : List (List UInt8)} (h : OwnS w B v xs) (hg : w.grownBy w' (some g)) (hlt : g < B) : OwnS w' B v xs :=
  ⟨h.1.kept hg (.inr fun e => by have := (h.1.lt g e).1; omega), h.2⟩
theorem OwnS.alloc {w : World} {B : Nat} {v : Value} {xs : List (List UInt8)} (h : OwnS w B v xs) (o : Obj) : OwnS (w.alloc o) B v xs := ⟨h.1.alloc o, h.2⟩
theorem OwnS.cap {w : World} {B b cap : Nat} {xs : List (List UInt8)} (h : OwnS w B (.slice (some ⟨b, 0, none⟩) xs.length cap) xs) : xs.length ≤ cap ∧ cap ≤ maxLen := by
  rcases h.1.2 with ⟨q, _⟩ | ⟨b', cap', cur, q, _, _, q1, q2, _⟩
  · simp at q
  · simp only [Value.slice.injEq, true_and] at q
    rw [q.2]; exact ⟨q1, q2⟩
theorem ownS_new (w : World) : OwnS (w.alloc (.cells #[] 9)) w.heap.size (.slice (some ⟨w.heap.size, 0, none⟩) 0 0) [] :=
  ⟨World.ownsRow_lit w #[] 0 (Nat.le_refl _) (Nat.zero_le _) (by simp), by simp⟩
/-- One text appended. -/
theorem wpList_pushS (w : World) {ops : Array Oper} {rest : List Oper} {o : Oper} {a : Act} {Q : Exit → Act → World → Prop} (hgd : o.guard = none) (s x : Operand)
    (ho : o.op = .call { callee := .builtin .append, args := #[s, x], argTypes := #[55, 55] })
    (B : Nat) (v : Value) (xs : List (List UInt8)) (hs : a.eval s = v) (hown : OwnS w B v xs) (b c : Nat) (y : List UInt8) (hx : a.eval x = .slice (some ⟨b, 0, none⟩) 1 c) (hcell : w.cell? ⟨b, 0, none⟩ = some (str y))
    (hl : xs.length + 1 ≤ 2000000) (hB : B ≤ w.heap.size)
    (h : ∀ v' w', OwnS w' B v' (xs ++ [y]) → w.grownBy w' v.ownBlock → wpList Tryd.prog ops Q rest (a.put o.dst v') w') : wpList Tryd.prog ops Q (o :: rest) a w := by
  obtain ⟨i0, hi, hz0, hz1, hz2⟩ := info_parts infoStr
  refine wpList_append_own w hgd s x 55 ho B 9 i0 (.string ⟨#[]⟩) 1 16 Tryd.underlying55 hi hz0 hz1 hz2 rfl (by decide) v xs.length _ hs hown.1 ⟨b, 0, none⟩ 1 c [str y] hx rfl ?_ (fun u hu => by simp at hu; subst hu; rfl) (by unfold maxLen; omega) (by omega) hB ?_
  · intro j u hu
    cases j with
    | zero => simp at hu; subst hu; exact hcell
    | succ j => simp at hu
  · intro v' w' h1 h2 h3
    refine h v' w' ⟨by simpa using h1, fun e => ?_⟩ h2
    exact hown.2 (h3.1 e).1
theorem OwnS.far {w : World} {B : Nat} {v : Value} {xs : List (List UInt8)} (h : OwnS w B v xs) : ∀ j, v.ownBlock = some j → B ≤ j := fun j e => (h.1.lt j e).1
def Cut (ws : List (List UInt8)) (w : World) (e : Ending) (w' : World) : Prop := ∃ v, e = .returned v ∧ OwnS w' w.heap.size v ws ∧ Below w.heap.size w w'
theorem cut_byte {l : List UInt8} {i : Nat} {c : UInt8} (hc : l[i]? = some c) : ∀ h, (((ByteArray.mk l.toArray)[i]'h).toNat : Int) = (c.toNat : Int) := fun h => by
  have hn : i < l.length := by
    rcases Nat.lt_or_ge i l.length with h | h
    · exact h
    · rw [List.getElem?_eq_none h] at hc; cases hc
  have e1 : (ByteArray.mk l.toArray)[i]'h = l[i]'hn := rfl
  have e2 : l[i]'hn = c := by rw [List.getElem?_eq_getElem hn] at hc; exact Option.some.inj hc
  rw [e1, e2]
set_option maxHeartbeats 2000000 in
theorem sSplit_any (l : List UInt8) (w : World) (hl : l.length ≤ 1048576) :
    Calls Tryd.prog 57 #[str l] w (Cut (spl l []) w) := by
  obtain ⟨R, hR⟩ : ∃ R, spl l [] = R := ⟨_, rfl⟩
  rw [hR]
  have HR := Lib.hid hR; clear hR
  go_enter Tryd.func57, Tryd.ntmps57
  go_wp2_with fail
  go_loopw [3, 4, 5] (fun o f k wr => ∃ (f' i : Nat) (ws : List (List UInt8)), f = .int .i64 f' ∧ k = .int .i64 i ∧ Hid (OwnS wr w.heap.size o ws) ∧ Hid (cutI l f' i ws) ∧ Below w.heap.size w wr) (fun _ _ k _ => l.length - (intOf k).toNat)
  case atStart => exact ⟨0, 0, [], rfl, rfl, Lib.hid (ownS_new w), Lib.hid (cutI.start l), (Below.refl _ _).alloc (Nat.le_refl _) _⟩
  case round =>
    obtain ⟨f, i, ws, rfl, rfl, HO, HI, hb⟩ := hrel
    obtain ⟨i1, i2, i3, -⟩ := HI.out
    by_cases hi : i < l.length
    · obtain ⟨c, hc⟩ : ∃ c, l[i]? = some c := ⟨_, List.getElem?_eq_getElem hi⟩
      have hx := cut_byte hc
      obtain ⟨z, hz⟩ : ∃ z : Int, (c.toNat : Int) = z := ⟨_, rfl⟩
      rw [hz] at hx
      have hz1 : 0 ≤ z ∧ z ≤ 255 := by have := c.toNat_lt; omega
      have hi' : (i : Int) < (l.length : Int) := by omega
      by_cases h32 : c = 32
      · subst h32
        have hz2 : z = 32 := by rw [← hz]; rfl
        subst hz2
        have G := Lib.hid (HI.out.yes hc)
        have hE := extr l f i
        obtain ⟨S, hS⟩ : ∃ S, seg l f i = S := ⟨_, rfl⟩
        rw [hS] at G hE
        have p1 : (f : Int) ≤ (i : Int) := by omega
        have p2 : (i : Int) ≤ (l.length : Int) := by omega
        have HP := Lib.hid (HO.out.alloc (.cells #[str S] 9))
        have hbs := hb.size
        clear hc hz hS
        go_wp2_with (at_builtin; go_loud (refine wpList_pushS _ rfl _ _ rfl w.heap.size _ ws rfl HP.out wr.heap.size _ S rfl (by simp) (by omega) (by simp; omega) ?_; intro v3 w3 hown3 hg4))
        have hb3 := (hb.alloc hbs (.cells #[str S] 9)).grown hg4 (by simp; omega) (fun j hj => HP.out.far j hj)
        go_round
        case rel => exact ⟨i + 1, i + 1, ws ++ [S], by go_num, by go_num, Lib.hid hown3, G, hb3⟩
        case measure => simp [intOf]; omega
      · have G := Lib.hid (HI.out.no hc h32)
        have hz2 : (z == 32) = false := by
          have : z ≠ 32 := fun e => h32 (UInt8.toNat_inj.1 (by rw [e] at hz; show c.toNat = 32; omega))
          simp [this]
        clear hc hz h32
        go_wp2_with fail
        go_round
        case rel => exact ⟨f, i + 1, ws, rfl, by go_num, HO, G, hb⟩
        case measure => simp [intOf]; omega
    · have hi' : ¬ (i : Int) < (l.length : Int) := by omega
      have E := Lib.hid (HI.out.fin hi)
      have hE := extr l f l.length
      obtain ⟨S, hS⟩ : ∃ S, seg l f l.length = S := ⟨_, rfl⟩
      rw [hS] at E hE
      have p1 : (f : Int) ≤ (l.length : Int) := by omega
      have HP := Lib.hid (HO.out.alloc (.cells #[str S] 9))
      have hbs := hb.size
      clear hS
      go_wp2_with (at_builtin; go_loud (refine wpList_pushS _ rfl _ _ rfl w.heap.size _ ws rfl HP.out wr.heap.size _ S rfl (by simp) (by omega) (by simp; omega) ?_; intro v3 w3 hown3 hg4))
      have hb3 := (hb.alloc hbs (.cells #[str S] 9)).grown hg4 (by simp; omega) (fun j hj => HP.out.far j hj)
      go_ret
      exact ⟨v3, rfl, by rw [← HR.out, ← E.out]; exact hown3, hb3⟩
theorem Dt.ok_vld {l : List UInt8} (h : Dt.ok l = true) : vldB (Dt.val l).1 (Dt.val l).2.1 (Dt.val l).2.2 = true ∧ Dt.txt (Dt.val l).1.toNat (Dt.val l).2.1.toNat (Dt.val l).2.2.toNat = l := by
  have e : Dt.val l = (Dt.read l).1 := Dt.out_yes h
  rw [e]
  exact Dt.conf_iff.1 h
/-- The words' row. -/
structure Wd (wb : Nat) (a b c d : List UInt8) (W : World) : Prop where
  lt : wb < W.heap.size
  w0 : W.cell? ⟨wb, 0, none⟩ = some (str a)
  w1 : W.cell? ⟨wb, 1, none⟩ = some (str b)
  w2 : W.cell? ⟨wb, 2, none⟩ = some (str c)
  w3 : W.cell? ⟨wb, 3, none⟩ = some (str d)
theorem Wd.below {wb : Nat} {a b c d : List UInt8} {W W' : World} (h : Wd wb a b c d W) (hb : Below W.heap.size W W') : Wd wb a b c d W' := by
  have k := hb.block wb h.lt
  exact ⟨Nat.lt_of_lt_of_le h.lt hb.size, (World.cell?_of_block (a := ⟨wb, 0, none⟩) k).trans h.w0, (World.cell?_of_block (a := ⟨wb, 1, none⟩) k).trans h.w1, (World.cell?_of_block (a := ⟨wb, 2, none⟩) k).trans h.w2, (World.cell?_of_block (a := ⟨wb, 3, none⟩) k).trans h.w3⟩
theorem Wd.alloc {wb : Nat} {a b c d : List UInt8} {W : World} (h : Wd wb a b c d W) (o : Obj) : Wd wb a b c d (W.alloc o) := h.below ((Below.refl _ _).alloc (Nat.le_refl _) o)
theorem Wd.drew {wb : Nat} {a b c d : List UInt8} {W : World} (h : Wd wb a b c d W) : Wd wb a b c d W.drew := ⟨h.lt, h.w0, h.w1, h.w2, h.w3⟩
abbrev PS (wb fb tb : Nat) (a d : List UInt8) (y1 m1 d1 y2 m2 d2 : Int) (W : World) : Prop :=
  W.cell? ⟨wb, 0, none⟩ = some (str a) ∧ W.cell? ⟨wb, 3, none⟩ = some (str d) ∧ DtS fb y1 m1 d1 W ∧ DtS tb y2 m2 d2 W
theorem PS.of {w W : World} {wb fb tb rb : Nat} {T1 T2 T3 : TypeId} {cs : Array Value} {a b c d : List UInt8} {y1 m1 d1 y2 m2 d2 : Int} (k : Kp w [(tb, T1, dtA y2 m2 d2), (fb, T2, dtA y1 m1 d1), (rb, T3, cs)] W) (h : Wd wb a b c d W) : PS wb fb tb a d y1 m1 d1 y2 m2 d2 W :=
  ⟨h.w0, h.w3, k.second.three.1, k.d1⟩
theorem words4 {w w' : World} {v : Value} {a b c d : List UInt8} (h : OwnS w' w.heap.size v [a, b, c, d]) : ∃ wb cap, v = .slice (some ⟨wb, 0, none⟩) 4 cap ∧ Wd wb a b c d w' := by
  obtain ⟨wb, cap, rfl, -, hlt, hc, -⟩ := h.form
  exact ⟨wb, cap, rfl, hlt, hc 0 (by simp), hc 1 (by simp), hc 2 (by simp), hc 3 (by simp)⟩
abbrev P4 (w : World) (b : Nat) (s e m r : Int) : World := (((w.setCell ⟨b, 0, none⟩ (.int .i64 s)).setCell ⟨b, 1, none⟩ (.int .i64 e)).setCell ⟨b, 2, none⟩ (.int .i64 m)).setCell ⟨b, 3, none⟩ (.int .i64 r)
/-- What holds all through the statement that makes the bond. -/
abbrev QK (w : World) (fb tb : Nat) (y1 m1 d1 y2 m2 d2 : Int) (W : World) : Prop := Kp w [(tb, 24, dtA y2 m2 d2), (fb, 24, dtA y1 m1 d1), (w.heap.size, 35, bdA 0 0 0 0)] W
structure QN (w : World) (wb fb tb nb : Nat) (a b c d : List UInt8) (y1 m1 d1 y2 m2 d2 : Int) (W : World) : Prop where
  k : QK w fb tb y1 m1 d1 y2 m2 d2 W
  d : Wd wb a b c d W
  n : Blk W nb 35 (bdA 0 0 0 0)
  l1 : wb < nb
  l2 : fb < nb
  l3 : tb < nb
  l4 : w.heap.size < nb
section
variable {w W W' : World} {wb fb tb nb : Nat} {a b c d : List UInt8} {y1 m1 d1 y2 m2 d2 : Int}
theorem QN.new (k : QK w fb tb y1 m1 d1 y2 m2 d2 W) (h : Wd wb a b c d W) {B : Nat} (hb : Below B (W.alloc (.cells (bdA 0 0 0 0) 35)) W') (hB : B = (W.alloc (.cells (bdA 0 0 0 0) 35)).heap.size) (hn : W.heap.size = nb) : QN w wb fb tb nb a b c d y1 m1 d1 y2 m2 d2 W' := by
  subst hB; subst hn
  exact ⟨(k.alloc _).below hb, (h.alloc _).below hb, (Blk.new W _ _).below hb (by simp), h.lt, k.second.lt, k.first.lt, k.third.lt⟩
theorem QN.newD (k : QK w fb tb y1 m1 d1 y2 m2 d2 W) (h : Wd wb a b c d W) {B : Nat} (hb : Below B (W.alloc (.cells (bdA 0 0 0 0) 35)).drew W') (hB : B = (W.alloc (.cells (bdA 0 0 0 0) 35)).drew.heap.size) (hn : W.heap.size = nb) : QN w wb fb tb nb a b c d y1 m1 d1 y2 m2 d2 W' := by
  subst hB; subst hn
  have q : Blk (W.alloc (.cells (bdA 0 0 0 0) 35)).drew W.heap.size 35 (bdA 0 0 0 0) := Blk.new W _ _
  have lt : W.heap.size < (W.alloc (.cells (bdA 0 0 0 0) 35)).drew.heap.size := by
    show W.heap.size < (W.alloc (.cells (bdA 0 0 0 0) 35)).heap.size
    simp
  have k' : QK w fb tb y1 m1 d1 y2 m2 d2 (W.alloc (.cells (bdA 0 0 0 0) 35)).drew := (k.alloc _).drew
  have h' : Wd wb a b c d (W.alloc (.cells (bdA 0 0 0 0) 35)).drew := (h.alloc _).drew
  exact ⟨k'.below hb, h'.below hb, q.below hb lt, h.lt, k.second.lt, k.first.lt, k.third.lt⟩
theorem QN.below (h : QN w wb fb tb nb a b c d y1 m1 d1 y2 m2 d2 W) {B : Nat} (hb : Below B W W') (hB : B = W.heap.size) : QN w wb fb tb nb a b c d y1 m1 d1 y2 m2 d2 W' := by
  subst hB
  exact ⟨h.k.below hb, h.d.below hb, h.n.below hb h.n.lt, h.l1, h.l2, h.l3, h.l4⟩
theorem QN.ps (h : QN w wb fb tb nb a b c d y1 m1 d1 y2 m2 d2 W) (s e m r : Int) : PS wb fb tb a d y1 m1 d1 y2 m2 d2 (P4 W nb s e m r) := by
  have q1 := h.l1
  have q2 := h.l2
  have q3 := h.l3
  have kf : Blk (put4 W nb s e m r) fb 24 (dtA y1 m1 d1) := put4_far h.k.second (by omega) s e m r
  have kt : Blk (put4 W nb s e m r) tb 24 (dtA y2 m2 d2) := put4_far h.k.first (by omega) s e m r
  refine ⟨?_, ?_, kf.three.1, kt.three.1⟩
  · rw [World.cell?_setCell_other _ _ _ _ (by intro e; injection e; omega), World.cell?_setCell_other _ _ _ _ (by intro e; injection e; omega), World.cell?_setCell_other _ _ _ _ (by intro e; injection e; omega), World.cell?_setCell_other _ _ _ _ (by intro e; injection e; omega)]
    exact h.d.w0
  · rw [World.cell?_setCell_other _ _ _ _ (by intro e; injection e; omega), World.cell?_setCell_other _ _ _ _ (by intro e; injection e; omega), World.cell?_setCell_other _ _ _ _ (by intro e; injection e; omega), World.cell?_setCell_other _ _ _ _ (by intro e; injection e; omega)]
    exact h.d.w3
/-- What holds behind it. -/
abbrev QE (w : World) (nb : Nat) (s e m r : Int) (W : World) : Prop := Kp w [(nb, 35, bdA s e m r), (w.heap.size, 35, bdA 0 0 0 0)] W
theorem QN.fin (h : QN w wb fb tb nb a b c d y1 m1 d1 y2 m2 d2 W) (s e m r : Int) : QE w nb s e m r (P4 W nb s e m r) := by
  have q4 := h.l4
  have e1 : Blk (put4 W nb s e m r) nb 35 (bdA s e m r) := put4_blk h.n s e m r
  have e2 : Blk (put4 W nb s e m r) w.heap.size 35 (bdA 0 0 0 0) := put4_far h.k.third (by omega) s e m r
  have e3 : Below w.heap.size w (put4 W nb s e m r) := put4_below h.k.1 (by omega) s e m r
  exact ⟨e3, fun t ht => by
    simp only [List.mem_cons, List.not_mem_nil, or_false] at ht
    rcases ht with rfl | rfl
    · exact e1
    · exact e2⟩
theorem QK.fin (k : QK w fb tb y1 m1 d1 y2 m2 d2 W) (s e m r : Int) : QE w W.heap.size s e m r (W.alloc (.cells (bdA s e m r) 35)) :=
  ⟨(k.alloc _).1, fun t ht => by
    simp only [List.mem_cons, List.not_mem_nil, or_false] at ht
    rcases ht with rfl | rfl
    · exact Blk.new W _ _
    · exact (k.alloc _).third⟩
end
set_option maxHeartbeats 4000000 in
theorem sparseB_four (l a b c d : List UInt8) (w : World) (hl : l.length ≤ 1048576) (hw : spl l [] = [a, b, c, d]) (h1 : 4 ≤ a.length) (h2 : a.length ≤ 5) (h3 : d.length ≤ 2) (hb : Dt.ok b = true) (hc : Dt.ok c = true)
    (hp : 0 ≤ nbr a 0 (a.length - 3) 0) (hq : 0 ≤ nbr a (a.length - 2) 2 0) (s e m r : Int) (hs : Cal.num (Dt.val b).1 (Dt.val b).2.1 (Dt.val b).2.2 = s) (he : Cal.num (Dt.val c).1 (Dt.val c).2.1 (Dt.val c).2.2 = e)
    (hm : nbr d 0 d.length 0 = m) (hr : 100 * nbr a 0 (a.length - 3) 0 + nbr a (a.length - 2) 2 0 = r) :
    Calls Tryd.prog 27 #[str l] w fun x w' => x = .returned (.tuple #[bdV (Bt.out (s, e, m, r) l).1 (Bt.out (s, e, m, r) l).2.1 (Bt.out (s, e, m, r) l).2.2.1 (Bt.out (s, e, m, r) l).2.2.2, .bool (Bt.conf (s, e, m, r) l)]) ∧ Below w.heap.size w w' := by
  have K0 := (Kp.refl w).new 35 (bdA 0 0 0 0)
  have v1 := vldB_iff.1 (Dt.ok_vld hb).1
  have v2 := vldB_iff.1 (Dt.ok_vld hc).1
  obtain ⟨⟨y1, m1, d1⟩, e1⟩ : ∃ t, Dt.val b = t := ⟨_, rfl⟩
  obtain ⟨⟨y2, m2, d2⟩, e2⟩ : ∃ t, Dt.val c = t := ⟨_, rfl⟩
  have SM := Lib.hid (fun W => sSplit_any l W hl)
  have PB := Lib.hid (fun W => sparseD_any b W)
  have PC := Lib.hid (fun W => sparseD_any c W)
  rw [e1] at v1 hs PB
  rw [e2] at v2 he PC
  simp only at v1 hs v2 he
  rw [hb] at PB
  rw [hc] at PC
  rw [hw] at SM
  have b1 := nbr_bd a (a.length - 3) 0 0 (by omega) (by omega) (by omega)
  have b2 := nbr_bd a 2 (a.length - 2) 0 (by omega) (by omega) (by omega)
  obtain ⟨p, hp'⟩ : ∃ p, nbr a 0 (a.length - 3) 0 = p := ⟨_, rfl⟩
  obtain ⟨q, hq'⟩ : ∃ q, nbr a (a.length - 2) 2 0 = q := ⟨_, rfl⟩
  have D1 := Lib.hid (fun W => sDayOf_any y1 m1 d1 W v1)
  have D2 := Lib.hid (fun W => sDayOf_any y2 m2 d2 W v2)
  rw [hs] at D1
  rw [he] at D2
  have N1 := Lib.hid (fun W => snum_any a 0 (a.length - 3) 0 ((a.length : Int) - 3) W (by omega) (by omega) rfl (by omega))
  have N2 := Lib.hid (fun W => snum_any a (a.length - 2) 2 ((a.length : Int) - 2) (a.length : Int) W (by omega) (by omega) (by omega) (by omega))
  have N3 := Lib.hid (fun W => snum_any d 0 d.length 0 (d.length : Int) W (by omega) (by omega) rfl (by omega))
  rw [hp'] at N1 hp hr b1
  rw [hq'] at N2 hq hr b2
  rw [hm] at N3
  have VB := Lib.hid (fun W => sVBond_any s e m r W)
  have FB := Lib.hid (fun W h => sfmtB0_any s e m r W h)
  have g1 : decide ((a.length : Int) < 4) = false := decide_eq_false (by omega)
  have g2 : decide (5 < (a.length : Int)) = false := decide_eq_false (by omega)
  have g3 : decide (2 < (d.length : Int)) = false := decide_eq_false (by omega)
  have p0 : decide (p < 0) = false := decide_eq_false (by omega)
  have q0 : decide (q < 0) = false := decide_eq_false (by omega)
  have z1 : IntKind.i64.wrap ((a.length : Int) - 3) = (a.length : Int) - 3 := IntWalk.i64_in _ (by omega)
  have z2 : IntKind.i64.wrap ((a.length : Int) - 2) = (a.length : Int) - 2 := IntWalk.i64_in _ (by omega)
  have z3 : IntKind.i64.wrap (100 * p) = 100 * p := IntWalk.i64_in _ (by omega)
  have z4 : IntKind.i64.wrap (100 * p + q) = r := by rw [← hr]; exact IntWalk.i64_in _ (by omega)
  clear hw hs he hm hr hb hc hp hq e1 e2 hp' hq' v1 v2 b1 b2 hl
  go_enter Tryd.func27, Tryd.ntmps27
  go_wp2_with fail
  refine (SM.out _).mono ?_
  rintro x w1 ⟨v, rfl, ho, hb⟩
  obtain ⟨wb, cap, rfl, hd⟩ := words4 ho
  replace K0 := K0.below hb
  clear ho hb
  have HD := Lib.hid hd
  obtain ⟨-, a0, a1, a2, a3⟩ := hd
  go_wp2_with fail
  refine (PB.out _).mono ?_
  rintro x w2 ⟨rfl, hb⟩
  have D2w := Lib.hid ((HD.out.below hb).alloc (.cells (dtA y1 m1 d1) 24))
  replace K0 := (K0.below hb).new 24 (dtA y1 m1 d1)
  clear hb a0 a1 a2 a3 HD
  obtain ⟨-, a0, a1, a2, a3⟩ := D2w.out
  go_wp2_with fail
  refine (PC.out _).mono ?_
  rintro x w3 ⟨rfl, hb⟩
  have D3w := Lib.hid ((D2w.out.below hb).alloc (.cells (dtA y2 m2 d2) 24))
  replace K0 := (K0.below hb).new 24 (dtA y2 m2 d2)
  clear hb a0 a1 a2 a3 D2w
  obtain ⟨-, a0, a1, a2, a3⟩ := D3w.out
  go_wp2_with fail
  refine (N1.out _).mono ?_
  rintro x w' ⟨rfl, rfl⟩
  go_wp2_with fail
  refine (N2.out _).mono ?_
  rintro x w' ⟨rfl, rfl⟩
  go_wp2_with fail
  clear a0 a1 a2 a3
  obtain ⟨a0, a3, ⟨x0, x1, x2⟩, y0', y1', y2'⟩ := PS.of K0 D3w.out
  replace K0 : QK w w2.heap.size w3.heap.size y1 m1 d1 y2 m2 d2 _ := K0
  go_region_held3 (PS wb w2.heap.size w3.heap.size a d y1 m1 d1 y2 m2 d2) (first | with_reducible exact Q2.ps s e m r | with_reducible exact PS.of K2 W2 | with_reducible exact PS.of (K2.alloc _) (W2.alloc _) | with_reducible exact PS.of K1 W1 | with_reducible exact PS.of (K1.alloc _) (W1.alloc _) | with_reducible exact PS.of K0.drew D3w.out.drew | with_reducible exact PS.of (K0.drew.alloc _) (D3w.out.drew.alloc _) | with_reducible exact PS.of (K0.alloc _).drew (D3w.out.alloc _).drew | with_reducible exact PS.of (K0.alloc _) (D3w.out.alloc _) | fail "nokeep") (first | ((go_at_call 58; (with_reducible refine (D1.out _).mono ?_); rintro x w4 ⟨rfl, hb4⟩; have K1 : QK w w2.heap.size w3.heap.size y1 m1 d1 y2 m2 d2 w4 := (by first | with_reducible exact K0.drew.below hb4 | with_reducible exact (K0.drew.alloc _).below hb4 | with_reducible exact (K0.alloc _).drew.below hb4); have W1 : Wd wb a b c d w4 := (by first | with_reducible exact D3w.out.drew.below hb4 | with_reducible exact (D3w.out.drew.alloc _).below hb4 | with_reducible exact (D3w.out.alloc _).drew.below hb4); (first | (have Q1 := QN.new (nb := w3.heap.size + 1) K0.drew D3w.out.drew hb4 rfl (by simp); have f4 := fourFz Q1.n; obtain ⟨n0, n1, n2, n3⟩ := Q1.n.four; obtain ⟨o0, o1, o2, o3⟩ := f4) | (have Q1 := QN.newD (nb := w3.heap.size + 1) K0 D3w.out hb4 rfl (by simp); have f4 := fourFz Q1.n; obtain ⟨n0, n1, n2, n3⟩ := Q1.n.four; obtain ⟨o0, o1, o2, o3⟩ := f4) | skip))) | ((go_at_call 58; (with_reducible refine (D2.out _).mono ?_); rintro x w5 ⟨rfl, hb5⟩; have K2 : QK w w2.heap.size w3.heap.size y1 m1 d1 y2 m2 d2 w5 := (by first | with_reducible exact K1.below hb5 | with_reducible exact (K1.alloc _).below hb5); have W2 : Wd wb a b c d w5 := (by first | with_reducible exact W1.below hb5 | with_reducible exact (W1.alloc _).below hb5); (first | (have Q2 := Q1.below hb5 rfl; clear n0 n1 n2 n3 o0 o1 o2 o3; have f4 := fourFz Q2.n; obtain ⟨n0, n1, n2, n3⟩ := Q2.n.four; obtain ⟨o0, o1, o2, o3⟩ := f4) | (have Q2 := QN.new (nb := w4.heap.size) K1 W1 hb5 rfl rfl; have f4 := fourFz Q2.n; obtain ⟨n0, n1, n2, n3⟩ := Q2.n.four; obtain ⟨o0, o1, o2, o3⟩ := f4) | skip))) | ((go_at_call 44; (with_reducible refine (N3.out _).mono ?_); rintro x w' ⟨rfl, rfl⟩)) | ((go_at_call 44; (with_reducible refine (N1.out _).mono ?_); rintro x w' ⟨rfl, rfl⟩)) | ((go_at_call 44; (with_reducible refine (N2.out _).mono ?_); rintro x w' ⟨rfl, rfl⟩)))
  all_goals
    first | (have Z := Q2.fin s e m r; try clear n0 n1 n2 n3 o0 o1 o2 o3) | have Z := QK.fin K2 s e m r
    clear a0 a3 x0 x1 x2 y0' y1' y2' K1 K2 W1 W2 hb4 hb5
    obtain ⟨n0, n1, n2, n3⟩ := Z.first.four
    go_wp2_with fail
    clear n0 n1 n2 n3
    refine (VB.out _).mono ?_
    rintro x w6 ⟨rfl, hb6⟩
    replace Z := Z.below hb6
    clear hb6
    cases h : vbB s e m r with
    | false =>
      have E : Bt.conf (s, e, m, r) l = false := by
        cases q : Bt.conf (s, e, m, r) l with
        | false => rfl
        | true => rw [(Bt.conf_iff.1 q).1] at h; cases h
      have EO := Lib.hid (Bt.out_no E)
      have EC := Lib.hid E
      clear h E
      have ff := fourFz Z.second
      obtain ⟨n0, n1, n2, n3⟩ := Z.second.four
      obtain ⟨f0, f1, f2, f3⟩ := ff
      go_wp2_with fail
      obtain ⟨q0, q1, q2, q3⟩ := (put4_blk Z.second 0 0 0 0).four
      unfold put4 at q0 q1 q2 q3
      refine bodyPost_ret (v := .tuple #[bdV 0 0 0 0, .bool false]) (by simp [results, Tryd.results27, go_sem, q0, q1, q2, q3]) rfl ⟨by rw [EO.out, EC.out], put4_below Z.1 (Nat.le_refl _) 0 0 0 0⟩
    | true =>
      obtain ⟨F, hF⟩ : ∃ F, Bt.txt r.toNat (Dy s) (Dy e) m.toNat = F := ⟨_, rfl⟩
      have FM := Lib.hid (fun W => FB.out W h)
      rw [hF] at FM
      obtain ⟨n0, n1, n2, n3⟩ := Z.first.four
      by_cases hq : F = l
      · have E : Bt.conf (s, e, m, r) l = true := Bt.conf_iff.2 ⟨h, hF.trans hq⟩
        have EO := Lib.hid (Bt.out_yes E)
        have EC := Lib.hid E
        have hs : (F == l) = true := by simp [hq]
        clear h E hF
        subst hq
        go_wp2_with fail
        refine (FM.out _).mono ?_
        rintro x w7 ⟨rfl, hb7⟩
        replace Z := Z.below hb7
        clear hb7 n0 n1 n2 n3
        obtain ⟨n0, n1, n2, n3⟩ := Z.first.four
        have ff := fourFz Z.second
        obtain ⟨i0, i1, i2, i3⟩ := Z.second.four
        obtain ⟨f0, f1, f2, f3⟩ := ff
        go_wp2_with fail
        obtain ⟨q0, q1, q2, q3⟩ := (put4_blk Z.second s e m r).four
        unfold put4 at q0 q1 q2 q3
        refine bodyPost_ret (v := .tuple #[bdV s e m r, .bool true]) (by simp [results, Tryd.results27, go_sem, q0, q1, q2, q3]) rfl ⟨by rw [EO.out, EC.out], put4_below Z.1 (Nat.le_refl _) s e m r⟩
      · have E : Bt.conf (s, e, m, r) l = false := by
          cases q : Bt.conf (s, e, m, r) l with
          | false => rfl
          | true => exact absurd (hF.symm.trans (Bt.conf_iff.1 q).2) hq
        have EO := Lib.hid (Bt.out_no E)
        have EC := Lib.hid E
        have hs : (F == l) = false := by simp [hq]
        clear h E hF hq
        go_wp2_with fail
        refine (FM.out _).mono ?_
        rintro x w7 ⟨rfl, hb7⟩
        replace Z := Z.below hb7
        clear hb7 n0 n1 n2 n3
        have ff := fourFz Z.second
        obtain ⟨i0, i1, i2, i3⟩ := Z.second.four
        obtain ⟨f0, f1, f2, f3⟩ := ff
        go_wp2_with fail
        obtain ⟨q0, q1, q2, q3⟩ := (put4_blk Z.second 0 0 0 0).four
        unfold put4 at q0 q1 q2 q3
        refine bodyPost_ret (v := .tuple #[bdV 0 0 0 0, .bool false]) (by simp [results, Tryd.results27, go_sem, q0, q1, q2, q3]) rfl ⟨by rw [EO.out, EC.out], put4_below Z.1 (Nat.le_refl _) 0 0 0 0⟩
theorem Bt.uniq {s e m r : Int} {l : List UInt8} (h : Bt.conf (s, e, m, r) l = true) : Bt.pb l = (s, e, m, r) := by
  obtain ⟨hv, rfl⟩ := Bt.conf_iff.1 h
  obtain ⟨⟨s0, s1, e1⟩, ⟨m0, m1⟩, r0, r1⟩ := vbT hv
  have a1 := Cal.Y_bd (n := s) (by omega) (by omega)
  have a2 := Cal.M_bd (n := s) (by omega) (by omega)
  have a3 := Cal.D_bd (n := s) (by omega) (by omega)
  have b1 := Cal.Y_bd (n := e) (by omega) (by omega)
  have b2 := Cal.M_bd (n := e) (by omega) (by omega)
  have b3 := Cal.D_bd (n := e) (by omega) (by omega)
  have k := Bt.read_txt (r := r.toNat) (m := m.toNat) (y1 := (Cal.Y s).toNat) (m1 := (Cal.M s).toNat) (d1 := (Cal.D s).toNat) (y2 := (Cal.Y e).toNat) (m2 := (Cal.M e).toNat) (d2 := (Cal.D e).toNat) (by omega) (by omega) (by omega) (by omega) (by omega) (by omega) (by omega) (by omega)
  have q1 : dayV (Cal.Y s) (Cal.M s) (Cal.D s) = s := by unfold dayV; rw [if_pos (vld_of (by omega) (by omega))]; exact Cal.num_dt (by omega) (by omega)
  have q2 : dayV (Cal.Y e) (Cal.M e) (Cal.D e) = e := by unfold dayV; rw [if_pos (vld_of (by omega) (by omega))]; exact Cal.num_dt (by omega) (by omega)
  unfold Bt.pb Dy
  rw [k]
  simp only
  rw [Int.toNat_of_nonneg (by omega), Int.toNat_of_nonneg (by omega), Int.toNat_of_nonneg (by omega), Int.toNat_of_nonneg (by omega), Int.toNat_of_nonneg (by omega), Int.toNat_of_nonneg (by omega), Int.toNat_of_nonneg (by omega), Int.toNat_of_nonneg (by omega), q1, q2]
theorem Bt.ok_no {l : List UInt8} (h : Bt.ok l = false) : Bt.val l = (0, 0, 0, 0) := Bt.out_no h
theorem Dy.val {n : Int} (h0 : 0 ≤ n) (h1 : n ≤ 36524) : Dt.ok (Dy n) = true ∧ Cal.num (Dt.val (Dy n)).1 (Dt.val (Dy n)).2.1 (Dt.val (Dy n)).2.2 = n := by
  have k := Dt.round (vld_of h0 h1)
  rw [Dt.fmt_yes (vld_of h0 h1)] at k
  obtain ⟨k1, k2, -⟩ := k
  unfold Dy
  rw [k1]
  exact ⟨k2, Cal.num_dt h0 h1⟩
theorem Dy.ns {n : Int} (h0 : 0 ≤ n) (h1 : n ≤ 36524) : ∀ c ∈ Dy n, c ≠ 32 := by
  have a2 := Cal.M_bd h0 h1
  have a3 := Cal.D_bd h0 h1
  exact Dt.txt_ns (by omega) (by omega)
/-- The words of the text of a bond. -/
theorem Bt.ok_words {l : List UInt8} (h : Bt.ok l = true) : ∃ s e m r : Int, Bt.pb l = (s, e, m, r) ∧ ((0 ≤ s ∧ s < e ∧ e ≤ 36524) ∧ (1 ≤ m ∧ m ≤ 12) ∧ (0 ≤ r ∧ r ≤ 3000)) ∧ spl l [] = [Bt.rt r.toNat, Dy s, Dy e, Lib.decDigits m.toNat] := by
  obtain ⟨⟨s, e, m, r⟩, hr⟩ : ∃ t, Bt.pb l = t := ⟨_, rfl⟩
  unfold Bt.ok at h
  rw [hr] at h
  obtain ⟨hv, ht⟩ := Bt.conf_iff.1 h
  have b := vbT hv
  exact ⟨s, e, m, r, hr, b, by rw [← ht]; exact Bt.words (Dy.ns (by omega) (by omega)) (Dy.ns (by omega) (by omega))⟩
/-- What the model's way asks of a text's words. -/
theorem Bt.ok_four {l a b c d : List UInt8} (h : Bt.ok l = true) (hw : spl l [] = [a, b, c, d]) : 4 ≤ a.length ∧ a.length ≤ 5 ∧ d.length ≤ 2 ∧ Dt.ok b = true ∧ Dt.ok c = true ∧ 0 ≤ nbr a 0 (a.length - 3) 0 ∧ 0 ≤ nbr a (a.length - 2) 2 0 ∧
    Bt.pb l = (Cal.num (Dt.val b).1 (Dt.val b).2.1 (Dt.val b).2.2, Cal.num (Dt.val c).1 (Dt.val c).2.1 (Dt.val c).2.2, nbr d 0 d.length 0, 100 * nbr a 0 (a.length - 3) 0 + nbr a (a.length - 2) 2 0) := by
  obtain ⟨s, e, m, r, hp, ⟨⟨s0, s1, e1⟩, ⟨m0, m1⟩, r0, r1⟩, hw'⟩ := Bt.ok_words h
  rw [hw] at hw'
  simp only [List.cons.injEq, and_true] at hw'
  obtain ⟨rfl, rfl, rfl, rfl⟩ := hw'
  have k1 := Bt.rt_len (r := r.toNat) (by omega)
  obtain ⟨k2, k3⟩ := Bt.rt_read (r := r.toNat) (by omega)
  have k4 := Bt.mo_read (m := m.toNat) (by omega)
  have k5 := Dy.val (n := s) (by omega) (by omega)
  have k6 := Dy.val (n := e) (by omega) (by omega)
  have k7 : (Lib.decDigits m.toNat).length ≤ 2 := by
    rw [dec_three (n := m.toNat) (by omega)]
    split
    · simp
    · rw [if_pos (by omega)]; simp
  rw [k2, k3, k4, k5.2, k6.2, hp]
  refine ⟨k1.1, k1.2, k7, k5.1, k6.1, by omega, by omega, ?_⟩
  simp only [Prod.mk.injEq, true_and]
  omega
theorem Bt.same {l : List UInt8} {t : Int × Int × Int × Int} (h : Bt.ok l = true → Bt.pb l = t) : Bt.conf t l = Bt.ok l ∧ Bt.out t l = Bt.val l := by
  unfold Bt.val Bt.ok at *
  cases h1 : Bt.conf (Bt.pb l) l with
  | true => rw [← h h1, h1]; exact ⟨rfl, rfl⟩
  | false =>
    cases h2 : Bt.conf t l with
    | true =>
      obtain ⟨s, e, m, r⟩ := t
      rw [Bt.uniq h2, h2] at h1
      cases h1
    | false => rw [Bt.out_no h1, Bt.out_no h2]; exact ⟨rfl, rfl⟩
set_option maxHeartbeats 1000000 in
theorem sparseB_w0 (l : List UInt8) (w : World) (hl : l.length ≤ 1048576) (h : (spl l []).length ≠ 4) :
    Calls Tryd.prog 27 #[str l] w fun x w' => x = .returned (.tuple #[bdV 0 0 0 0, .bool false]) ∧ Below w.heap.size w w' := by
  have K0 := (Kp.refl w).new 35 (bdA 0 0 0 0)
  have SM := Lib.hid (fun W => sSplit_any l W hl)
  obtain ⟨ws, hw⟩ : ∃ ws, spl l [] = ws := ⟨_, rfl⟩
  rw [hw] at SM h
  have g0 : ((ws.length : Int) != 4) = true := by simp; omega
  clear hw h
  go_enter Tryd.func27, Tryd.ntmps27
  go_wp2_with fail
  refine (SM.out _).mono ?_
  rintro x w1 ⟨v, rfl, ho, hb⟩
  obtain ⟨wb, cap, rfl, -⟩ := ho.form
  replace K0 := K0.below hb
  clear ho hb
  have ff := fourFz K0.first
  obtain ⟨i0, i1, i2, i3⟩ := K0.first.four
  obtain ⟨f0, f1, f2, f3⟩ := ff
  go_wp2_with fail
  obtain ⟨q0, q1, q2, q3⟩ := (put4_blk K0.first 0 0 0 0).four
  unfold put4 at q0 q1 q2 q3
  refine bodyPost_ret (v := .tuple #[bdV 0 0 0 0, .bool false]) (by simp [results, Tryd.results27, go_sem, q0, q1, q2, q3]) rfl ⟨rfl, put4_below K0.1 (Nat.le_refl _) 0 0 0 0⟩
set_option maxHeartbeats 2000000 in
theorem sparseB_w1 (l a b c d : List UInt8) (w : World) (hl : l.length ≤ 1048576) (hw : spl l [] = [a, b, c, d]) (h1 : a.length < 4) :
    Calls Tryd.prog 27 #[str l] w fun x w' => x = .returned (.tuple #[bdV 0 0 0 0, .bool false]) ∧ Below w.heap.size w w' := by
  have K0 := (Kp.refl w).new 35 (bdA 0 0 0 0)
  have SM := Lib.hid (fun W => sSplit_any l W hl)
  rw [hw] at SM
  have g1 : decide ((a.length : Int) < 4) = true := decide_eq_true (by omega)
  clear hw
  go_enter Tryd.func27, Tryd.ntmps27
  go_wp2_with fail
  refine (SM.out _).mono ?_
  rintro x w1 ⟨v, rfl, ho, hb⟩
  obtain ⟨wb, cap, rfl, hd⟩ := words4 ho
  replace K0 := K0.below hb
  clear ho hb
  have HD := Lib.hid hd
  obtain ⟨-, a0, a1, a2, a3⟩ := hd
  clear h1
  have ff := fourFz K0.first
  obtain ⟨i0, i1, i2, i3⟩ := K0.first.four
  obtain ⟨f0, f1, f2, f3⟩ := ff
  go_wp2_with fail
  obtain ⟨q0, q1, q2, q3⟩ := (put4_blk K0.first 0 0 0 0).four
  unfold put4 at q0 q1 q2 q3
  refine bodyPost_ret (v := .tuple #[bdV 0 0 0 0, .bool false]) (by simp [results, Tryd.results27, go_sem, q0, q1, q2, q3]) rfl ⟨rfl, put4_below K0.1 (Nat.le_refl _) 0 0 0 0⟩
set_option maxHeartbeats 2000000 in
theorem sparseB_w2 (l a b c d : List UInt8) (w : World) (hl : l.length ≤ 1048576) (hw : spl l [] = [a, b, c, d]) (h2 : 5 < a.length) :
    Calls Tryd.prog 27 #[str l] w fun x w' => x = .returned (.tuple #[bdV 0 0 0 0, .bool false]) ∧ Below w.heap.size w w' := by
  have K0 := (Kp.refl w).new 35 (bdA 0 0 0 0)
  have SM := Lib.hid (fun W => sSplit_any l W hl)
  rw [hw] at SM
  have g1 : decide ((a.length : Int) < 4) = false := decide_eq_false (by omega)
  have g2 : decide (5 < (a.length : Int)) = true := decide_eq_true (by omega)
  clear hw
  go_enter Tryd.func27, Tryd.ntmps27
  go_wp2_with fail
  refine (SM.out _).mono ?_
  rintro x w1 ⟨v, rfl, ho, hb⟩
  obtain ⟨wb, cap, rfl, hd⟩ := words4 ho
  replace K0 := K0.below hb
  clear ho hb
  have HD := Lib.hid hd
  obtain ⟨-, a0, a1, a2, a3⟩ := hd
  clear h2
  have ff := fourFz K0.first
  obtain ⟨i0, i1, i2, i3⟩ := K0.first.four
  obtain ⟨f0, f1, f2, f3⟩ := ff
  go_wp2_with fail
  obtain ⟨q0, q1, q2, q3⟩ := (put4_blk K0.first 0 0 0 0).four
  unfold put4 at q0 q1 q2 q3
  refine bodyPost_ret (v := .tuple #[bdV 0 0 0 0, .bool false]) (by simp [results, Tryd.results27, go_sem, q0, q1, q2, q3]) rfl ⟨rfl, put4_below K0.1 (Nat.le_refl _) 0 0 0 0⟩
set_option maxHeartbeats 2000000 in
theorem sparseB_w3 (l a b c d : List UInt8) (w : World) (hl : l.length ≤ 1048576) (hw : spl l [] = [a, b, c, d]) (h1 : 4 ≤ a.length) (h2 : a.length ≤ 5) (h3 : 2 < d.length) :
    Calls Tryd.prog 27 #[str l] w fun x w' => x = .returned (.tuple #[bdV 0 0 0 0, .bool false]) ∧ Below w.heap.size w w' := by
  have K0 := (Kp.refl w).new 35 (bdA 0 0 0 0)
  have SM := Lib.hid (fun W => sSplit_any l W hl)
  rw [hw] at SM
  have g1 : decide ((a.length : Int) < 4) = false := decide_eq_false (by omega)
  have g2 : decide (5 < (a.length : Int)) = false := decide_eq_false (by omega)
  have g3 : decide (2 < (d.length : Int)) = true := decide_eq_true (by omega)
  clear hw
  go_enter Tryd.func27, Tryd.ntmps27
  go_wp2_with fail
  refine (SM.out _).mono ?_
  rintro x w1 ⟨v, rfl, ho, hb⟩
  obtain ⟨wb, cap, rfl, hd⟩ := words4 ho
  replace K0 := K0.below hb
  clear ho hb
  have HD := Lib.hid hd
  obtain ⟨-, a0, a1, a2, a3⟩ := hd
  clear h1 h2 h3
  have ff := fourFz K0.first
  obtain ⟨i0, i1, i2, i3⟩ := K0.first.four
  obtain ⟨f0, f1, f2, f3⟩ := ff
  go_wp2_with fail
  obtain ⟨q0, q1, q2, q3⟩ := (put4_blk K0.first 0 0 0 0).four
  unfold put4 at q0 q1 q2 q3
  refine bodyPost_ret (v := .tuple #[bdV 0 0 0 0, .bool false]) (by simp [results, Tryd.results27, go_sem, q0, q1, q2, q3]) rfl ⟨rfl, put4_below K0.1 (Nat.le_refl _) 0 0 0 0⟩
set_option maxHeartbeats 2000000 in
theorem sparseB_w4 (l a b c d : List UInt8) (w : World) (hl : l.length ≤ 1048576) (hw : spl l [] = [a, b, c, d]) (h1 : 4 ≤ a.length) (h2 : a.length ≤ 5) (h3 : d.length ≤ 2) (hb : Dt.ok b = false) :
    Calls Tryd.prog 27 #[str l] w fun x w' => x = .returned (.tuple #[bdV 0 0 0 0, .bool false]) ∧ Below w.heap.size w w' := by
  have K0 := (Kp.refl w).new 35 (bdA 0 0 0 0)
  have SM := Lib.hid (fun W => sSplit_any l W hl)
  rw [hw] at SM
  have g1 : decide ((a.length : Int) < 4) = false := decide_eq_false (by omega)
  have g2 : decide (5 < (a.length : Int)) = false := decide_eq_false (by omega)
  have g3 : decide (2 < (d.length : Int)) = false := decide_eq_false (by omega)
  obtain ⟨⟨y1, m1, d1⟩, e1⟩ : ∃ t, Dt.val b = t := ⟨_, rfl⟩
  obtain ⟨⟨y2, m2, d2⟩, e2⟩ : ∃ t, Dt.val c = t := ⟨_, rfl⟩
  have PB := Lib.hid (fun W => sparseD_any b W)
  have PC := Lib.hid (fun W => sparseD_any c W)
  rw [e1] at PB
  rw [e2] at PC
  rw [hb] at PB
  obtain ⟨tw, hc⟩ : ∃ t, Dt.ok c = t := ⟨_, rfl⟩
  rw [hc] at PC
  clear hb hc e1 e2
  clear hw
  go_enter Tryd.func27, Tryd.ntmps27
  go_wp2_with fail
  refine (SM.out _).mono ?_
  rintro x w1 ⟨v, rfl, ho, hb⟩
  obtain ⟨wb, cap, rfl, hd⟩ := words4 ho
  replace K0 := K0.below hb
  clear ho hb
  have HD := Lib.hid hd
  obtain ⟨-, a0, a1, a2, a3⟩ := hd
  go_wp2_with fail
  refine (PB.out _).mono ?_
  rintro x w2 ⟨rfl, hb⟩
  have D2w := Lib.hid ((HD.out.below hb).alloc (.cells (dtA y1 m1 d1) 24))
  replace K0 := (K0.below hb).new 24 (dtA y1 m1 d1)
  clear hb a0 a1 a2 a3 HD
  obtain ⟨-, a0, a1, a2, a3⟩ := D2w.out
  go_wp2_with fail
  refine (PC.out _).mono ?_
  rintro x w3 ⟨rfl, hb⟩
  have D3w := Lib.hid ((D2w.out.below hb).alloc (.cells (dtA y2 m2 d2) 24))
  replace K0 := (K0.below hb).new 24 (dtA y2 m2 d2)
  clear hb a0 a1 a2 a3 D2w
  obtain ⟨-, a0, a1, a2, a3⟩ := D3w.out
  have ff := fourFz K0.third
  obtain ⟨i0, i1, i2, i3⟩ := K0.third.four
  obtain ⟨f0, f1, f2, f3⟩ := ff
  go_wp2_with fail
  obtain ⟨q0, q1, q2, q3⟩ := (put4_blk K0.third 0 0 0 0).four
  unfold put4 at q0 q1 q2 q3
  refine bodyPost_ret (v := .tuple #[bdV 0 0 0 0, .bool false]) (by simp [results, Tryd.results27, go_sem, q0, q1, q2, q3]) rfl ⟨rfl, put4_below K0.1 (Nat.le_refl _) 0 0 0 0⟩
set_option maxHeartbeats 2000000 in
theorem sparseB_w5 (l a b c d : List UInt8) (w : World) (hl : l.length ≤ 1048576) (hw : spl l [] = [a, b, c, d]) (h1 : 4 ≤ a.length) (h2 : a.length ≤ 5) (h3 : d.length ≤ 2) (hb : Dt.ok b = true) (hc : Dt.ok c = false) :
    Calls Tryd.prog 27 #[str l] w fun x w' => x = .returned (.tuple #[bdV 0 0 0 0, .bool false]) ∧ Below w.heap.size w w' := by
  have K0 := (Kp.refl w).new 35 (bdA 0 0 0 0)
  have SM := Lib.hid (fun W => sSplit_any l W hl)
  rw [hw] at SM
  have g1 : decide ((a.length : Int) < 4) = false := decide_eq_false (by omega)
  have g2 : decide (5 < (a.length : Int)) = false := decide_eq_false (by omega)
  have g3 : decide (2 < (d.length : Int)) = false := decide_eq_false (by omega)
  obtain ⟨⟨y1, m1, d1⟩, e1⟩ : ∃ t, Dt.val b = t := ⟨_, rfl⟩
  obtain ⟨⟨y2, m2, d2⟩, e2⟩ : ∃ t, Dt.val c = t := ⟨_, rfl⟩
  have PB := Lib.hid (fun W => sparseD_any b W)
  have PC := Lib.hid (fun W => sparseD_any c W)
  rw [e1] at PB
  rw [e2] at PC
  rw [hb] at PB
  rw [hc] at PC
  clear hb hc e1 e2
  clear hw
  go_enter Tryd.func27, Tryd.ntmps27
  go_wp2_with fail
  refine (SM.out _).mono ?_
  rintro x w1 ⟨v, rfl, ho, hb⟩
  obtain ⟨wb, cap, rfl, hd⟩ := words4 ho
  replace K0 := K0.below hb
  clear ho hb
  have HD := Lib.hid hd
  obtain ⟨-, a0, a1, a2, a3⟩ := hd
  go_wp2_with fail
  refine (PB.out _).mono ?_
  rintro x w2 ⟨rfl, hb⟩
  have D2w := Lib.hid ((HD.out.below hb).alloc (.cells (dtA y1 m1 d1) 24))
  replace K0 := (K0.below hb).new 24 (dtA y1 m1 d1)
  clear hb a0 a1 a2 a3 HD
  obtain ⟨-, a0, a1, a2, a3⟩ := D2w.out
  go_wp2_with fail
  refine (PC.out _).mono ?_
  rintro x w3 ⟨rfl, hb⟩
  have D3w := Lib.hid ((D2w.out.below hb).alloc (.cells (dtA y2 m2 d2) 24))
  replace K0 := (K0.below hb).new 24 (dtA y2 m2 d2)
  clear hb a0 a1 a2 a3 D2w
  obtain ⟨-, a0, a1, a2, a3⟩ := D3w.out
  have ff := fourFz K0.third
  obtain ⟨i0, i1, i2, i3⟩ := K0.third.four
  obtain ⟨f0, f1, f2, f3⟩ := ff
  go_wp2_with fail
  obtain ⟨q0, q1, q2, q3⟩ := (put4_blk K0.third 0 0 0 0).four
  unfold put4 at q0 q1 q2 q3
  refine bodyPost_ret (v := .tuple #[bdV 0 0 0 0, .bool false]) (by simp [results, Tryd.results27, go_sem, q0, q1, q2, q3]) rfl ⟨rfl, put4_below K0.1 (Nat.le_refl _) 0 0 0 0⟩
set_option maxHeartbeats 2000000 in
theorem sparseB_w6 (l a b c d : List UInt8) (w : World) (hl : l.length ≤ 1048576) (hw : spl l [] = [a, b, c, d]) (h1 : 4 ≤ a.length) (h2 : a.length ≤ 5) (h3 : d.length ≤ 2) (hb : Dt.ok b = true) (hc : Dt.ok c = true) (hp : nbr a 0 (a.length - 3) 0 < 0) :
    Calls Tryd.prog 27 #[str l] w fun x w' => x = .returned (.tuple #[bdV 0 0 0 0, .bool false]) ∧ Below w.heap.size w w' := by
  have K0 := (Kp.refl w).new 35 (bdA 0 0 0 0)
  have SM := Lib.hid (fun W => sSplit_any l W hl)
  rw [hw] at SM
  have g1 : decide ((a.length : Int) < 4) = false := decide_eq_false (by omega)
  have g2 : decide (5 < (a.length : Int)) = false := decide_eq_false (by omega)
  have g3 : decide (2 < (d.length : Int)) = false := decide_eq_false (by omega)
  obtain ⟨⟨y1, m1, d1⟩, e1⟩ : ∃ t, Dt.val b = t := ⟨_, rfl⟩
  obtain ⟨⟨y2, m2, d2⟩, e2⟩ : ∃ t, Dt.val c = t := ⟨_, rfl⟩
  have PB := Lib.hid (fun W => sparseD_any b W)
  have PC := Lib.hid (fun W => sparseD_any c W)
  rw [e1] at PB
  rw [e2] at PC
  rw [hb] at PB
  rw [hc] at PC
  have b1 := nbr_bd a (a.length - 3) 0 0 (by omega) (by omega) (by omega)
  obtain ⟨p, hp'⟩ : ∃ p, nbr a 0 (a.length - 3) 0 = p := ⟨_, rfl⟩
  have N1 := Lib.hid (fun W => snum_any a 0 (a.length - 3) 0 ((a.length : Int) - 3) W (by omega) (by omega) rfl (by omega))
  rw [hp'] at N1 hp b1
  have p0 : decide (p < 0) = true := decide_eq_true (by omega)
  have z1 : IntKind.i64.wrap ((a.length : Int) - 3) = (a.length : Int) - 3 := IntWalk.i64_in _ (by omega)
  clear hb hc e1 e2 hp b1 hp'
  clear hw
  go_enter Tryd.func27, Tryd.ntmps27
  go_wp2_with fail
  refine (SM.out _).mono ?_
  rintro x w1 ⟨v, rfl, ho, hb⟩
  obtain ⟨wb, cap, rfl, hd⟩ := words4 ho
  replace K0 := K0.below hb
  clear ho hb
  have HD := Lib.hid hd
  obtain ⟨-, a0, a1, a2, a3⟩ := hd
  go_wp2_with fail
  refine (PB.out _).mono ?_
  rintro x w2 ⟨rfl, hb⟩
  have D2w := Lib.hid ((HD.out.below hb).alloc (.cells (dtA y1 m1 d1) 24))
  replace K0 := (K0.below hb).new 24 (dtA y1 m1 d1)
  clear hb a0 a1 a2 a3 HD
  obtain ⟨-, a0, a1, a2, a3⟩ := D2w.out
  go_wp2_with fail
  refine (PC.out _).mono ?_
  rintro x w3 ⟨rfl, hb⟩
  have D3w := Lib.hid ((D2w.out.below hb).alloc (.cells (dtA y2 m2 d2) 24))
  replace K0 := (K0.below hb).new 24 (dtA y2 m2 d2)
  clear hb a0 a1 a2 a3 D2w
  obtain ⟨-, a0, a1, a2, a3⟩ := D3w.out
  go_wp2_with fail
  refine (N1.out _).mono ?_
  rintro x w' ⟨rfl, rfl⟩
  have ff := fourFz K0.third
  obtain ⟨i0, i1, i2, i3⟩ := K0.third.four
  obtain ⟨f0, f1, f2, f3⟩ := ff
  go_wp2_with fail
  obtain ⟨q0, q1, q2, q3⟩ := (put4_blk K0.third 0 0 0 0).four
  unfold put4 at q0 q1 q2 q3
  refine bodyPost_ret (v := .tuple #[bdV 0 0 0 0, .bool false]) (by simp [results, Tryd.results27, go_sem, q0, q1, q2, q3]) rfl ⟨rfl, put4_below K0.1 (Nat.le_refl _) 0 0 0 0⟩
set_option maxHeartbeats 2000000 in
theorem sparseB_w7 (l a b c d : List UInt8) (w : World) (hl : l.length ≤ 1048576) (hw : spl l [] = [a, b, c, d]) (h1 : 4 ≤ a.length) (h2 : a.length ≤ 5) (h3 : d.length ≤ 2) (hb : Dt.ok b = true) (hc : Dt.ok c = true) (hp : 0 ≤ nbr a 0 (a.length - 3) 0) (hq : nbr a (a.length - 2) 2 0 < 0) :
    Calls Tryd.prog 27 #[str l] w fun x w' => x = .returned (.tuple #[bdV 0 0 0 0, .bool false]) ∧ Below w.heap.size w w' := by
  have K0 := (Kp.refl w).new 35 (bdA 0 0 0 0)
  have SM := Lib.hid (fun W => sSplit_any l W hl)
  rw [hw] at SM
  have g1 : decide ((a.length : Int) < 4) = false := decide_eq_false (by omega)
  have g2 : decide (5 < (a.length : Int)) = false := decide_eq_false (by omega)
  have g3 : decide (2 < (d.length : Int)) = false := decide_eq_false (by omega)
  obtain ⟨⟨y1, m1, d1⟩, e1⟩ : ∃ t, Dt.val b = t := ⟨_, rfl⟩
  obtain ⟨⟨y2, m2, d2⟩, e2⟩ : ∃ t, Dt.val c = t := ⟨_, rfl⟩
  have PB := Lib.hid (fun W => sparseD_any b W)
  have PC := Lib.hid (fun W => sparseD_any c W)
  rw [e1] at PB
  rw [e2] at PC
  rw [hb] at PB
  rw [hc] at PC
  have b1 := nbr_bd a (a.length - 3) 0 0 (by omega) (by omega) (by omega)
  obtain ⟨p, hp'⟩ : ∃ p, nbr a 0 (a.length - 3) 0 = p := ⟨_, rfl⟩
  have N1 := Lib.hid (fun W => snum_any a 0 (a.length - 3) 0 ((a.length : Int) - 3) W (by omega) (by omega) rfl (by omega))
  rw [hp'] at N1 hp b1
  have p0 : decide (p < 0) = false := decide_eq_false (by omega)
  have z1 : IntKind.i64.wrap ((a.length : Int) - 3) = (a.length : Int) - 3 := IntWalk.i64_in _ (by omega)
  obtain ⟨q, hq'⟩ : ∃ q, nbr a (a.length - 2) 2 0 = q := ⟨_, rfl⟩
  have N2 := Lib.hid (fun W => snum_any a (a.length - 2) 2 ((a.length : Int) - 2) (a.length : Int) W (by omega) (by omega) (by omega) (by omega))
  rw [hq'] at N2 hq
  have q0 : decide (q < 0) = true := decide_eq_true (by omega)
  have z2 : IntKind.i64.wrap ((a.length : Int) - 2) = (a.length : Int) - 2 := IntWalk.i64_in _ (by omega)
  clear hb hc e1 e2 hp b1 hp' hq hq'
  clear hw
  go_enter Tryd.func27, Tryd.ntmps27
  go_wp2_with fail
  refine (SM.out _).mono ?_
  rintro x w1 ⟨v, rfl, ho, hb⟩
  obtain ⟨wb, cap, rfl, hd⟩ := words4 ho
  replace K0 := K0.below hb
  clear ho hb
  have HD := Lib.hid hd
  obtain ⟨-, a0, a1, a2, a3⟩ := hd
  go_wp2_with fail
  refine (PB.out _).mono ?_
  rintro x w2 ⟨rfl, hb⟩
  have D2w := Lib.hid ((HD.out.below hb).alloc (.cells (dtA y1 m1 d1) 24))
  replace K0 := (K0.below hb).new 24 (dtA y1 m1 d1)
  clear hb a0 a1 a2 a3 HD
  obtain ⟨-, a0, a1, a2, a3⟩ := D2w.out
  go_wp2_with fail
  refine (PC.out _).mono ?_
  rintro x w3 ⟨rfl, hb⟩
  have D3w := Lib.hid ((D2w.out.below hb).alloc (.cells (dtA y2 m2 d2) 24))
  replace K0 := (K0.below hb).new 24 (dtA y2 m2 d2)
  clear hb a0 a1 a2 a3 D2w
  obtain ⟨-, a0, a1, a2, a3⟩ := D3w.out
  go_wp2_with fail
  refine (N1.out _).mono ?_
  rintro x w' ⟨rfl, rfl⟩
  go_wp2_with fail
  refine (N2.out _).mono ?_
  rintro x w' ⟨rfl, rfl⟩
  have ff := fourFz K0.third
  obtain ⟨i0, i1, i2, i3⟩ := K0.third.four
  obtain ⟨f0, f1, f2, f3⟩ := ff
  go_wp2_with fail
  obtain ⟨q0, q1, q2, q3⟩ := (put4_blk K0.third 0 0 0 0).four
  unfold put4 at q0 q1 q2 q3
  refine bodyPost_ret (v := .tuple #[bdV 0 0 0 0, .bool false]) (by simp [results, Tryd.results27, go_sem, q0, q1, q2, q3]) rfl ⟨rfl, put4_below K0.1 (Nat.le_refl _) 0 0 0 0⟩
theorem sparseB_any (l : List UInt8) (w : World) (hl : l.length ≤ 1048576) :
    Calls Tryd.prog 27 #[str l] w fun x w' => x = .returned (.tuple #[bdV (Bt.val l).1 (Bt.val l).2.1 (Bt.val l).2.2.1 (Bt.val l).2.2.2, .bool (Bt.ok l)]) ∧ Below w.heap.size w w' := by
  have NO : Bt.ok l = false → (Calls Tryd.prog 27 #[str l] w fun x w' => x = .returned (.tuple #[bdV 0 0 0 0, .bool false]) ∧ Below w.heap.size w w') → Calls Tryd.prog 27 #[str l] w fun x w' => x = .returned (.tuple #[bdV (Bt.val l).1 (Bt.val l).2.1 (Bt.val l).2.2.1 (Bt.val l).2.2.2, .bool (Bt.ok l)]) ∧ Below w.heap.size w w' := fun h k => by
    rw [Bt.ok_no h, h]
    exact k
  have FF : ∀ P : Prop, (Bt.ok l = true → P) → ¬ P → Bt.ok l = false := fun P h1 h2 => by
    cases h : Bt.ok l with
    | false => rfl
    | true => exact absurd (h1 h) h2
  by_cases h4 : (spl l []).length = 4
  · obtain ⟨a, b, c, d, hw⟩ : ∃ a b c d, spl l [] = [a, b, c, d] := by
      match hs : spl l [], h4 with
      | [a, b, c, d], _ => exact ⟨a, b, c, d, rfl⟩
    have W := fun h => Bt.ok_four (l := l) h hw
    by_cases h1 : 4 ≤ a.length
    · by_cases h2 : a.length ≤ 5
      · by_cases h3 : d.length ≤ 2
        · cases hb : Dt.ok b with
          | false => exact NO (FF _ (fun h => (W h).2.2.2.1) (by rw [hb]; decide)) (sparseB_w4 l a b c d w hl hw h1 h2 h3 hb)
          | true =>
            cases hc : Dt.ok c with
            | false => exact NO (FF _ (fun h => (W h).2.2.2.2.1) (by rw [hc]; decide)) (sparseB_w5 l a b c d w hl hw h1 h2 h3 hb hc)
            | true =>
              by_cases hp : 0 ≤ nbr a 0 (a.length - 3) 0
              · by_cases hq : 0 ≤ nbr a (a.length - 2) 2 0
                · have := sparseB_four l a b c d w hl hw h1 h2 h3 hb hc hp hq _ _ _ _ rfl rfl rfl rfl
                  obtain ⟨k1, k2⟩ := Bt.same (l := l) (fun h => (W h).2.2.2.2.2.2.2)
                  rw [k1, k2] at this
                  exact this
                · exact NO (FF _ (fun h => (W h).2.2.2.2.2.2.1) hq) (sparseB_w7 l a b c d w hl hw h1 h2 h3 hb hc hp (by omega))
              · exact NO (FF _ (fun h => (W h).2.2.2.2.2.1) hp) (sparseB_w6 l a b c d w hl hw h1 h2 h3 hb hc (by omega))
        · exact NO (FF _ (fun h => (W h).2.2.1) h3) (sparseB_w3 l a b c d w hl hw h1 h2 (by omega))
      · exact NO (FF _ (fun h => (W h).2.1) h2) (sparseB_w2 l a b c d w hl hw (by omega))
    · exact NO (FF _ (fun h => (W h).1) h1) (sparseB_w1 l a b c d w hl hw (by omega))
  · exact NO (FF ((spl l []).length = 4) (fun h => by obtain ⟨s, e, m, r, -, -, hw⟩ := Bt.ok_words h; rw [hw]; rfl) h4) (sparseB_w0 l w hl h4)
set_option maxHeartbeats 400000 in
theorem eqBondT_same (s e m r : Int) (w : World) :
    Calls Tryd.prog 32 #[bdV s e m r, bdV s e m r] w fun x w' => x = .returned (.bool true) ∧ Below w.heap.size w w' := by
  have e1 : (s != s) = false := by simp
  have e2 : (e != e) = false := by simp
  have e3 : (m != m) = false := by simp
  have e4 : (r != r) = false := by simp
  go_enter Tryd.func32, Tryd.ntmps32
  go_wp2_with fail
  go_ret
  exact ⟨rfl, ((Below.refl _ _).alloc (Nat.le_refl _) _).alloc (by simp) _⟩
set_option maxHeartbeats 1000000 in
theorem exParseBond (s : ByteArray) (w : World) (hT : Tab w) (hP : TabP w) :
    Calls Tryd.prog 12 #[.string s] w fun x w' => x = .returned (.bool true) ∧ Below w.heap.size w w' := by
  obtain ⟨l, rfl⟩ : ∃ l : List UInt8, s = ⟨l.toArray⟩ := ⟨s.data.toList, by simp⟩
  have HT := Lib.hid hT
  have HP := Lib.hid hP
  have hgw := hP.lt
  have h0 := hT.pos
  clear hT hP
  by_cases hl : 1048576 < (l.length : Int)
  · go_enter Tryd.func12, Tryd.ntmps12
    go_wp2_with fail
    go_ret
    exact ⟨rfl, Below.refl _ _⟩
  · have hl' := decide_eq_false hl
    have PM := Lib.hid (fun W => sparseB_any l W (by omega))
    clear hl
    obtain ⟨⟨s, e, m, r⟩, hv⟩ : ∃ v, Bt.val l = v := ⟨_, rfl⟩
    obtain ⟨B, hB⟩ : ∃ B, Bt.ok l = B := ⟨_, rfl⟩
    rw [hv, hB] at PM
    have HV := Lib.hid hv
    have HB := Lib.hid hB
    clear hv hB
    have Q : (B != B) = false := by simp
    go_enter Tryd.func12, Tryd.ntmps12
    go_wp2_with fail
    refine (PM.out _).mono ?_
    rintro x w1 ⟨rfl, hb⟩
    have K := ((Kp.refl w).below hb).new 35 (bdA s e m r)
    clear hb
    go_wp2_with fail
    refine (parseB_any l _ (HT.out.below K.1 h0) (HP.out.below K.1 hgw)).mono ?_
    rw [HV.out, HB.out]
    rintro x w2 ⟨rfl, hb⟩
    replace K := (K.below hb).new 35 (bdA s e m r)
    clear hb
    obtain ⟨x0, x1, x2, x3⟩ := K.b1
    obtain ⟨y0, y1, y2, y3⟩ := K.second.four
    go_wp2_with fail
    refine (eqBondT_same s e m r _).mono ?_
    rintro x w3 ⟨rfl, hb⟩
    replace K := K.below hb
    clear hb x0 x1 x2 x3 y0 y1 y2 y3
    go_wp2_with fail
    go_ret
    exact ⟨rfl, K.1⟩
/-- A bond drawn out of a law's input. -/
def BondE (w : World) (x : Ending) (w' : World) : Prop := ∃ s e m r : Int, x = .returned (bdV s e m r) ∧ Below w.heap.size w w'
set_option maxHeartbeats 1000000 in
theorem drawFB_any (w : World) (a : Option Addr) (len cap : Nat) (zs : List Int) (h : IsRow .u8 w a len cap zs) :
    Calls Tryd.prog 22 #[.slice a len cap] w (BondE w) := by
  have H := Lib.hid h; clear h
  go_enter Tryd.func22, Tryd.ntmps22
  go_wp2_with fail
  refine (newReader_any _ _ _ _ _ (IsRow_alloc H.out _)).mono ?_
  rintro x w1 ⟨g, rfl, hg, hr, hb⟩
  have kR : Blk w1 w.heap.size 35 (bdA 0 0 0 0) := (Blk.new w _ _).below hb (by simp)
  have hgw : w.heap.size + 1 ≤ g := by simpa using hg
  replace hb : Below w.heap.size w w1 := ((Below.refl _ _).alloc (Nat.le_refl _) _).trans (hb.mono (by simp))
  go_wp2_with fail
  refine (anyBond_any _ _ _ hr (by omega)).mono ?_
  rintro x w2 ⟨s, e, m, r, rfl, -, -, -, -, -, hk⟩
  replace kR := kR.grown hk (by omega)
  have ff := fourFz kR
  obtain ⟨r0, r1, r2, r3⟩ := kR.four
  obtain ⟨f0, f1, f2, f3⟩ := ff
  have hb3 := below_grown hb hk (by omega)
  clear hk hr hb
  go_wp2_with fail
  obtain ⟨q0, q1, q2, q3⟩ := (put4_blk kR s e m r).four
  unfold put4 at q0 q1 q2 q3
  refine bodyPost_ret (v := bdV s e m r) (by simp [results, Tryd.results22, go_sem, q0, q1, q2, q3]) rfl ⟨s, e, m, r, rfl, put4_below hb3 (Nat.le_refl _) s e m r⟩
theorem Bt.fmt_len (s e m r : Int) : (Bt.fmt s e m r).length ≤ 50 := by
  cases h : vbB s e m r with
  | false => rw [Bt.fmt_no h]; simp
  | true =>
    obtain ⟨⟨s0, s1, e1⟩, ⟨m0, m1⟩, r0, r1⟩ := vbT h
    rw [Bt.fmt_yes h]
    have k1 := Bt.rt_len (r := r.toNat) (by omega)
    have k2 := Dy.len (n := s) (by omega) (by omega)
    have k3 := Dy.len (n := e) (by omega) (by omega)
    have k4 := dec_len9 (n := m.toNat) (by omega)
    unfold Bt.txt
    simp only [List.length_append, List.length_cons]
    omega
set_option maxHeartbeats 1000000 in
theorem drawPB_any (w : World) (a : Option Addr) (len cap : Nat) (zs : List Int) (h : IsRow .u8 w a len cap zs) :
    Calls Tryd.prog 26 #[.slice a len cap] w (TextE 60 w) := by
  have H := Lib.hid h; clear h
  go_enter Tryd.func26, Tryd.ntmps26
  go_wp2_with fail
  refine (newReader_any _ _ _ _ _ H.out).mono ?_
  rintro x w1 ⟨g, rfl, hg, hr, hb⟩
  have hgl := hr.lt
  go_wp2_with fail
  refine (anyBond_any _ _ _ hr (by omega)).mono ?_
  rintro x w2 ⟨s, e, m, r, rfl, -, -, -, -, hr2, hg2⟩
  have hb2 := below_grown hb hg2 hg
  have hgl2 := hr2.lt
  clear hb hg2 hr
  obtain ⟨F, hF⟩ : ∃ F, Bt.fmt s e m r = F := ⟨_, rfl⟩
  have hFl : F.length ≤ 50 := by rw [← hF]; exact Bt.fmt_len s e m r
  have FM := Lib.hid (fun W => sfmtB_any s e m r W)
  rw [hF] at FM
  clear hF
  go_wp2_with fail
  refine (FM.out _).mono ?_
  rintro x w3 ⟨rfl, hb⟩
  have hr3 := hr2.below hb hgl2
  have hb3 := hb2.trans (hb.mono hb2.size)
  have hgl3 := hr3.lt
  clear hb hb2 hr2
  go_wp2_with fail
  refine (pick_any _ _ _ _ hr3 (by omega) (by omega) (by omega)).mono ?_
  rintro x w4 ⟨v, rfl, -, hr4, hg4⟩
  have hb4 := below_grown hb3 hg4 hg
  have hgl4 := hr4.lt
  clear hb3 hg4 hr3
  by_cases c0 : v = 0
  · subst c0
    go_wp2_with fail
    refine (mutate_any _ _ _ _ hr4 (by omega) (by rw [str_size]; omega)).mono ?_
    rintro x w5 ⟨t, rfl, hs, -, hg5⟩
    have hb5 := below_grown hb4 hg5 hg
    go_wp2_with fail
    go_ret
    refine ⟨t.data.toList, str_backE t ▸ rfl, ?_, hb5⟩
    rw [str_size F] at hs
    have e1 : t.data.toList.length = t.size := Array.length_toList
    omega
  · have e0 : (v == 0) = false := by simp [c0]
    go_wp2_with fail
    go_ret
    exact ⟨F, rfl, by omega, hb4⟩
/-- A bond's text is read back. -/
theorem Bt.round {s e m r : Int} (h : vbB s e m r = true) : Bt.val (Bt.fmt s e m r) = (s, e, m, r) ∧ Bt.ok (Bt.fmt s e m r) = true := by
  have c : Bt.conf (s, e, m, r) (Bt.fmt s e m r) = true := Bt.conf_iff.2 ⟨h, (Bt.fmt_yes h).symm⟩
  have u := Bt.uniq c
  unfold Bt.val Bt.ok
  rw [u]
  exact ⟨Bt.out_yes c, c⟩
set_option maxHeartbeats 2000000 in
theorem lawBondRound (a : Option Addr) (len cap : Nat) (zs : List Int) (w : World) (h : IsRow .u8 w a len cap zs) (hT : Tab w) (hP : TabP w) :
    Calls Tryd.prog 6 #[.slice a len cap] w fun x w' => x = .returned (.bool true) ∧ Below w.heap.size w w' := by
  have H := Lib.hid h; clear h
  have HT := Lib.hid hT
  have HP := Lib.hid hP
  have hgw := hP.lt
  have h0 := hT.pos
  clear hT hP
  by_cases hl : 1048576 < (len : Int)
  · go_enter Tryd.func6, Tryd.ntmps6
    go_wp2_with fail
    go_ret
    exact ⟨rfl, Below.refl _ _⟩
  · have hl' := decide_eq_false hl
    clear hl
    go_enter Tryd.func6, Tryd.ntmps6
    go_wp2_with fail
    refine (drawFB_any _ _ _ _ _ H.out).mono ?_
    rintro x w1 ⟨s, e, m, r, rfl, hb⟩
    have K := ((Kp.refl w).below hb).new 35 (bdA s e m r)
    clear hb
    obtain ⟨x0, x1, x2, x3⟩ := K.b1
    cases h : vbB s e m r with
    | false =>
      have E := Lib.hid (Bt.fmt_no h); clear h
      go_wp2_with fail
      refine (fmtB_any s e m r _ (HT.out.below K.1 h0) (HP.out.below K.1 hgw)).mono ?_
      rw [E.out]
      rintro x w2 ⟨rfl, hb⟩
      replace K := K.below hb
      clear hb x0 x1 x2 x3
      obtain ⟨x0, x1, x2, x3⟩ := K.b1
      go_wp2_with fail
      refine (sfmtB_any s e m r _).mono ?_
      rw [E.out]
      rintro x w3 ⟨rfl, hb⟩
      replace K := K.below hb
      clear hb x0 x1 x2 x3
      obtain ⟨x0, x1, x2, x3⟩ := K.b1
      go_wp2_with fail
      refine (sfmtB_any s e m r _).mono ?_
      rw [E.out]
      rintro x w4 ⟨rfl, hb⟩
      replace K := K.below hb
      clear hb x0 x1 x2 x3
      go_wp2_with fail
      go_ret
      exact ⟨rfl, K.1⟩
    | true =>
      obtain ⟨e1, e2⟩ := Bt.round h
      have hne := Bt.txt_ne r.toNat (Dy s) (Dy e) m.toNat
      rw [← Bt.fmt_yes h] at hne
      obtain ⟨F, hF⟩ : ∃ F, Bt.fmt s e m r = F := ⟨_, rfl⟩
      rw [hF] at e1 e2 hne
      have EV := Lib.hid e1
      have EO := Lib.hid e2
      have HF := Lib.hid hF
      obtain ⟨c, t, hc⟩ : ∃ c t, F = c :: t := by
        cases F with
        | nil => exact absurd rfl hne
        | cons c t => exact ⟨c, t, rfl⟩
      subst hc
      have q1 : (s == s) = true := by simp
      have q2 : (e == e) = true := by simp
      have q3 : (m == m) = true := by simp
      have q4 : (r == r) = true := by simp
      clear h e1 e2 hF hne
      go_wp2_with fail
      refine (fmtB_any s e m r _ (HT.out.below K.1 h0) (HP.out.below K.1 hgw)).mono ?_
      rw [HF.out]
      rintro x w2 ⟨rfl, hb⟩
      replace K := K.below hb
      clear hb x0 x1 x2 x3
      obtain ⟨x0, x1, x2, x3⟩ := K.b1
      go_wp2_with fail
      refine (sfmtB_any s e m r _).mono ?_
      rw [HF.out]
      rintro x w3 ⟨rfl, hb⟩
      replace K := K.below hb
      clear hb x0 x1 x2 x3
      go_wp2_with fail
      refine (parseB_any _ _ (HT.out.below K.1 h0) (HP.out.below K.1 hgw)).mono ?_
      rw [EV.out, EO.out]
      rintro x w4 ⟨rfl, hb⟩
      replace K := (K.below hb).new 35 (bdA s e m r)
      clear hb
      obtain ⟨y0, y1, y2, y3⟩ := K.b1
      obtain ⟨x0, x1, x2, x3⟩ := K.second.four
      go_wp2_with fail
      go_ret
      exact ⟨rfl, K.1⟩
set_option maxHeartbeats 2000000 in
theorem lawBondCanon (a : Option Addr) (len cap : Nat) (zs : List Int) (w : World) (h : IsRow .u8 w a len cap zs) (hT : Tab w) (hP : TabP w) :
    Calls Tryd.prog 7 #[.slice a len cap] w fun x w' => x = .returned (.bool true) ∧ Below w.heap.size w w' := by
  have H := Lib.hid h; clear h
  have HT := Lib.hid hT
  have HP := Lib.hid hP
  have hgw := hP.lt
  have h0 := hT.pos
  clear hT hP
  by_cases hl : 1048576 < (len : Int)
  · go_enter Tryd.func7, Tryd.ntmps7
    go_wp2_with fail
    go_ret
    exact ⟨rfl, Below.refl _ _⟩
  · have hl' := decide_eq_false hl
    clear hl
    go_enter Tryd.func7, Tryd.ntmps7
    go_wp2_with fail
    refine (drawPB_any _ _ _ _ _ H.out).mono ?_
    rintro x w1 ⟨l, rfl, hll, hb1⟩
    have PM := Lib.hid (fun W => sparseB_any l W (by omega))
    obtain ⟨⟨s, e, m, r⟩, hv⟩ : ∃ v, Bt.val l = v := ⟨_, rfl⟩
    rw [hv] at PM
    have q1 : (s != s) = false := by simp
    have q2 : (e != e) = false := by simp
    have q3 : (m != m) = false := by simp
    have q4 : (r != r) = false := by simp
    have HV := Lib.hid hv
    have K0 := (Kp.refl w).below hb1
    clear hb1
    cases hB : Bt.ok l with
    | false =>
      rw [hB] at PM
      have HB := Lib.hid hB; clear hB hv
      go_wp2_with fail
      refine (parseB_any _ _ (HT.out.below K0.1 h0) (HP.out.below K0.1 hgw)).mono ?_
      rw [HV.out, HB.out]
      rintro x w2 ⟨rfl, hb⟩
      have K := (K0.below hb).new 35 (bdA s e m r)
      clear hb
      go_wp2_with fail
      refine (PM.out _).mono ?_
      rintro x w3 ⟨rfl, hb⟩
      replace K := (K.below hb).new 35 (bdA s e m r)
      clear hb
      obtain ⟨y0, y1, y2, y3⟩ := K.b1
      obtain ⟨x0, x1, x2, x3⟩ := K.second.four
      go_wp2_with fail
      go_ret
      exact ⟨rfl, K.1⟩
    | true =>
      rw [hB] at PM
      have hr : Bt.pb l = (s, e, m, r) := by
        have e := Bt.out_yes (t := Bt.pb l) (l := l) hB
        exact e.symm.trans hv
      have hc : Bt.conf (s, e, m, r) l = true := by rw [← hr]; exact hB
      obtain ⟨h1, h2⟩ := Bt.conf_iff.1 hc
      have HF := Lib.hid ((Bt.fmt_yes h1).trans h2)
      have HVl := Lib.hid h1
      have HB := Lib.hid hB; clear hB hv hr hc h1 h2
      go_wp2_with fail
      refine (parseB_any _ _ (HT.out.below K0.1 h0) (HP.out.below K0.1 hgw)).mono ?_
      rw [HV.out, HB.out]
      rintro x w2 ⟨rfl, hb⟩
      have K := (K0.below hb).new 35 (bdA s e m r)
      clear hb
      go_wp2_with fail
      refine (PM.out _).mono ?_
      rintro x w3 ⟨rfl, hb⟩
      replace K := (K.below hb).new 35 (bdA s e m r)
      clear hb
      obtain ⟨y0, y1, y2, y3⟩ := K.b1
      obtain ⟨x0, x1, x2, x3⟩ := K.second.four
      go_wp2_with fail
      refine (fmtB_any s e m r _ (HT.out.below K.1 h0) (HP.out.below K.1 hgw)).mono ?_
      rw [HF.out]
      rintro x w4 ⟨rfl, hb⟩
      replace K := K.below hb
      clear hb x0 x1 x2 x3 y0 y1 y2 y3
      obtain ⟨x0, x1, x2, x3⟩ := K.second.four
      go_wp2_with fail
      refine (validBond_any _ _ _ _ _ (HT.out.below K.1 h0)).mono ?_
      rw [HVl.out]
      rintro x w5 ⟨rfl, hb⟩
      replace K := K.below hb
      clear hb x0 x1 x2 x3
      go_wp2_with fail
      go_ret
      exact ⟨by simp, K.1⟩
set_option maxHeartbeats 2000000 in
theorem lawTopText (s : ByteArray) (w : World) (hs : s.size ≤ 1048576) (hT : Tab w) (hP : TabP w) :
    Calls Tryd.prog 8 #[.string s] w fun x w' => x = .returned (.bool true) ∧ Below w.heap.size w w' := by
  obtain ⟨l, rfl⟩ : ∃ l : List UInt8, s = ⟨l.toArray⟩ := ⟨s.data.toList, by simp⟩
  rw [str_size l] at hs
  have HT := Lib.hid hT
  have HP := Lib.hid hP
  have hgw := hP.lt
  have h0 := hT.pos
  clear hT hP
  have PM := Lib.hid (fun W => sparseB_any l W hs)
  clear hs
  obtain ⟨⟨s, e, m, r⟩, hv⟩ : ∃ v, Bt.val l = v := ⟨_, rfl⟩
  rw [hv] at PM
  have q1 : (s != s) = false := by simp
  have q2 : (e != e) = false := by simp
  have q3 : (m != m) = false := by simp
  have q4 : (r != r) = false := by simp
  have HV := Lib.hid hv
  cases hB : Bt.ok l with
  | false =>
    rw [hB] at PM
    have HB := Lib.hid hB; clear hB hv
    go_enter Tryd.func8, Tryd.ntmps8
    go_wp2_with fail
    refine (parseB_any _ _ HT.out HP.out).mono ?_
    rw [HV.out, HB.out]
    rintro x w2 ⟨rfl, hb⟩
    have K := ((Kp.refl w).below hb).new 35 (bdA s e m r)
    clear hb
    go_wp2_with fail
    refine (PM.out _).mono ?_
    rintro x w3 ⟨rfl, hb⟩
    replace K := (K.below hb).new 35 (bdA s e m r)
    clear hb
    obtain ⟨y0, y1, y2, y3⟩ := K.b1
    obtain ⟨x0, x1, x2, x3⟩ := K.second.four
    go_wp2_with fail
    go_ret
    exact ⟨rfl, K.1⟩
  | true =>
    rw [hB] at PM
    have hr : Bt.pb l = (s, e, m, r) := by
      have e := Bt.out_yes (t := Bt.pb l) (l := l) hB
      exact e.symm.trans hv
    have hc : Bt.conf (s, e, m, r) l = true := by rw [← hr]; exact hB
    obtain ⟨h1, h2⟩ := Bt.conf_iff.1 hc
    have HF := Lib.hid ((Bt.fmt_yes h1).trans h2)
    have HVl := Lib.hid h1
    have HB := Lib.hid hB; clear hB hv hr hc h1 h2
    go_enter Tryd.func8, Tryd.ntmps8
    go_wp2_with fail
    refine (parseB_any _ _ HT.out HP.out).mono ?_
    rw [HV.out, HB.out]
    rintro x w2 ⟨rfl, hb⟩
    have K := ((Kp.refl w).below hb).new 35 (bdA s e m r)
    clear hb
    go_wp2_with fail
    refine (PM.out _).mono ?_
    rintro x w3 ⟨rfl, hb⟩
    replace K := (K.below hb).new 35 (bdA s e m r)
    clear hb
    obtain ⟨y0, y1, y2, y3⟩ := K.b1
    obtain ⟨x0, x1, x2, x3⟩ := K.second.four
    go_wp2_with fail
    refine (fmtB_any s e m r _ (HT.out.below K.1 h0) (HP.out.below K.1 hgw)).mono ?_
    rw [HF.out]
    rintro x w4 ⟨rfl, hb⟩
    replace K := K.below hb
    clear hb x0 x1 x2 x3 y0 y1 y2 y3
    obtain ⟨x0, x1, x2, x3⟩ := K.second.four
    go_wp2_with fail
    refine (validBond_any _ _ _ _ _ (HT.out.below K.1 h0)).mono ?_
    rw [HVl.out]
    rintro x w5 ⟨rfl, hb⟩
    replace K := K.below hb
    clear hb x0 x1 x2 x3
    go_wp2_with fail
    go_ret
    exact ⟨by simp, K.1⟩
end Go.Proofs.YtapalkohfhohhaaDoor
