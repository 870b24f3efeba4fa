/- The texts of dates, on both sides. -/
import Derived.Test.YtapalkohfhohhaaDoorCr2
import Derived.Test.YtapalkohfhohhaaDoorDt
import Derived.Test.YtapalkohfhohhaaDoorDate2
import Derived.Test.YtapalkohfhohhaaDoorSpec3
import Derived.Deep.RegionHeld3
namespace Go.Proofs.YtapalkohfhohhaaDoor
open Go.RowKit
abbrev dtA (y m d : Int) : Array Value := #[.int .i64 y, .int .i64 m, .int .i64 d]
abbrev dtV (y m d : Int) : Value := .agg (dtA y m d)
abbrev DtS (b : Nat) (y m d : Int) (w : World) : Prop := w.cell? ⟨b, 0, none⟩ = some (.int .i64 y) ∧ w.cell? ⟨b, 1, none⟩ = some (.int .i64 m) ∧ w.cell? ⟨b, 2, none⟩ = some (.int .i64 d)
theorem Kp.d1 {w W : World} {l : List (Nat × TypeId × Array Value)} {b : Nat} {T : TypeId} {y m d : Int} (k : Kp w ((b, T, dtA y m d) :: l) W) : DtS b y m d W := k.first.three.1
theorem Kp.bl {w W : World} {l : List (Nat × TypeId × Array Value)} (k : Kp w l W) : Below w.heap.size w W := k.1
theorem vld_bd {y m d : Int} (h : vldB y m d = true) : (1990 ≤ y ∧ y ≤ 2089) ∧ (1 ≤ m ∧ m ≤ 12) ∧ (1 ≤ d ∧ d ≤ 31) := by
  obtain ⟨a1, a2, a3, a4, a5, a6⟩ := vldB_iff.1 h
  have := (Cal.dm_bd y m).2
  omega
/-- The text of a date, if it is one. -/
def Dt.fmt (y m d : Int) : List UInt8 := if vldB y m d = true then Dt.txt y.toNat m.toNat d.toNat else []
theorem Dt.fmt_no {y m d : Int} (h : vldB y m d = false) : Dt.fmt y m d = [] := if_neg (by rw [h]; simp)
theorem Dt.fmt_yes {y m d : Int} (h : vldB y m d = true) : Dt.fmt y m d = Dt.txt y.toNat m.toNat d.toNat := if_pos h
theorem str_toList (l : List UInt8) : (ByteArray.mk l.toArray).data.toList = l := by simp
/-- Three texts joined by a sign. -/
theorem join3 {W : World} {b : Nat} {x y z : List UInt8} (c : UInt8) (k : Blk W b 9 #[str x, str y, str z]) (hl : x.length + y.length + z.length ≤ 1000000) :
    Calls Tryd.prog 35 #[.slice (some ⟨b, 0, none⟩) 3 3, str [c]] W fun e w' => e = .returned (str (x ++ (c :: (y ++ (c :: z))))) ∧ Below W.heap.size W w' := by
  have hj : Lib.join ([ByteArray.mk x.toArray, ByteArray.mk y.toArray, ByteArray.mk z.toArray].map (·.data.toList)) (ByteArray.mk [c].toArray).data.toList = x ++ (c :: (y ++ (c :: z))) := by
    simp only [List.map_cons, List.map_nil]
    rw [Lib.join_cons]
    simp [Lib.joinTail]
  have := Tryd.strings_Join b 0 3 [ByteArray.mk x.toArray, ByteArray.mk y.toArray, ByteArray.mk z.toArray] (ByteArray.mk [c].toArray) W (fun j u hu => by
    unfold Blk at k
    rcases j with _ | _ | _ | j
    · simp at hu; subst hu; simp [World.cell?, k]
    · simp at hu; subst hu; simp [World.cell?, k]
    · simp at hu; subst hu; simp [World.cell?, k]
    · simp at hu) k.lt (by simp) (by simp) (by rw [hj]; simp; omega)
  rw [hj] at this
  exact this
set_option maxHeartbeats 1000000 in
theorem fmtD_any (y m d : Int) (w : World) (hT : Tab w) (hP : TabP w) :
    Calls Tryd.prog 14 #[dtV y m d] w fun e w' => e = .returned (str (Dt.fmt y m d)) ∧ Below w.heap.size w w' := by
  have HT := Lib.hid (hT.alloc (.cells (dtA y m d) 24)); clear hT
  have hgw := hP.lt
  have HP := Lib.hid hP; clear hP
  have K := (Kp.refl w).new 24 (dtA y m d)
  obtain ⟨x0, x1, x2⟩ := K.d1
  cases h : vldB y m d with
  | false =>
    rw [Dt.fmt_no h]
    have H := Lib.hid h; clear h
    go_enter Tryd.func14, Tryd.ntmps14
    go_wp2_with fail
    refine (validDate_any _ _ _ _ HT.out).mono ?_
    rw [H.out]
    rintro e w1 ⟨rfl, hb⟩
    replace K := K.below hb
    clear hb x0 x1 x2
    go_wp2_with fail
    go_ret
    exact ⟨rfl, K.1⟩
  | true =>
    obtain ⟨⟨y0, y1⟩, ⟨m0, m1⟩, d0, d1⟩ := vld_bd h
    have IY := Lib.hid (fun W hW => itoa_any y W hW (by omega) (by omega))
    have IM := Lib.hid (fun W hW => twoD_any m W hW (by omega) (by omega))
    have ID := Lib.hid (fun W hW => twoD_any d W hW (by omega) (by omega))
    obtain ⟨A, hA⟩ : ∃ A, Lib.decDigits y.toNat = A := ⟨_, rfl⟩
    obtain ⟨B, hB⟩ : ∃ B, two m.toNat = B := ⟨_, rfl⟩
    obtain ⟨C, hC⟩ : ∃ C, two d.toNat = C := ⟨_, rfl⟩
    have E := Lib.hid (show Dt.fmt y m d = A ++ (45 :: (B ++ (45 :: C))) by rw [Dt.fmt_yes h, ← hA, ← hB, ← hC]; rfl)
    have lA : A.length ≤ 10 := by rw [← hA]; exact dec_len9 (by omega)
    have lB : B.length = 2 := by rw [← hB]; rfl
    have lC : C.length = 2 := by rw [← hC]; rfl
    rw [hA] at IY
    rw [hB] at IM
    rw [hC] at ID
    have HJ := Lib.hid (fun (W : World) (b : Nat) (k : Blk W b 9 #[str A, str B, str C]) => join3 45 k (by omega))
    have H := Lib.hid h
    clear h hA hB hC lA lB lC
    go_enter Tryd.func14, Tryd.ntmps14
    go_wp2_with fail
    refine (validDate_any _ _ _ _ HT.out).mono ?_
    rw [H.out]
    rintro e w1 ⟨rfl, hb⟩
    replace K := K.below hb
    clear hb x0 x1 x2
    obtain ⟨x0, x1, x2⟩ := K.d1
    go_wp2_with fail
    go_region_held3 (DtS w.heap.size y m d) (first | with_reducible exact K.drew.d1 | with_reducible exact K1.d1 | with_reducible exact K2.d1 | with_reducible exact K3.d1 | with_reducible exact (K3.alloc _).d1 | with_reducible exact K4.d1 | fail "nokeep") (first | ((go_at_call 36; (with_reducible refine (IY.out _ (HP.out.below K.drew.bl hgw)).mono ?_); rintro e w2 ⟨rfl, hb2⟩; have K1 := K.drew.below hb2)) | ((go_at_call 37; (with_reducible refine (IM.out _ (HP.out.below K1.bl hgw)).mono ?_); rintro e w3 ⟨rfl, hb3⟩; have K2 := K1.below hb3)) | ((go_at_call 37; (with_reducible refine (ID.out _ (HP.out.below K2.bl hgw)).mono ?_); rintro e w4 ⟨rfl, hb4⟩; have K3 := K2.below hb4)) | ((go_at_call 35; (with_reducible refine (HJ.out _ _ (Blk.new _ _ _)).mono ?_); rintro e w5 ⟨rfl, hb5⟩; have K4 := (K3.alloc _).below hb5)))
    all_goals
      go_wp2_with fail
      go_ret
      exact ⟨by rw [E.out]; rfl, K4.1⟩
set_option maxHeartbeats 400000 in
theorem stwo_any (n : Int) (w : World) (h0 : 0 ≤ n) (h1 : n < 100) :
    Calls Tryd.prog 70 #[.int .i64 n] w fun e w' => e = .returned (str (two n.toNat)) ∧ Below w.heap.size w w' := by
  by_cases h : n < 10
  · have E := two_small (k := n.toNat) (by omega)
    have A := fun W => add_str W (x := [48]) (y := Lib.decDigits n.toNat) (by simp) (by have := dec_len9 (n := n.toNat) (by omega); omega) E
    have IM := Lib.hid (fun W => sfmt_any n.toNat n W (by omega) (by omega) (Nat.le_refl _))
    clear E
    go_enter Tryd.func70, Tryd.ntmps70
    go_wp2_with fail
    refine (IM.out _).mono ?_
    rintro e w1 ⟨rfl, hb⟩
    go_wp2_with fail
    go_ret
    exact ⟨rfl, hb⟩
  · have h' := decide_eq_false h
    have E := two_dec (k := n.toNat) (by omega) (by omega)
    have IM := Lib.hid (fun W => sfmt_any n.toNat n W (by omega) (by omega) (Nat.le_refl _))
    rw [E] at IM
    clear E h
    go_enter Tryd.func70, Tryd.ntmps70
    go_wp2_with fail
    refine (IM.out _).mono ?_
    rintro e w1 ⟨rfl, hb⟩
    go_wp2_with fail
    go_ret
    exact ⟨rfl, hb⟩
set_option maxHeartbeats 1000000 in
theorem sfmtD0_any (y m d : Int) (w : World) (h : vldB y m d = true) :
    Calls Tryd.prog 39 #[dtV y m d] w fun e w' => e = .returned (str (Dt.txt y.toNat m.toNat d.toNat)) ∧ Below w.heap.size w w' := by
  have K := (Kp.refl w).new 24 (dtA y m d)
  obtain ⟨⟨y0, y1⟩, ⟨m0, m1⟩, d0, d1⟩ := vld_bd h
  have IY := Lib.hid (fun W => sfmt_any y.toNat y W (by omega) (by omega) (Nat.le_refl _))
  have IM := Lib.hid (fun W => stwo_any m W (by omega) (by omega))
  have ID := Lib.hid (fun W => stwo_any d W (by omega) (by omega))
  obtain ⟨A, hA⟩ : ∃ A, Lib.decDigits y.toNat = A := ⟨_, rfl⟩
  obtain ⟨B, hB⟩ : ∃ B, two m.toNat = B := ⟨_, rfl⟩
  obtain ⟨C, hC⟩ : ∃ C, two d.toNat = C := ⟨_, rfl⟩
  obtain ⟨S1, h1⟩ : ∃ s, s = A ++ [45] := ⟨_, rfl⟩
  obtain ⟨S2, h2⟩ : ∃ s, s = S1 ++ B := ⟨_, rfl⟩
  obtain ⟨S3, h3⟩ : ∃ s, s = S2 ++ [45] := ⟨_, rfl⟩
  obtain ⟨S4, h4⟩ : ∃ s, s = S3 ++ C := ⟨_, rfl⟩
  have E := Lib.hid (show Dt.txt y.toNat m.toNat d.toNat = S4 by unfold Dt.txt; rw [h4, h3, h2, h1, hA, hB, hC]; simp)
  have lA : A.length ≤ 10 := by rw [← hA]; exact dec_len9 (by omega)
  have lB : B.length = 2 := by rw [← hB]; rfl
  have lC : C.length = 2 := by rw [← hC]; rfl
  have l1 : S1.length ≤ 11 := by rw [h1]; simp; omega
  have l2 : S2.length ≤ 13 := by rw [h2]; simp; omega
  have l3 : S3.length ≤ 14 := by rw [h3]; simp; omega
  have A1 := fun W => add_str W (x := A) (y := [45]) (by omega) (by simp) h1.symm
  have A2 := fun W => add_str W (x := S1) (y := B) (by omega) (by omega) h2.symm
  have A3 := fun W => add_str W (x := S2) (y := [45]) (by omega) (by simp) h3.symm
  have A4 := fun W => add_str W (x := S3) (y := C) (by omega) (by omega) h4.symm
  rw [hA] at IY
  rw [hB] at IM
  rw [hC] at ID
  clear h hA hB hC lA lB lC h1 h2 h3 h4 l1 l2 l3
  obtain ⟨x0, x1, x2⟩ := K.d1
  go_enter Tryd.func39, Tryd.ntmps39
  go_wp2_with fail
  go_region_held3 (DtS w.heap.size y m d) (first | with_reducible exact K.drew.d1 | with_reducible exact K1.d1 | with_reducible exact K2.d1 | with_reducible exact K3.d1 | fail "nokeep") (first | ((go_at_call 69; (with_reducible refine (IY.out _).mono ?_); rintro e w2 ⟨rfl, hb2⟩; have K1 := K.drew.below hb2)) | ((go_at_call 70; (with_reducible refine (IM.out _).mono ?_); rintro e w3 ⟨rfl, hb3⟩; have K2 := K1.below hb3)) | ((go_at_call 70; (with_reducible refine (ID.out _).mono ?_); rintro e w4 ⟨rfl, hb4⟩; have K3 := K2.below hb4)))
  all_goals
    go_wp2_with fail
    go_ret
    exact ⟨by rw [E.out]; rfl, K3.1⟩
end Go.Proofs.YtapalkohfhohhaaDoor
