/- The texts of prices, on both sides. -/
import Derived.Test.YtoledkecgfhdbaaDoorFi
import Derived.Test.YtoledkecgfhdbaaDoorQt
import Derived.Test.YtoledkecgfhdbaaDoorBw
import Derived.Test.YtoledkecgfhdbaaDoorShelf
import Derived.Lib.LaidTab
import Derived.Deep.DeepCutAuto
namespace Go.Proofs.YtoledkecgfhdbaaDoor
open Go.RowKit
/-- The library's table of powers. -/
abbrev TabP (w : World) : Prop := Lib.TabIs Tryd.prog w "internal/strconv.uint64pow10" .u64 Lib.pow10Tab
theorem gPow : Tryd.prog.globalNamed "internal/strconv.uint64pow10" = some 0 := by kernel_rfl
theorem TabP.below {B : Nat} {W W' : World} (hv : TabP W) (h : Below B W W') (hB : 0 < B) : TabP W' := by
  unfold TabP Lib.TabIs World.var? at hv ⊢
  simp only [gPow, Option.bind_some] at hv ⊢
  rw [h.block _ hB]
  exact hv
theorem TabP.lt {W : World} (h : TabP W) : 0 < W.heap.size := by
  unfold TabP Lib.TabIs at h
  have h0 := World.var?_cell gPow h 0
  simp only [Lib.pow10Tab] at h0
  exact World.block_lt_of_cell? W _ (show W.cell? ⟨0, 0, none⟩ = some (.int .u64 1) by rw [h0]; rfl)
theorem TabP.next {W W' : World} (h : TabP W) (hb : Below W.heap.size W W') : TabP W' := h.below hb h.lt
theorem TabP.alloc {W : World} (h : TabP W) (o : Obj) : TabP (W.alloc o) := h.next ((Below.refl _ _).alloc (Nat.le_refl _) o)
theorem grow_below (w : World) (k : Nat) (os : Array Obj) : Below w.heap.size w (Sort.grow (w.drewN k) os) :=
  ⟨rfl, rfl, rfl, by rw [Sort.size_grow]; simp [World.drewN], fun i hi => Sort.heap_grow_old (w.drewN k) os hi⟩
theorem itoa_any (n : Int) (w : World) (hT : TabP w) (h0 : 0 ≤ n) (h1 : n ≤ 1000000000) :
    Calls Tryd.prog 17 #[.int .i64 n] w fun e w' => e = .returned (str (Lib.decDigits n.toNat)) ∧ Below w.heap.size w w' := by
  refine (Tryd.strconv_Itoa n (by omega) (by omega) w hT).mono ?_
  rintro e w' ⟨rfl, k, os, rfl⟩
  refine ⟨?_, grow_below w k os⟩
  unfold Lib.itoa
  rw [if_neg (by omega)]
theorem cut_one (c : UInt8) (l : List UInt8) : (ByteArray.mk (c :: l).toArray).extract 1 (ByteArray.mk (c :: l).toArray).size = ByteArray.mk l.toArray := by
  apply ByteArray.ext
  rw [ByteArray.data_extract]
  apply Array.toList_inj.1
  simp [ByteArray.size]
set_option maxHeartbeats 400000 in
theorem twoD_any (n : Int) (w : World) (hT : TabP w) (h0 : 0 ≤ n) (h1 : n < 100) :
    Calls Tryd.prog 19 #[.int .i64 n] w fun e w' => e = .returned (str (two n.toNat)) ∧ Below w.heap.size w w' := by
  have E := Lib.hid (show Lib.decDigits (100 + n).toNat = 49 :: two n.toNat by rw [← dec_hundred (k := n.toNat) (by omega)]; congr 1; omega)
  have IM := Lib.hid (fun W hT => itoa_any (100 + n) W hT (by omega) (by omega))
  go_enter Tryd.func19, Tryd.ntmps19
  go_wp2_with fail
  refine (IM.out _ hT).mono ?_
  rw [E.out]
  rintro e w1 ⟨rfl, hb⟩
  have hC := Lib.hid (cut_one 49 (two n.toNat))
  have hz : (ByteArray.mk (49 :: two n.toNat).toArray).size = 3 := by simp [ByteArray.size, two]
  go_wp2_with fail
  go_ret
  refine ⟨?_, hb⟩
  have e := hC.out
  rw [hz] at e
  show Ending.returned (Value.string ((ByteArray.mk (49 :: two n.toNat).toArray).extract 1 3)) = _
  rw [e]
theorem IsBd.below {B b : Nat} {bs : List Value} {w w' : World} (h : IsBd B b bs w) (hb : Below w.heap.size w w') : IsBd B b bs w' := by
  have key : ∀ p, Lib.BuilderAt 35 5 B b p bs w → Lib.BuilderAt 35 5 B b p bs w' := by
    intro p h
    have hlt := h.lt
    obtain ⟨hB, v, hbk, hown, hne⟩ := h
    exact ⟨hB, v, (hb.block b hlt).trans hbk, World.ownsRow.kept hown (row := none) ⟨hb.os, hb.tape, hb.output, hb.size, fun k hk _ => hb.block k hk⟩ (by cases v.ownBlock <;> simp), hne⟩
  rcases h with h | h
  · exact .inl (key _ h)
  · exact .inr (key _ h)
/-- The text of a price, if it is one. -/
def Qt.fmt (n : Int) : List UInt8 := if btw n 0 19200 = true then Qt.txt n.toNat else []
theorem Qt.fmt_no {n : Int} (h : btw n 0 19200 = false) : Qt.fmt n = [] := if_neg (by rw [h]; simp)
theorem Qt.fmt_yes {n : Int} (h : btw n 0 19200 = true) : Qt.fmt n = Qt.txt n.toNat := if_pos h
theorem Qt.txt_int {n : Int} (h0 : 0 ≤ n) : Qt.txt n.toNat = Lib.decDigits (n / 64).toNat ++ ([45] ++ (two (n % 64 / 2).toNat ++ (if n % 2 = 1 then [43] else []))) := by
  unfold Qt.txt
  rw [show n.toNat / 64 = (n / 64).toNat by omega, show n.toNat % 64 / 2 = (n % 64 / 2).toNat by omega]
  by_cases h : n % 2 = 1
  · rw [if_pos h, if_pos (by omega)]; rfl
  · rw [if_neg h, if_neg (by omega)]; rfl
theorem vquoteW_any (n : Int) (w : World) : Calls Tryd.prog 15 #[.int .i64 n] w fun e w' => e = .returned (.bool (btw n 0 19200)) ∧ w = w' := by
  go_enter Tryd.func15, Tryd.ntmps15
  go_wp2_with fail
  refine (between_any _ _ _ _).mono ?_
  rintro e w' ⟨rfl, rfl⟩
  go_wp2_with fail
  go_ret
  exact ⟨rfl, rfl⟩
/-- What a writer leaves of a builder that holds bytes. -/
theorem bdStr {B b : Nat} {l m : List UInt8} {w : World} (h : IsBd B b (Lib.byteCells l) w) (hl : l.length ≤ 1000000) (hm : m.length ≤ 1000000) (hBw : B ≤ w.heap.size) :
    Calls Tryd.prog 16 #[.pointer (some ⟨b, 0, none⟩), str m] w fun e w' => e = .returned (.tuple #[.int .i64 m.length, .nilIface]) ∧ (IsBd B b (Lib.byteCells (l ++ m)) w' ∧ Below B w w') := by
  refine (bdString B b _ _ w h (by rw [Lib.byteCells_length, str_size]; omega) hBw).mono ?_
  rintro e w' ⟨rfl, h1, h2⟩
  refine ⟨by rw [str_size], .inr ?_, h2⟩
  rw [Lib.byteCells_append]
  exact h1
theorem bdByt {B b : Nat} {l : List UInt8} {w : World} (c : Int) (k : UInt8) (hc : c = (k.toNat : Int)) (h : IsBd B b (Lib.byteCells l) w) (hl : l.length ≤ 1000000) (hBw : B ≤ w.heap.size) :
    Calls Tryd.prog 18 #[.pointer (some ⟨b, 0, none⟩), .int .u8 c] w fun e w' => e = .returned .nilIface ∧ (IsBd B b (Lib.byteCells (l ++ [k])) w' ∧ Below B w w') := by
  subst hc
  refine (bdByte B b _ _ w h (by rw [Lib.byteCells_length]; omega) hBw).mono ?_
  rintro e w' ⟨rfl, h1, h2⟩
  refine ⟨rfl, .inr ?_, h2⟩
  rw [Lib.byteCells_append]
  exact h1
set_option maxHeartbeats 1000000 in
theorem fmtQ_any (n : Int) (w : World) (hT : TabP w) :
    Calls Tryd.prog 8 #[.int .i64 n] w fun e w' => e = .returned (str (Qt.fmt n)) ∧ Below w.heap.size w w' := by
  cases h : btw n 0 19200 with
  | false =>
    rw [Qt.fmt_no h]
    have H := Lib.hid h; clear h
    go_enter Tryd.func8, Tryd.ntmps8
    go_wp2_with fail
    refine (vquoteW_any _ _).mono ?_
    rintro e w' ⟨rfl, rfl⟩
    rw [H.out]
    go_wp2_with fail
    go_ret
    exact ⟨rfl, Below.refl _ _⟩
  | true =>
    obtain ⟨n0, n1⟩ := btw_iff.1 h
    have E := Lib.hid ((Qt.fmt_yes h).trans (Qt.txt_int n0))
    have H := Lib.hid h; clear h
    have hB0 : IsBd w.heap.size w.heap.size (Lib.byteCells []) (w.alloc (.cells #[.pointer none, .slice none 0 0] 35)) := Lib.fresh_isBuilder _ _ w
    have hb0 := (Below.refl w.heap.size w).alloc (Nat.le_refl _) (.cells #[.pointer none, .slice none 0 0] 35)
    have HB := Lib.hid hB0; clear hB0
    have HT := Lib.hid (hT.alloc (.cells #[.pointer none, .slice none 0 0] 35))
    have hgw := hT.lt
    have HT0 := Lib.hid hT
    have HL := Lib.hid (dec_len9 (n := (n / 64).toNat) (by omega))
    clear hT
    go_enter Tryd.func8, Tryd.ntmps8
    go_wp2_with fail
    refine (vquoteW_any _ _).mono ?_
    rintro e w' ⟨rfl, rfl⟩
    rw [H.out]
    go_wp2_with fail
    refine (itoa_any (n / 64) _ HT.out (by omega) (by omega)).mono ?_
    rintro e w1 ⟨rfl, hb⟩
    have HB1 := Lib.hid (HB.out.below hb)
    have hb1 := hb0.trans (hb.mono hb0.size)
    clear hb hb0 HB HT
    go_wp2_with fail
    refine (bdStr HB1.out (by simp) (by have := HL.out; omega) hb1.size).mono ?_
    rintro e w2 ⟨rfl, h2, hb⟩
    have HB2 := Lib.hid h2
    have hb2 := hb1.trans hb
    clear hb h2 hb1 HB1
    go_wp2_with fail
    refine (bdByt 45 45 (by decide) HB2.out (by have := HL.out; simp; omega) hb2.size).mono ?_
    rintro e w3 ⟨rfl, h3, hb⟩
    have HB3 := Lib.hid h3
    have hb3 := hb2.trans hb
    clear hb h3 hb2 HB2
    go_wp2_with fail
    refine (twoD_any (n % 64 / 2) _ (HT0.out.below hb3 hgw) (by omega) (by omega)).mono ?_
    rintro e w4 ⟨rfl, hb⟩
    have HB4 := Lib.hid (HB3.out.below hb)
    have hb4 := hb3.trans (hb.mono hb3.size)
    clear hb hb3 HB3
    go_wp2_with fail
    refine (bdStr HB4.out (by have := HL.out; simp; omega) (by simp [two]) hb4.size).mono ?_
    rintro e w5 ⟨rfl, h5, hb⟩
    have HB5 := Lib.hid h5
    have hb5 := hb4.trans hb
    clear hb h5 hb4 HB4
    by_cases hm : n % 2 = 1
    · have f1 : decide (0 < n % 2) = true := decide_eq_true (by omega)
      have E2 := Lib.hid (E.out.trans (by rw [if_pos hm]))
      clear hm
      go_wp2_with fail
      refine (bdByt 43 43 (by decide) HB5.out (by have := HL.out; simp [two]; omega) hb5.size).mono ?_
      rintro e w6 ⟨rfl, h6, hb⟩
      have HB6 := Lib.hid h6
      have hb6 := hb5.trans hb
      clear hb h6 hb5 HB5
      go_wp2_with fail
      refine (Tryd.Builder_String_any _ _ _ _ HB6.out hb6.size).mono ?_
      rintro e w7 ⟨rfl, hb⟩
      have hb7 := hb6.trans hb
      clear hb
      go_wp2_with fail
      go_ret
      refine ⟨?_, hb7⟩
      rw [E2.out]
      rfl
    · have f1 : decide (0 < n % 2) = false := decide_eq_false (by omega)
      have E2 := Lib.hid (E.out.trans (by rw [if_neg hm]))
      clear hm
      go_wp2_with fail
      refine (Tryd.Builder_String_any _ _ _ _ HB5.out hb5.size).mono ?_
      rintro e w7 ⟨rfl, hb⟩
      have hb7 := hb5.trans hb
      clear hb
      go_wp2_with fail
      go_ret
      refine ⟨?_, hb7⟩
      rw [E2.out]
      rfl
theorem sadd_no (x : List UInt8) : x ++ [] = x := List.append_nil x
set_option maxHeartbeats 2000000 in
theorem sfmtQ0_any (n : Int) (w : World) (n0 : 0 ≤ n) (n1 : n ≤ 19200) :
    Calls Tryd.prog 22 #[.int .i64 n] w fun e w' => e = .returned (str (Qt.txt n.toNat)) ∧ Below w.heap.size w w' := by
  have E := Lib.hid (Qt.txt_int n0)
  obtain ⟨q, hq⟩ : ∃ q, q = n / 64 := ⟨_, rfl⟩
  obtain ⟨r, hr⟩ : ∃ r, r = n % 64 / 2 := ⟨_, rfl⟩
  have q0 : 0 ≤ q ∧ q ≤ 300 := by omega
  have r0 : 0 ≤ r ∧ r ≤ 31 := by omega
  have IM := Lib.hid (fun W => sfmt_any q.toNat q W (by omega) (by omega) (Nat.le_refl _))
  have L := dec_len9 (n := q.toNat) (by omega)
  have T1 : n.tdiv 64 = q := by rw [hq]; exact Int.tdiv_eq_ediv_of_nonneg n0
  have T2 : n.tmod 64 = n % 64 := Int.tmod_eq_emod_of_nonneg n0
  have T3 : (n % 64).tdiv 2 = r := by rw [hr]; exact Int.tdiv_eq_ediv_of_nonneg (by omega)
  have T4 : r.tdiv 10 = r / 10 := Int.tdiv_eq_ediv_of_nonneg (by omega)
  have T5 : r.tmod 10 = r % 10 := Int.tmod_eq_emod_of_nonneg (by omega)
  have W1 : IntKind.i64.wrap q = q := IntWalk.i64_in _ (by omega)
  have W2 : IntKind.i64.wrap r = r := IntWalk.i64_in _ (by omega)
  have W3 : IntKind.i64.wrap (r / 10) = r / 10 := IntWalk.i64_in _ (by omega)
  have W4 : IntKind.i64.wrap (48 + r / 10) = 48 + r / 10 := IntWalk.i64_in _ (by omega)
  have W5 : IntKind.u8.wrap (48 + r / 10) = 48 + r / 10 := IntWalk.u8_in _ (by omega)
  have W6 : IntKind.i64.wrap (48 + r % 10) = 48 + r % 10 := IntWalk.i64_in _ (by omega)
  have W7 : IntKind.u8.wrap (48 + r % 10) = 48 + r % 10 := IntWalk.u8_in _ (by omega)
  have C : [UInt8.ofNat (48 + r / 10).toNat, UInt8.ofNat (48 + r % 10).toNat] = two r.toNat := by
    rw [ch_of (n := r / 10) (by omega) (by omega), ch_of (n := r % 10) (by omega) (by omega)]
    unfold two
    rw [show (r / 10).toNat = r.toNat / 10 by omega, show (r % 10).toNat = r.toNat % 10 by omega]
  have CV : ∀ {W : World} {b : Nat}, Blk W b 5 #[.int .u8 (48 + r / 10), .int .u8 (48 + r % 10)] → (convert 22 9 (.slice (some ⟨b, 0, none⟩) 2 2)).run Tryd.prog W = .ok (str (two r.toNat)) W := fun {W b} k => by
    rw [conv2 k, C]
  have HCV := Lib.hid (fun (W : World) (b : Nat) (k : Blk W b 5 #[.int .u8 (48 + r / 10), .int .u8 (48 + r % 10)]) => CV k)
  obtain ⟨S2, hS2⟩ : ∃ s, s = Lib.decDigits q.toNat ++ [45] := ⟨_, rfl⟩
  obtain ⟨S3, hS3⟩ : ∃ s, s = S2 ++ two r.toNat := ⟨_, rfl⟩
  obtain ⟨S4, hS4⟩ : ∃ s, s = S3 ++ [43] := ⟨_, rfl⟩
  have l2 : S2.length ≤ 11 := by rw [hS2]; simp; omega
  have l3 : S3.length ≤ 13 := by rw [hS3]; simp [two]; omega
  have A1 := fun W => add_str W (x := Lib.decDigits q.toNat) (y := [45]) (by omega) (by simp) hS2.symm
  have A2 := fun W => add_str W (x := S2) (y := two r.toNat) (by omega) (by simp [two]) hS3.symm
  have A3 := fun W => add_str W (x := S3) (y := [43]) (by omega) (by simp) hS4.symm
  have H2 := Lib.hid hS2
  have H3 := Lib.hid hS3
  have H4 := Lib.hid hS4
  clear hS2 hS3 hS4
  have K := Blk.new w #[.int .u8 (48 + r / 10), .int .u8 (48 + r % 10)] 5
  have F := HCV.out (w.alloc (.cells #[.int .u8 (48 + r / 10), .int .u8 (48 + r % 10)] 5)).drew _ K
  have HK := Lib.hid K
  have E2 := Lib.hid (show Qt.txt n.toNat = Lib.decDigits q.toNat ++ ([45] ++ (two r.toNat ++ (if n % 2 = 1 then [43] else []))) by rw [hq, hr]; exact E.out)
  have HW := Lib.hid ((Below.refl w.heap.size w).alloc (Nat.le_refl _) (.cells #[.int .u8 (48 + r / 10), .int .u8 (48 + r % 10)] 5))
  have m0 : 0 ≤ n % 64 := by omega
  have T6 : n.tmod 2 = n % 2 := Int.tmod_eq_emod_of_nonneg n0
  clear hq hr C CV K E
  go_enter Tryd.func22, Tryd.ntmps22
  go_upto_region 1 with fail
  go_cut [3] (fun s3 wx => s3 = str S3 ∧ Below w.heap.size w wx)
  case first =>
    go_region_with ((go_at_call 32; (with_reducible refine (IM.out _).mono ?_); rintro e w1 ⟨rfl, hb1⟩; (have F3 := HCV.out _ _ (Blk.new w1 #[.int .u8 (48 + r / 10), .int .u8 (48 + r % 10)] 5)); (try (have F2 := HCV.out _ _ (Blk.below (blkD HK.out) hb1 (by simp))))))
    all_goals go_wp2_with fail
    all_goals go_meet
    all_goals first | exact ⟨rfl, ((Below.refl w.heap.size w).drew.trans hb1).alloc hb1.size _⟩ | exact ⟨rfl, HW.out.drew.trans (hb1.mono HW.out.size)⟩
  case rest =>
    obtain ⟨rfl, hb⟩ := hcut
    clear F T1 T3 T4 T5 W1 W2 W3 W4 W5 W6 W7
    by_cases hm : n % 2 = 1
    · have E3 := Lib.hid (show Qt.txt n.toNat = S4 by rw [E2.out, if_pos hm, H4.out, H3.out, H2.out]; simp)
      have f1 : (n % 2 == 1) = true := by simp [hm]
      clear hm
      go_wp2_with fail
      go_ret
      refine ⟨?_, hb⟩
      rw [E3.out]
      rfl
    · have E3 := Lib.hid (show Qt.txt n.toNat = S3 by rw [E2.out, if_neg hm, H3.out, H2.out]; simp)
      have f1 : (n % 2 == 1) = false := by simp [hm]
      clear hm
      go_wp2_with fail
      go_ret
      refine ⟨?_, hb⟩
      rw [E3.out]
      rfl
set_option maxHeartbeats 400000 in
theorem sfmtQ_any (n : Int) (w : World) :
    Calls Tryd.prog 9 #[.int .i64 n] w fun e w' => e = .returned (str (Qt.fmt n)) ∧ Below w.heap.size w w' := by
  cases h : btw n 0 19200 with
  | false =>
    rw [Qt.fmt_no h]
    have H := Lib.hid h; clear h
    go_enter Tryd.func9, Tryd.ntmps9
    go_wp2_with fail
    refine (inRange_any _ _ _ _).mono ?_
    rintro e w' ⟨rfl, rfl⟩
    rw [H.out]
    go_wp2_with fail
    go_ret
    exact ⟨rfl, Below.refl _ _⟩
  | true =>
    rw [Qt.fmt_yes h]
    obtain ⟨n0, n1⟩ := btw_iff.1 h
    have H := Lib.hid h; clear h
    go_enter Tryd.func9, Tryd.ntmps9
    go_wp2_with fail
    refine (inRange_any _ _ _ _).mono ?_
    rintro e w' ⟨rfl, rfl⟩
    rw [H.out]
    go_wp2_with fail
    refine (sfmtQ0_any n _ n0 n1).mono ?_
    rintro e w' ⟨rfl, hb⟩
    go_wp2_with fail
    go_ret
    exact ⟨rfl, hb⟩
set_option maxHeartbeats 400000 in
theorem exFormatQuote (n : Int) (w : World) (hT : TabP w) :
    Calls Tryd.prog 5 #[.int .i64 n] w fun e w' => e = .returned (.bool true) ∧ Below w.heap.size w w' := by
  have HT := Lib.hid hT; clear hT
  generalize hS : Qt.fmt n = S
  have HS := Lib.hid hS; clear hS
  go_enter Tryd.func5, Tryd.ntmps5
  go_wp2_with fail
  refine (sfmtQ_any n _).mono ?_
  rw [HS.out]
  rintro e w1 ⟨rfl, hb⟩
  go_wp2_with fail
  refine (fmtQ_any n _ (HT.out.next hb)).mono ?_
  rw [HS.out]
  rintro e w2 ⟨rfl, hb2⟩
  have hb3 := hb.trans (hb2.mono hb.size)
  clear hb hb2
  go_wp2_with fail
  go_ret
  exact ⟨rfl, hb3⟩
end Go.Proofs.YtoledkecgfhdbaaDoor
