/- The places of numbers, from the greatest on, of equal ones the first one first. -/
import Derived.Test.YtgkldgljebhcgaaSrt2
namespace Go.Proofs.Ytgkldgljebhcgaa
open Go.RowKit
set_option maxHeartbeats 2000000 in
theorem stableCmp_any (w : World) (B ob oc q b off cap : Nat) (rs xs : List Int) (hrow : IRow w B (.slice (some ⟨ob, 0, none⟩) xs.length oc) xs) (hk : SrK w q b off xs.length cap rs) (hq : q ≠ ob) (hb : b ≠ ob)
    (hx : ∀ x ∈ xs, 0 ≤ x ∧ x < xs.length) (l0 : 1 ≤ xs.length) (l1 : xs.length ≤ 19) :
    Calls Try.prog 48 #[.slice (some ⟨ob, 0, none⟩) xs.length oc, .int .i64 xs.length, .func (.func 46) #[] #[.pointer (some ⟨q, 0, none⟩)]] w (SrPost w B ob xs.length oc (Sr.srt (Sr.lt rs) xs (xs.length - 1))) := by
  have HI := Lib.hid (insSort_any w B ob oc q b off cap rs xs hrow hk hq hb hx l0 (by omega))
  clear hrow hk hx
  generalize Sr.srt (Sr.lt rs) xs (xs.length - 1) = out at HI ⊢
  generalize xs.length = n at *
  have h1 : ¬ (20 : Int) ≤ n := by omega
  have h2 : ¬ (20 : Int) < n := by omega
  go_enter Try.func48, Try.ntmps48
  go_wp2_with fail
  refine wp_loop_rounds 1 ?_
  rw [rounds_succ]
  go_wp2_with fail
  refine HI.out.mono ?_
  rintro e w1 ⟨rfl, hF, hg⟩
  go_wp2_with fail
  refine wp_loop_rounds 1 ?_
  rw [rounds_succ]
  go_wp2_with fail
  go_end0
  exact ⟨rfl, hF, hg⟩
set_option maxHeartbeats 800000 in
theorem sortStable_any (w : World) (B ob oc q b off cap : Nat) (rs xs : List Int) (hrow : IRow w B (.slice (some ⟨ob, 0, none⟩) xs.length oc) xs) (hk : SrK w q b off xs.length cap rs) (hq : q ≠ ob) (hb : b ≠ ob)
    (hx : ∀ x ∈ xs, 0 ≤ x ∧ x < xs.length) (l0 : 1 ≤ xs.length) (l1 : xs.length ≤ 19) :
    Calls Try.prog 45 #[.slice (some ⟨ob, 0, none⟩) xs.length oc, .func (.func 46) #[] #[.pointer (some ⟨q, 0, none⟩)]] w (SrPost w B ob xs.length oc (Sr.srt (Sr.lt rs) xs (xs.length - 1))) := by
  have HI := Lib.hid (stableCmp_any w B ob oc q b off cap rs xs hrow hk hq hb hx l0 l1)
  clear hrow hk hx
  generalize Sr.srt (Sr.lt rs) xs (xs.length - 1) = out at HI ⊢
  generalize xs.length = n at *
  go_enter Try.func45, Try.ntmps45
  go_wp2_with fail
  refine HI.out.mono ?_
  rintro e w1 ⟨rfl, hF, hg⟩
  go_wp2_with fail
  go_end0
  exact ⟨rfl, hF, hg⟩
theorem take_snocS {xs : List Int} {k : Nat} (hk : k < xs.length) : xs.take (k + 1) = xs.take k ++ [xs.getD k 0] := by
  rw [List.take_add_one, List.getD_eq_getElem?_getD, List.getElem?_eq_getElem hk]; rfl
theorem copy_intS {xs : List Int} {k : Nat} (hk : k < xs.length) : (xs.take k ++ List.replicate (xs.length - k) 0).set k (xs.getD k 0) = xs.take (k + 1) ++ List.replicate (xs.length - (k + 1)) 0 := by
  obtain ⟨m, hm⟩ : ∃ m, xs.length - k = m + 1 := ⟨xs.length - k - 1, by omega⟩
  rw [hm, show xs.length - (k + 1) = m by omega, List.replicate_succ, take_snocS hk, List.set_append_right _ _ (by simp; omega)]
  simp [Nat.min_eq_left (Nat.le_of_lt hk)]
theorem Sr.fill {n k : Nat} (hk : k < n) : ((Sr.upto n).take k ++ List.replicate (n - k) (0 : Int)).set k (k : Int) = (Sr.upto n).take (k + 1) ++ List.replicate (n - (k + 1)) 0 := by
  have hl := Sr.upto_len n
  have h := copy_intS (xs := Sr.upto n) (k := k) (by omega)
  rw [hl, Sr.upto_at hk] at h
  exact h
set_option maxRecDepth 8000 in
set_option maxHeartbeats 4000000 in
theorem greatest_any (w : World) (v : Value) (rs : List Int) (hv : R1o w v rs) (l0 : 1 ≤ rs.length) (l1 : rs.length ≤ 19) :
    Calls Try.prog 42 #[v] w fun e w' => ∃ ob oc, e = .returned (.slice (some ⟨ob, 0, none⟩) rs.length oc) ∧ IRow w' w.heap.size (.slice (some ⟨ob, 0, none⟩) rs.length oc) (Sr.ord rs) ∧ Below w.heap.size w w' := by
  have hbA := (Below.refl w.heap.size w).alloc (Nat.le_refl _) (.cells #[v] 23)
  have KB := Lib.hid (Blk.new w #[v] 23)
  have HV := Lib.hid (hv.below hbA (Nat.le_refl _))
  obtain ⟨⟨a, cap, rfl⟩, h1⟩ := hv
  obtain ⟨b, off, c, e, hbl, hc⟩ := h1 (by omega)
  simp only [Value.slice.injEq, true_and] at e
  obtain ⟨rfl, rfl⟩ := e
  have HC := Lib.hid hc
  have HBA := Lib.hid hbA
  clear hbA h1 hc
  have hcE := KB.out.one0
  obtain ⟨i0, hi, hz0, hz1, hz2⟩ := info_parts infoInt
  have HO := Lib.hid (show Sr.ord rs = Sr.srt (Sr.lt rs) (Sr.upto rs.length) ((Sr.upto rs.length).length - 1) by rw [Sr.upto_len]; rfl)
  go_enter Try.func42, Try.ntmps42
  go_wp2_with (at_make; refine wpList_make_full _ rfl _ _ 23 rfl (w.heap.size + 1) 3 i0 (.int .i64 0) 1 Try.underlying23 hi hz0 hz1 .i64 .i64 _ _ rs.length rfl rfl rfl rfl (by rw [hz2]; omega) (by unfold maxLen; omega) (by simp) ?_; intro w3 hown hgrow)
  rw [made_ints1] at hown
  have hsz : (w.alloc (.cells #[.slice (some ⟨b, off, none⟩) rs.length cap] 23)).heap.size = w.heap.size + 1 := by simp
  have hb3 : Below (w.heap.size + 1) (w.alloc (.cells #[.slice (some ⟨b, off, none⟩) rs.length cap] 23)) w3 := by
    rw [← hsz]; exact (Below.refl _ _).grown hgrow (Nat.le_refl _) (fun j hj => by cases hj)
  have HOw : Hid (IRow w3 (w.heap.size + 1) (.slice (some ⟨w.heap.size + 1, 0, none⟩) rs.length rs.length) ((Sr.upto rs.length).take 0 ++ List.replicate (rs.length - 0) 0)) := Lib.hid (by unfold IRow; simpa using hown)
  have HB3 := Lib.hid hb3
  have hc3 := (hb3.cell (p := ⟨w.heap.size, 0, none⟩) (by show w.heap.size < w.heap.size + 1; omega)).trans hcE
  clear hown hgrow hcE hb3
  have HCE := Lib.hid hc3
  clear hc3
  go_wp2_with fail
  go_loopw [10] (fun x wr => ∃ k : Nat, k ≤ rs.length ∧ x = .int .i64 k ∧ Hid (IRow wr (w.heap.size + 1) (.slice (some ⟨w.heap.size + 1, 0, none⟩) rs.length rs.length) ((Sr.upto rs.length).take k ++ List.replicate (rs.length - k) 0)) ∧ Hid (w3.grownBy wr (some (w.heap.size + 1)))) (fun x _ => rs.length - (intOf x).toNat)
  case atStart => exact ⟨0, Nat.zero_le _, rfl, HOw, Lib.hid ⟨rfl, rfl, rfl, Nat.le_refl _, fun _ _ _ => rfl⟩⟩
  case round =>
    obtain ⟨k, hk, rfl, HF, HG⟩ := hrel
    have hlen : ((Sr.upto rs.length).take k ++ List.replicate (rs.length - k) (0 : Int)).length = rs.length := by simp [Sr.upto_len]; omega
    have HLn := Lib.hid hlen
    clear hlen
    by_cases hlt : k < rs.length
    · obtain ⟨b4, cap4, e4, -, hbl4, -, hc4, hf4⟩ := HF.out.form (by rw [HLn.out]; omega)
      rw [HLn.out] at e4
      simp only [Value.slice.injEq, true_and, Option.some.injEq, Addr.mk.injEq, and_true] at e4
      obtain ⟨rfl, -⟩ := e4
      have d0 := hc4 k (by rw [HLn.out]; exact hlt)
      have g0 := hf4 k
      clear hc4 hf4
      have HS := Lib.hid (show _ ∧ _ from (show IRow wr (w.heap.size + 1) (.slice (some ⟨w.heap.size + 1, 0, none⟩) ((Sr.upto rs.length).take k ++ List.replicate (rs.length - k) (0 : Int)).length rs.length) ((Sr.upto rs.length).take k ++ List.replicate (rs.length - k) 0) by rw [HLn.out]; exact HF.out).store k (k : Int))
      have HFl := Lib.hid (Sr.fill (n := rs.length) hlt)
      have hki : (k : Int) < rs.length := by omega
      generalize List.getD ((Sr.upto rs.length).take k ++ List.replicate (rs.length - k) 0) k 0 = y at d0
      go_wp2_with fail
      go_roundw
      case rel =>
        refine ⟨k + 1, by omega, by go_num, ?_, Lib.hid (grownS HG.out HS.out.2)⟩
        have h := HS.out.1
        rw [List.length_set, HLn.out, HFl.out] at h
        exact Lib.hid h
      case measure => simp [intOf] <;> omega
    · obtain rfl : k = rs.length := by omega
      have HF2 : Hid (IRow wr (w.heap.size + 1) (.slice (some ⟨w.heap.size + 1, 0, none⟩) (Sr.upto rs.length).length rs.length) (Sr.upto rs.length)) := Lib.hid (by
        have h := HF.out
        rw [List.take_of_length_le (by rw [Sr.upto_len]; exact Nat.le_refl _), Nat.sub_self] at h
        simp only [List.replicate_zero, List.append_nil] at h
        rw [Sr.upto_len]; exact h)
      have HBr := Lib.hid (show Below (w.heap.size + 1) (w.alloc (.cells #[.slice (some ⟨b, off, none⟩) rs.length cap] 23)) wr from HB3.out.grown HG.out (by have := HB3.out.size; rw [hsz] at this; exact this) (fun j hj => by injection hj with hj; omega))
      have HK : Hid (SrK wr w.heap.size b off (Sr.upto rs.length).length cap rs) := Lib.hid (by
        rw [Sr.upto_len]
        refine ⟨(HBr.out.cell (p := ⟨w.heap.size, 0, none⟩) (by show w.heap.size < w.heap.size + 1; omega)).trans KB.out.one0, fun i hi => ?_⟩
        exact (HBr.out.cell (p := ⟨b, off + i, none⟩) (by show b < w.heap.size + 1; omega)).trans ((HBA.out.cell (p := ⟨b, off + i, none⟩) hbl).trans (HC.out i hi)))
      have HX := Lib.hid (sortStable_any wr (w.heap.size + 1) (w.heap.size + 1) rs.length w.heap.size b off cap rs (Sr.upto rs.length) HF2.out HK.out (by omega) (by omega) (fun x hx => by
        unfold Sr.upto at hx
        rw [List.mem_map] at hx
        obtain ⟨i, hi, rfl⟩ := hx
        have := List.mem_range.1 hi
        rw [Sr.upto_len]; omega) (by rw [Sr.upto_len]; exact l0) (by rw [Sr.upto_len]; exact l1))
      rw [Sr.upto_len] at HX
      go_wp2_with fail
      refine HX.out.mono ?_
      rintro e w5 ⟨rfl, hF5, hg5⟩
      have HF5 := Lib.hid hF5
      have HG5 := Lib.hid hg5
      clear hF5 hg5
      go_wp2_with fail
      go_ret
      refine ⟨_, _, rfl, ?_, ?_⟩
      · have h := HF5.out.lower (C := w.heap.size) (by omega)
        rw [show Sr.ord rs = Sr.srt (Sr.lt rs) (Sr.upto rs.length) (rs.length - 1) from rfl]
        exact h
      · have h := HBr.out.grown HG5.out (by have := HBr.out.size; rw [hsz] at this; exact this) (fun j hj => by injection hj with hj; omega)
        exact HBA.out.trans (h.mono (by omega))
end Go.Proofs.Ytgkldgljebhcgaa
