/- Weights drawn out of a law's input. -/
import Derived.Test.YtgkldgljebhcgaaSplB
import Derived.Test.YtgkldgljebhcgaaKg
import Derived.Test.YtgkldgljebhcgaaCwU
namespace Go.Proofs.Ytgkldgljebhcgaa
open Go.RowKit
theorem IntsG.r1c {w : World} {g B : Nat} {a : Option Addr} {xs : List Int} {cap : Nat} (h : IntsG w g B a xs) (hB : B ≤ w.heap.size) : R1o w (.slice a xs.length cap) xs := by
  refine ⟨⟨a, cap, rfl⟩, fun hl => ?_⟩
  obtain ⟨b, off, rfl, -, hb, hc⟩ := h hl
  exact ⟨b, off, cap, rfl, by omega, hc⟩
theorem Cw.hold_of {xs : List Int} (h : ∀ x ∈ xs, 0 ≤ x ∧ x ≤ 100) : xs.all holdB = true := List.all_eq_true.2 fun x hx => by
  have := h x hx
  exact btw_iff.2 (by omega)
theorem Cw.sum_pos {xs : List Int} (h : ∀ x ∈ xs, 0 ≤ x ∧ x ≤ 100) (hz : xs.sum ≠ 0) : 0 < xs.sum := by
  have := Pr.sum_nn xs (fun x hx => (h x hx).1)
  omega
theorem Cw.set_pos {xs : List Int} (h : ∀ x ∈ xs, 0 ≤ x ∧ x ≤ 100) (hz : xs.sum = 0) (hl : 0 < xs.length) : 0 < (xs.set 0 1).sum ∧ ∀ x ∈ xs.set 0 1, 0 ≤ x ∧ x ≤ 100 := by
  refine ⟨?_, fun x hx => ?_⟩
  · rw [Pr.sum_set _ _ _ hl, hz]
    have h1 := Pr.mem_le xs (fun x hx => (h x hx).1) (xs.getD 0 0) (by rw [Sr.getD_get hl]; exact List.getElem_mem hl)
    omega
  · rcases List.mem_or_eq_of_mem_set hx with hx | hx
    · exact h x hx
    · omega
def DCw (w : World) (e : Ending) (w' : World) : Prop :=
  ∃ n a c xs, e = .returned (.tuple #[.slice a xs.length c, .int .i64 n]) ∧ R1o w' (.slice a xs.length c) xs ∧ xs.length ≤ 9 ∧ (0 ≤ n ∧ n ≤ 1001) ∧ Below w.heap.size w w'
/-- What is left to be done when the weights have been drawn. -/
theorem Cw.out_small {xs : List Int} (h : ∀ x ∈ xs, 0 ≤ x ∧ x ≤ 100) (hs : 0 < xs.sum) : ∀ x ∈ Pr.out 1000 xs, -1 ≤ x ∧ x ≤ 100000 := by
  have ok : Pr.Ok 1000 xs := ⟨by decide, fun x hx => (h x hx).1, hs⟩
  exact Cw.mem_at fun i hi => by
    rw [Pr.out_len] at hi
    have h1 := Pr.out_nn ok hi
    have h2 := Pr.out_le ok hi
    omega
set_option maxRecDepth 8000 in
set_option maxHeartbeats 4000000 in
theorem drawCW_any (w : World) (a : Option Addr) (len cap : Nat) (zs : List Int) (h : IsRow .u8 w a len cap zs) :
    Calls Try.prog 6 #[.slice a len cap] w (DCw w) := by
  have H := Lib.hid h; clear h
  go_enter Try.func6, Try.ntmps6
  go_wp2_with fail
  refine (newReader_any _ _ _ _ _ H.out).mono ?_
  rintro e w1 ⟨g, rfl, hg, hr, hb⟩
  have hgl := hr.lt
  go_wp2_with fail
  refine (one_any 1 8 _ g _ (w1.heap.size + 1) _ _ ((hr.alloc _).alloc _) (by omega) (by simpa using heap_alloc_new (w1.alloc (.cells #[] 3)) _) (by omega) (by decide) (by decide) (by decide) 6 6 (by rfl)).mono ?_
  rintro e w3 ⟨n, rfl, ⟨n0, n1⟩, hr3, hg3⟩
  have HG3 := Lib.hid (grown_trans (grown_alloc (grown_alloc (grown_refl w1 g) (.cells #[] 3)) (.cells #[.int .i64 3, .int .i64 4, .int .i64 5, .int .i64 2, .int .i64 8, .int .i64 1] 3)) hg3)
  have HO3 := Lib.hid (((own_new w1).alloc (.cells #[.int .i64 3, .int .i64 4, .int .i64 5, .int .i64 2, .int .i64 8, .int .i64 1] 3)).kept hg3 hgl)
  have HB := Lib.hid hb
  clear hg3 hb hr
  go_wp2_with fail
  go_loopw [5, 6] (fun o y wr => ∃ (m : Nat) (xs : List Int), y = .int .i64 m ∧ (1 ≤ xs.length + m ∧ xs.length + m ≤ 8) ∧ Hid (Own wr w1.heap.size o xs) ∧ Hid (Rdr wr g (100 + 2 * xs.length)) ∧ Hid (w1.grownBy wr (some g)) ∧ Hid (∀ x ∈ xs, 0 ≤ x ∧ x ≤ 100)) (fun _ y _ => (intOf y).toNat)
  case atStart => exact ⟨n.toNat, [], by simp; omega, by simp; omega, HO3, Lib.hid (hr3.more (by simp)), HG3, Lib.hid (fun x hx => by cases hx)⟩
  case round =>
    obtain ⟨m, xs, rfl, ⟨hm1, hm⟩, HO, HR, HG, HX⟩ := hrel
    obtain ⟨b6, c6, rfl, hb6, hbl6, hc6, hf6⟩ := HO.out.form
    by_cases hlt : 0 < m
    · have hlt' : (0 : Int) < m := by omega
      clear hc6 hf6
      go_wp2_with fail
      refine (pick_any _ _ _ _ HR.out (by omega) (by omega) (by omega)).mono ?_
      rintro e w4 ⟨y, rfl, ⟨hy, -⟩, hr4, hg4⟩
      obtain ⟨y0, y1⟩ := hy (by omega)
      have HO4 := Lib.hid (HO.out.kept hg4 hgl)
      have HG4 := Lib.hid (grown_trans HG.out hg4)
      clear hy hg4
      go_wp2_with fail
      refine (one_any 0 100 _ g _ w4.heap.size _ _ (hr4.alloc _) (by omega) (heap_alloc_new w4 _) (by have := hr4.lt; omega) (by simp) (by simp) (by simp [okInts, okInt]; omega) 6 6 (by rfl)).mono ?_
      rintro e w5 ⟨x0, rfl, ⟨a0, a1⟩, hr5, hg5⟩
      have HO5 := Lib.hid ((HO4.out.alloc (.cells #[.int .i64 0, .int .i64 1, .int .i64 5, .int .i64 10, .int .i64 40, .int .i64 y] 3)).kept hg5 hgl)
      have HG5 := Lib.hid (grown_trans (grown_alloc HG4.out (.cells #[.int .i64 0, .int .i64 1, .int .i64 5, .int .i64 10, .int .i64 40, .int .i64 y] 3)) hg5)
      have HR5 := Lib.hid hr5
      have hw5 : w1.heap.size ≤ w5.heap.size := HG5.out.size
      clear hg5 hr5 hr4
      have hKN := (Blk.new w5 #[.int .i64 x0] 3).one0
      go_wp2_with (at_builtin; refine wpList_push _ rfl _ _ rfl w1.heap.size _ xs rfl (HO5.out.alloc _) w5.heap.size _ x0 rfl hKN (by omega) (by simp; omega) ?_; intro v6 w6 hown6 hg6)
      have HO6 := Lib.hid hown6
      have HG6 := Lib.hid hg6
      clear hown6 hg6 hKN
      go_roundw
      case rel =>
        refine ⟨m - 1, xs ++ [x0], by go_num, by simp; omega, HO6, ?_, ?_, Lib.hid (fun x hx => ?_)⟩
        · have h1 := HR5.out.alloc (.cells #[.int .i64 x0] 3)
          exact Lib.hid ((rdr_far h1 HG6.out (fun j e => by have := HO5.out.far j e; omega)).more (by simp; omega))
        · exact Lib.hid (grown_far (grown_alloc HG5.out _) HG6.out (fun j e => by have := HO5.out.far j e; omega))
        · rcases List.mem_append.1 hx with hx | hx
          · exact HX.out x hx
          · simp only [List.mem_cons, List.not_mem_nil, or_false] at hx; omega
      case measure => simp [intOf] <;> omega
    · obtain rfl : m = 0 := by omega
      have hlt' : ¬ (0 : Int) < ((0 : Nat) : Int) := by omega
      have ST := Lib.hid (stotal_any wr _ xs HO.out.irow.r1 (by omega) (fun i hi => by
        have := HX.out (xs.getD i 0) (by rw [Sr.getD_get hi]; exact List.getElem_mem hi)
        omega))
      have d0 := hc6 0 (by omega)
      have g0 := hf6 0
      have hlx : (1 : Int) ≤ xs.length := by omega
      generalize xs.getD 0 0 = x0 at d0
      have HB6 := Lib.hid (below_grown HB.out HG.out (by omega))
      clear hc6 hf6
      by_cases hz : xs.sum = 0
      · rw [hz] at ST
        obtain ⟨hp2, hx2⟩ := Cw.set_pos HX.out hz (by omega)
        have hst := IRow.store (w := wr) (B := w1.heap.size) (b := b6) (cap := c6) (xs := xs) HO.out.irow 0 1
        have HO7 := Lib.hid (show Own (wr.setCell ⟨b6, 0, none⟩ (.int .i64 1)) w1.heap.size (.slice (some ⟨b6, 0, none⟩) (xs.set 0 1).length c6) (xs.set 0 1) from ⟨hst.1, by simp⟩)
        have HR7 := Lib.hid (rdr_far HR.out hst.2 (fun j hj => by injection hj with hj; omega))
        have HB7 := Lib.hid (HB6.out.setCell (p := ⟨b6, 0, none⟩) (by show w.heap.size ≤ b6; have := HB.out.size; omega) (.int .i64 1))
        have SP := Lib.hid (sprorate_any (wr.setCell ⟨b6, 0, none⟩ (.int .i64 1)) 1000 _ (xs.set 0 1) HO7.out.irow.r1 (by omega) (by omega) (Cw.hold_of hx2) (by rw [List.length_set]; omega) hp2)
        have HX7 := Lib.hid (Cw.out_small hx2 hp2)
        have HL7 := Lib.hid (show (Pr.out 1000 (xs.set 0 1)).length = xs.length by rw [Pr.out_len, List.length_set])
        rw [List.length_set] at SP
        clear hst hz hp2 hx2
        generalize xs.set 0 1 = ys at *
        go_wp2_with fail
        refine ST.out.mono ?_
        rintro e w7 ⟨rfl, rfl⟩
        go_wp2_with fail
        refine SP.out.mono ?_
        rintro e w8 ⟨v8, rfl, ho8, hb8⟩
        have hr8 := HR7.out.below hb8 HR7.out.lt
        have HB8 := Lib.hid (HB7.out.trans (hb8.mono HB7.out.size))
        have HO8 := Lib.hid ho8
        have hgw8 : g < w8.heap.size := hr8.lt
        clear SP ho8 hb8
        go_wp2_with fail
        refine (spoilB_any _ _ _ _ _ _ _ hr8 (by omega) HO8.out (by rw [HL7.out]; omega) (by omega) (by omega) HX7.out).mono ?_
        rintro e w9 ⟨a9, cap9, es, rfl, hI9, hl9, hc9, hr9, hg9, hx9⟩
        have HB9 := Lib.hid (below_grown HB8.out hg9 (by omega))
        have HI9 := Lib.hid hI9
        have hl9' : es.length ≤ 9 := by rw [HL7.out] at hl9; omega
        clear hI9 hg9 hx9 hl9
        go_wp2_with fail
        refine (one_any 0 1001 _ g _ w9.heap.size _ _ (hr9.alloc _) (by omega) (heap_alloc_new w9 _) (by have := hr9.lt; omega) (by decide) (by decide) (by decide) 9 9 (by rfl)).mono ?_
        rintro e w10 ⟨z, rfl, ⟨z0, z1⟩, hr10, hg10⟩
        have HI10 := Lib.hid (((HI9.out.alloc _).kept hg10).r1c (cap := cap9) (Nat.le_refl _))
        have HB10 := Lib.hid (below_grown (HB9.out.alloc HB9.out.size _) hg10 (by omega))
        clear hg10
        go_wp2_with fail
        refine bodyPost_ret (v := .tuple #[.slice a9 es.length cap9, .int .i64 z]) (by simp [results, Try.results6, go_sem]) rfl ⟨z, a9, cap9, es, rfl, HI10.out, hl9', by omega, HB10.out⟩
      · have hzb : (xs.sum == 0) = false := by simpa using hz
        have hp2 := Cw.sum_pos HX.out hz
        have HR7 := HR
        have HB7 := HB6
        have SP := Lib.hid (sprorate_any wr 1000 _ xs HO.out.irow.r1 (by omega) (by omega) (Cw.hold_of HX.out) (by omega) hp2)
        have HX7 := Lib.hid (Cw.out_small HX.out hp2)
        have HL7 := Lib.hid (show (Pr.out 1000 xs).length = xs.length from Pr.out_len _ _)
        clear hp2 hz
        go_wp2_with fail
        refine ST.out.mono ?_
        rintro e w7 ⟨rfl, rfl⟩
        go_wp2_with fail
        refine SP.out.mono ?_
        rintro e w8 ⟨v8, rfl, ho8, hb8⟩
        have hr8 := HR7.out.below hb8 HR7.out.lt
        have HB8 := Lib.hid (HB7.out.trans (hb8.mono HB7.out.size))
        have HO8 := Lib.hid ho8
        have hgw8 : g < w8.heap.size := hr8.lt
        clear SP ho8 hb8
        go_wp2_with fail
        refine (spoilB_any _ _ _ _ _ _ _ hr8 (by omega) HO8.out (by rw [HL7.out]; omega) (by omega) (by omega) HX7.out).mono ?_
        rintro e w9 ⟨a9, cap9, es, rfl, hI9, hl9, hc9, hr9, hg9, hx9⟩
        have HB9 := Lib.hid (below_grown HB8.out hg9 (by omega))
        have HI9 := Lib.hid hI9
        have hl9' : es.length ≤ 9 := by rw [HL7.out] at hl9; omega
        clear hI9 hg9 hx9 hl9
        go_wp2_with fail
        refine (one_any 0 1001 _ g _ w9.heap.size _ _ (hr9.alloc _) (by omega) (heap_alloc_new w9 _) (by have := hr9.lt; omega) (by decide) (by decide) (by decide) 9 9 (by rfl)).mono ?_
        rintro e w10 ⟨z, rfl, ⟨z0, z1⟩, hr10, hg10⟩
        have HI10 := Lib.hid (((HI9.out.alloc _).kept hg10).r1c (cap := cap9) (Nat.le_refl _))
        have HB10 := Lib.hid (below_grown (HB9.out.alloc HB9.out.size _) hg10 (by omega))
        clear hg10
        go_wp2_with fail
        refine bodyPost_ret (v := .tuple #[.slice a9 es.length cap9, .int .i64 z]) (by simp [results, Try.results6, go_sem]) rfl ⟨z, a9, cap9, es, rfl, HI10.out, hl9', by omega, HB10.out⟩
end Go.Proofs.Ytgkldgljebhcgaa
