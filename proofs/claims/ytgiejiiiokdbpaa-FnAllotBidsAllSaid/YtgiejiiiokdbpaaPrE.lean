/- Holders drawn out of a law's input. -/
import Derived.Test.YtgiejiiiokdbpaaSplB
import Derived.Test.YtgiejiiiokdbpaaKg
import Derived.Test.YtgiejiiiokdbpaaPrC
namespace Go.Proofs.Ytgiejiiiokdbpaa
open Go.RowKit
theorem IntsG.r1p {w : World} {g B : Nat} {a : Option Addr} {xs : List Int} {cap : Nat} (h : IntsG w g B a xs) (hB : B ≤ w.heap.size) : R1o w (.slice a xs.length cap) xs := by
  refine ⟨⟨a, cap, rfl⟩, fun hl => ?_⟩
  obtain ⟨b, off, rfl, -, hb, hc⟩ := h hl
  exact ⟨b, off, cap, rfl, by omega, hc⟩
set_option maxRecDepth 8000 in
set_option maxHeartbeats 2000000 in
theorem anyHolders_any (w : World) (g p : Nat) (h : Rdr w g p) (hp : p ≤ 100) :
    Calls Try.prog 41 #[.pointer (some ⟨g, 0, none⟩)] w (DrawnIntsB 10 1000 w g p) := by
  have hgl := h.lt
  go_enter Try.func41, Try.ntmps41
  go_wp2_with fail
  refine (one_any 0 9 _ g _ (w.heap.size + 1) _ _ ((h.alloc _).alloc _) (by omega) (by simpa using heap_alloc_new (w.alloc (.cells #[] 3)) _) (by omega) (by decide) (by decide) (by decide) 8 8 (by rfl)).mono ?_
  rintro e w3 ⟨n, rfl, ⟨n0, n1⟩, hr3, hg3⟩
  have HG3 := Lib.hid (grown_trans (grown_alloc (grown_alloc (grown_refl w g) (.cells #[] 3)) (.cells #[.int .i64 3, .int .i64 4, .int .i64 2, .int .i64 5, .int .i64 1, .int .i64 0, .int .i64 8, .int .i64 9] 3)) hg3)
  have HO3 := Lib.hid (((own_new w).alloc (.cells #[.int .i64 3, .int .i64 4, .int .i64 2, .int .i64 5, .int .i64 1, .int .i64 0, .int .i64 8, .int .i64 9] 3)).kept hg3 hgl)
  clear hg3
  go_wp2_with fail
  go_loopw [3, 4] (fun o y wr => ∃ (m : Nat) (xs : List Int), y = .int .i64 m ∧ xs.length + m ≤ 9 ∧ Hid (Own wr w.heap.size o xs) ∧ Hid (Rdr wr g (p + 100 + 2 * xs.length)) ∧ Hid (w.grownBy wr (some g)) ∧ Hid (∀ x ∈ xs, -1 ≤ x ∧ x ≤ 100000)) (fun _ y _ => (intOf y).toNat)
  case atStart => exact ⟨n.toNat, [], by simp; omega, by simp; omega, HO3, Lib.hid (hr3.more (by simp)), HG3, Lib.hid (fun x hx => by cases hx)⟩
  case round =>
    obtain ⟨m, xs, rfl, hm, HO, HR, HG, HX⟩ := hrel
    obtain ⟨b6, c6, rfl, hb6, -⟩ := HO.out.form
    by_cases hlt : 0 < m
    · have hlt' : (0 : Int) < m := by omega
      go_wp2_with fail
      refine (pick_any _ _ _ _ HR.out (by omega) (by omega) (by omega)).mono ?_
      rintro e w4 ⟨y, rfl, ⟨hy, -⟩, hr4, hg4⟩
      obtain ⟨y0, y1⟩ := hy (by omega)
      have HO4 := Lib.hid (HO.out.kept hg4 hgl)
      have HG4 := Lib.hid (grown_trans HG.out hg4)
      clear hy hg4
      go_wp2_with fail
      refine (one_any 0 9999 _ g _ w4.heap.size _ _ (hr4.alloc _) (by omega) (heap_alloc_new w4 _) (by have := hr4.lt; omega) (by simp) (by simp) (by simp [okInts, okInt]; omega) 8 8 (by rfl)).mono ?_
      rintro e w5 ⟨x0, rfl, ⟨a0, a1⟩, hr5, hg5⟩
      have HO5 := Lib.hid ((HO4.out.alloc (.cells #[.int .i64 0, .int .i64 1, .int .i64 10, .int .i64 33, .int .i64 100, .int .i64 7, .int .i64 9999, .int .i64 y] 3)).kept hg5 hgl)
      have HG5 := Lib.hid (grown_trans (grown_alloc HG4.out (.cells #[.int .i64 0, .int .i64 1, .int .i64 10, .int .i64 33, .int .i64 100, .int .i64 7, .int .i64 9999, .int .i64 y] 3)) hg5)
      have HR5 := Lib.hid hr5
      have hw5 : w.heap.size ≤ w5.heap.size := HG5.out.size
      clear hg5 hr5 hr4
      have hKN := (Blk.new w5 #[.int .i64 x0] 3).one0
      go_wp2_with (at_builtin; refine wpList_push _ rfl _ _ rfl w.heap.size _ xs rfl (HO5.out.alloc _) w5.heap.size _ x0 rfl hKN (by omega) (by simp; omega) ?_; intro v6 w6 hown6 hg6)
      have HO6 := Lib.hid hown6
      have HG6 := Lib.hid hg6
      clear hown6 hg6 hKN
      go_roundw
      case rel =>
        refine ⟨m - 1, xs ++ [x0], by go_num, by simp; omega, HO6, ?_, ?_, Lib.hid (fun x hx => ?_)⟩
        · have h1 := HR5.out.alloc (.cells #[.int .i64 x0] 3)
          exact Lib.hid ((rdr_far h1 HG6.out (fun j e => by have := HO5.out.far j e; omega)).more (by simp; omega))
        · exact Lib.hid (grown_far (grown_alloc HG5.out _) HG6.out (fun j e => by have := HO5.out.far j e; omega))
        · rcases List.mem_append.1 hx with hx | hx
          · exact HX.out x hx
          · simp only [List.mem_cons, List.not_mem_nil, or_false] at hx; omega
      case measure => simp [intOf] <;> omega
    · obtain rfl : m = 0 := by omega
      have hlt' : ¬ (0 : Int) < ((0 : Nat) : Int) := by omega
      go_wp2_with fail
      refine (spoilB_any _ _ _ _ _ _ _ HR.out (by omega) HO.out (by omega) (by omega) (by omega) HX.out).mono ?_
      rintro e w6 ⟨a6, cap6, es, rfl, hI6, hl6, hc6, hr6, hg6, hx6⟩
      have HG6 := Lib.hid (grown_trans HG.out hg6)
      have HX6 := Lib.hid hx6; clear hx6
      go_wp2_with fail
      go_ret
      exact ⟨a6, cap6, es, rfl, hI6, by omega, hc6, hr6.more (by omega), HG6.out, HX6.out⟩
def DPr (w : World) (e : Ending) (w' : World) : Prop :=
  ∃ n a c xs, e = .returned (.tuple #[.int .i64 n, .slice a xs.length c]) ∧ R1o w' (.slice a xs.length c) xs ∧ xs.length ≤ 10 ∧ (-2000000 ≤ n ∧ n ≤ 2000000000) ∧ Below w.heap.size w w'
set_option maxHeartbeats 1000000 in
theorem drawPR_any (w : World) (a : Option Addr) (len cap : Nat) (zs : List Int) (h : IsRow .u8 w a len cap zs) :
    Calls Try.prog 17 #[.slice a len cap] w (DPr w) := by
  have H := Lib.hid h; clear h
  go_enter Try.func17, Try.ntmps17
  go_wp2_with fail
  refine (newReader_any _ _ _ _ _ H.out).mono ?_
  rintro e w1 ⟨g, rfl, hg, hr, hb⟩
  have hgl := hr.lt
  go_wp2_with fail
  refine (one_any (-1) 1000000001 _ g _ w1.heap.size _ _ (hr.alloc _) (by omega) (heap_alloc_new w1 _) (by omega) (by decide) (by decide) (by decide) 8 8 (by rfl)).mono ?_
  rintro e w2 ⟨n, rfl, ⟨n0, n1⟩, hr2, hg2⟩
  have HB2 := Lib.hid (below_grown (hb.alloc hb.size (.cells #[.int .i64 100, .int .i64 10, .int .i64 7, .int .i64 0, .int .i64 1, .int .i64 1000000000, .int .i64 1000000001, .int .i64 (-1)] 3)) hg2 (by omega))
  clear hg2 hr hb
  go_wp2_with fail
  refine (anyHolders_any _ _ _ hr2 (by omega)).mono ?_
  rintro e w3 ⟨a3, c3, xs, rfl, hI3, hl3, hc3, hr3, hg3, -⟩
  have HI3 := Lib.hid (hI3.r1p (cap := c3) (Nat.le_refl _))
  have HB3 := Lib.hid (below_grown HB2.out hg3 (by omega))
  clear hI3 hg3
  go_wp2_with fail
  refine bodyPost_ret (v := .tuple #[.int .i64 n, .slice a3 xs.length c3]) (by simp [results, Try.results17, go_sem]) rfl ⟨n, a3, c3, xs, rfl, HI3.out, hl3, by omega, HB3.out⟩
set_option maxHeartbeats 1000000 in
theorem drawDL_any (w : World) (a : Option Addr) (len cap : Nat) (zs : List Int) (h : IsRow .u8 w a len cap zs) :
    Calls Try.prog 22 #[.slice a len cap] w (DPr w) := by
  have H := Lib.hid h; clear h
  go_enter Try.func22, Try.ntmps22
  go_wp2_with fail
  refine (newReader_any _ _ _ _ _ H.out).mono ?_
  rintro e w1 ⟨g, rfl, hg, hr, hb⟩
  have hgl := hr.lt
  go_wp2_with fail
  refine (anyHolders_any _ _ _ hr (by omega)).mono ?_
  rintro e w3 ⟨a3, c3, xs, rfl, hI3, hl3, hc3, hr3, hg3, hx3⟩
  have HI3 := Lib.hid hI3
  have HB3 := Lib.hid (below_grown hb hg3 (by omega))
  have hsm : Small xs := fun i hi => by
    have := hx3 (xs.getD i 0) (by rw [Sr.getD_get hi]; exact List.getElem_mem _)
    omega
  have hbd : -10 ≤ xs.sum ∧ xs.sum ≤ 1000000 := by
    have h1 := Pr.sum_le xs (fun x hx => (hx3 x hx).2)
    have h2 := Pr.sum_nn (xs.map fun x => x + 1) (fun x hx => by
      obtain ⟨y, hy, rfl⟩ := List.mem_map.1 hx
      have := hx3 y hy; omega)
    have h3 : ∀ ys : List Int, (ys.map fun x => x + 1).sum = ys.sum + ys.length := fun ys => by
      induction ys with
      | nil => rfl
      | cons y ys ih => simp only [List.map_cons, List.sum_cons, List.length_cons, ih]; omega
    rw [h3] at h2
    omega
  obtain ⟨s0, s1⟩ := hbd
  have ST := Lib.hid (stotal_any w3 _ xs (hI3.r1p (cap := c3) (Nat.le_refl _)) (by omega) hsm)
  clear hI3 hg3 hx3 hsm
  generalize xs.sum = T at ST s0 s1
  go_wp2_with fail
  refine ST.out.mono ?_
  rintro e w4 ⟨rfl, rfl⟩
  have hd2 := Int.natAbs_tdiv_le_natAbs T 2
  have hd3 := Int.natAbs_tdiv_le_natAbs T 3
  have OK : Hid (okInts (-2000000) 2000000000 #[.int .i64 (T.tdiv 2), .int .i64 (T.tdiv 3), .int .i64 T, .int .i64 (T + 1), .int .i64 0, .int .i64 1, .int .i64 (-1)] = true) := Lib.hid (by
    generalize T.tdiv 2 = u at hd2
    generalize T.tdiv 3 = v at hd3
    simp [okInts, okInt]; omega)
  clear hd2 hd3
  go_wp2_with fail
  refine (one_any (-2000000) 2000000000 _ g _ w3.heap.size _ _ (hr3.alloc _) (by omega) (heap_alloc_new w3 _) (by have := hr3.lt; omega) (by simp) (by simp) OK.out 7 7 (by rfl)).mono ?_
  rintro e w5 ⟨n, rfl, ⟨n0, n1⟩, hr5, hg5⟩
  have HI5 := Lib.hid ((HI3.out.alloc (.cells #[.int .i64 (T.tdiv 2), .int .i64 (T.tdiv 3), .int .i64 T, .int .i64 (T + 1), .int .i64 0, .int .i64 1, .int .i64 (-1)] 3)).kept hg5)
  have HB5 := Lib.hid (below_grown (HB3.out.alloc HB3.out.size (.cells #[.int .i64 (T.tdiv 2), .int .i64 (T.tdiv 3), .int .i64 T, .int .i64 (T + 1), .int .i64 0, .int .i64 1, .int .i64 (-1)] 3)) hg5 (by omega))
  clear hg5
  go_wp2_with fail
  refine bodyPost_ret (v := .tuple #[.int .i64 n, .slice a3 xs.length c3]) (by simp [results, Try.results22, go_sem]) rfl ⟨n, a3, c3, xs, rfl, HI5.out.r1p (Nat.le_refl _), hl3, ⟨n0, n1⟩, HB5.out⟩
end Go.Proofs.Ytgiejiiiokdbpaa
