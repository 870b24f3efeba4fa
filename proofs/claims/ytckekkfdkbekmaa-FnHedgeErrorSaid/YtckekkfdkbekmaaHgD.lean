/- Tools and counts drawn out of a law's input. -/
import Derived.Test.YtckekkfdkbekmaaHg
import Derived.Test.YtckekkfdkbekmaaSplL
namespace Go.Proofs.Ytckekkfdkbekmaa
open Go.RowKit
theorem IntsG.r1h {w : World} {g B : Nat} {a : Option Addr} {xs : List Int} {cap : Nat} (h : IntsG w g B a xs) (hB : B ≤ w.heap.size) : R1o w (.slice a xs.length cap) xs := by
  refine ⟨⟨a, cap, rfl⟩, fun hl => ?_⟩
  obtain ⟨b, off, rfl, -, hb, hc⟩ := h hl
  exact ⟨b, off, cap, rfl, by omega, hc⟩
set_option maxRecDepth 8000 in
set_option maxHeartbeats 2000000 in
theorem anyTools_any (w : World) (g p : Nat) (h : Rdr w g p) (hp : p ≤ 100) :
    Calls Try.prog 46 #[.pointer (some ⟨g, 0, none⟩)] w (DrawnIntsL 5 1000 w g p) := by
  have hgl := h.lt
  go_enter Try.func46, Try.ntmps46
  go_wp2_with fail
  refine (one_any 0 4 _ g _ (w.heap.size + 1) _ _ ((h.alloc _).alloc _) (by omega) (by simpa using heap_alloc_new (w.alloc (.cells #[] 3)) _) (by omega) (by decide) (by decide) (by decide) 6 6 (by rfl)).mono ?_
  rintro e w3 ⟨n, rfl, ⟨n0, n1⟩, hr3, hg3⟩
  have HG3 := Lib.hid (grown_trans (grown_alloc (grown_alloc (grown_refl w g) (.cells #[] 3)) (.cells #[.int .i64 2, .int .i64 1, .int .i64 2, .int .i64 3, .int .i64 0, .int .i64 4] 3)) hg3)
  have HO3 := Lib.hid (((own_new w).alloc (.cells #[.int .i64 2, .int .i64 1, .int .i64 2, .int .i64 3, .int .i64 0, .int .i64 4] 3)).kept hg3 hgl)
  clear hg3
  go_wp2_with fail
  go_loopw [3, 4] (fun o y wr => ∃ (m : Nat) (xs : List Int), y = .int .i64 m ∧ xs.length + m ≤ 4 ∧ Hid (Own wr w.heap.size o xs) ∧ Hid (Rdr wr g (p + 100 + xs.length)) ∧ Hid (w.grownBy wr (some g))) (fun _ y _ => (intOf y).toNat)
  case atStart => exact ⟨n.toNat, [], by simp; omega, by simp; omega, HO3, Lib.hid (hr3.more (by simp)), HG3⟩
  case round =>
    obtain ⟨m, xs, rfl, hm, HO, HR, HG⟩ := hrel
    obtain ⟨b6, c6, rfl, hb6, -⟩ := HO.out.form
    by_cases hlt : 0 < m
    · have hlt' : (0 : Int) < m := by omega
      go_wp2_with fail
      refine (pick_any _ _ _ _ HR.out (by omega) (by omega) (by omega)).mono ?_
      rintro e w4 ⟨x0, rfl, ⟨hx0, -⟩, hr4, hg4⟩
      obtain ⟨a0, a1⟩ := hx0 (by omega)
      have HO4 := Lib.hid (HO.out.kept hg4 hgl)
      have HG4 := Lib.hid (grown_trans HG.out hg4)
      have HR4 := Lib.hid hr4
      have hw4 : w.heap.size ≤ w4.heap.size := HG4.out.size
      clear hx0 hg4 hr4
      have hKN := (Blk.new w4 #[.int .i64 (1 + x0)] 3).one0
      go_wp2_with (at_builtin; refine wpList_push _ rfl _ _ rfl w.heap.size _ xs rfl (HO4.out.alloc _) w4.heap.size _ (1 + x0) rfl hKN (by omega) (by simp; omega) ?_; intro v5 w5 hown5 hg5)
      have HO5 := Lib.hid hown5
      have HG5 := Lib.hid hg5
      clear hown5 hg5 hKN
      go_roundw
      case rel =>
        refine ⟨m - 1, xs ++ [1 + x0], by go_num, by simp; omega, HO5, ?_, ?_⟩
        · have h1 := HR4.out.alloc (.cells #[.int .i64 (1 + x0)] 3)
          exact Lib.hid ((rdr_far h1 HG5.out (fun j e => by have := HO4.out.far j e; omega)).more (by simp; omega))
        · exact Lib.hid (grown_far (grown_alloc HG4.out _) HG5.out (fun j e => by have := HO4.out.far j e; omega))
      case measure => simp [intOf] <;> omega
    · obtain rfl : m = 0 := by omega
      have hlt' : ¬ (0 : Int) < ((0 : Nat) : Int) := by omega
      go_wp2_with fail
      refine (spoilL_any _ _ _ _ _ _ _ HR.out (by omega) HO.out (by omega) (by omega) (by omega)).mono ?_
      rintro e w6 ⟨a6, cap6, es, rfl, hI6, hl6, hc6, hr6, hg6⟩
      have HG6 := Lib.hid (grown_trans HG.out hg6)
      go_wp2_with fail
      go_ret
      exact ⟨a6, cap6, es, rfl, hI6, by omega, hc6, hr6.more (by omega), HG6.out⟩
def DHg (w : World) (e : Ending) (w' : World) : Prop :=
  ∃ r a c ts a2 c2 cs, e = .returned (.tuple #[.int .i64 r, .slice a ts.length c, .slice a2 cs.length c2]) ∧ R1o w' (.slice a ts.length c) ts ∧ ts.length ≤ 5 ∧ R1o w' (.slice a2 cs.length c2) cs ∧ cs.length ≤ 6 ∧ (-300 ≤ r ∧ r ≤ 447) ∧ Below w.heap.size w w'
set_option maxRecDepth 8000 in
set_option maxHeartbeats 2000000 in
theorem drawHg_any (w : World) (a : Option Addr) (len cap : Nat) (zs : List Int) (h : IsRow .u8 w a len cap zs) :
    Calls Try.prog 27 #[.slice a len cap] w (DHg w) := by
  have H := Lib.hid h; clear h
  go_enter Try.func27, Try.ntmps27
  go_wp2_with fail
  refine (newReader_any _ _ _ _ _ H.out).mono ?_
  rintro e w1 ⟨g, rfl, hg, hr, hb⟩
  go_wp2_with fail
  refine (pick_any _ _ _ _ hr (by omega) (by omega) (by omega)).mono ?_
  rintro e w2 ⟨r0, rfl, ⟨hx, -⟩, hr2, hg2⟩
  obtain ⟨r00, r01⟩ := hx (by omega)
  have HB2 := Lib.hid (below_grown hb hg2 (by omega))
  clear hx hg2 hr hb
  go_wp2_with fail
  refine (anyTools_any _ _ _ hr2 (by omega)).mono ?_
  rintro e w3 ⟨a3, c3, ts, rfl, hI3, hl3, hc3, hr3, hg3⟩
  have HI3 := Lib.hid hI3
  have HB3 := Lib.hid (below_grown HB2.out hg3 (by omega))
  have hgl : g < w3.heap.size := hr3.lt
  clear hI3 hg3 hr2
  have HO3 := Lib.hid (own_new w3)
  have HR3 := Lib.hid (hr3.alloc (.cells #[] 3))
  have HG3 := Lib.hid (grown_alloc (grown_refl w3 g) (.cells #[] 3))
  clear hr3
  go_wp2_with fail
  go_loopw [8, 9] (fun o y wr => ∃ (k : Nat) (xs : List Int), y = .int .i64 k ∧ k ≤ ts.length ∧ Hid (xs.length = k) ∧ Hid (Own wr w3.heap.size o xs) ∧ Hid (Rdr wr g (2000 + k)) ∧ Hid (w3.grownBy wr (some g))) (fun _ y _ => ts.length - (intOf y).toNat)
  case atStart => exact ⟨0, [], rfl, Nat.zero_le _, Lib.hid rfl, HO3, Lib.hid (HR3.out.more (by omega)), HG3⟩
  case round =>
    obtain ⟨k, xs, rfl, hk, hxk, HO, HR, HG⟩ := hrel
    obtain ⟨b6, c6, rfl, hb6, -⟩ := HO.out.form
    by_cases hlt : k < ts.length
    · have hlt' : (k : Int) < ts.length := by omega
      go_wp2_with fail
      refine (pick_any _ _ _ _ HR.out (by omega) (by omega) (by omega)).mono ?_
      rintro e w4 ⟨x0, rfl, ⟨hx0, -⟩, hr4, hg4⟩
      obtain ⟨q0, q1⟩ := hx0 (by omega)
      have HO4 := Lib.hid (HO.out.kept hg4 hgl)
      have HG4 := Lib.hid (grown_trans HG.out hg4)
      have HR4 := Lib.hid hr4
      have hw4 : w3.heap.size ≤ w4.heap.size := HG4.out.size
      clear hx0 hg4 hr4
      have hKN := (Blk.new w4 #[.int .i64 (x0 - 6)] 3).one0
      go_wp2_with (at_builtin; refine wpList_push _ rfl _ _ rfl w3.heap.size _ xs rfl (HO4.out.alloc _) w4.heap.size _ (x0 - 6) rfl hKN (by have := hxk.out; omega) (by simp; omega) ?_; intro v5 w5 hown5 hg5)
      have HO5 := Lib.hid hown5
      have HG5 := Lib.hid hg5
      clear hown5 hg5 hKN
      go_roundw
      case rel =>
        refine ⟨k + 1, xs ++ [x0 - 6], by go_num, by omega, Lib.hid (by have := hxk.out; simp; omega), HO5, ?_, ?_⟩
        · have h1 := HR4.out.alloc (.cells #[.int .i64 (x0 - 6)] 3)
          exact Lib.hid ((rdr_far h1 HG5.out (fun j e => by have := HO4.out.far j e; omega)).more (by omega))
        · exact Lib.hid (grown_far (grown_alloc HG4.out _) HG5.out (fun j e => by have := HO4.out.far j e; omega))
      case measure => simp [intOf] <;> omega
    · obtain rfl : k = ts.length := by omega
      go_wp2_with fail
      refine (spoilL_any _ _ _ _ _ _ _ HR.out (by omega) HO.out (by have := hxk.out; omega) (by omega) (by omega)).mono ?_
      rintro e w6 ⟨a6, cap6, es, rfl, hI6, hl6, hc6, hr6, hg6⟩
      have hbw : Below w.heap.size w w6 := below_grown (below_grown HB3.out HG.out (by omega)) hg6 (by omega)
      have hT : R1o w6 (.slice a3 ts.length c3) ts := ((HI3.out.kept HG.out).kept hg6).r1h (Nat.le_refl _)
      go_wp2_with fail
      refine bodyPost_ret (v := .tuple #[.int .i64 (r0 * 3 - 300), .slice a3 ts.length c3, .slice a6 es.length cap6]) (by simp [results, Try.results27, go_sem]) rfl ⟨_, a3, c3, ts, a6, cap6, es, rfl, hT, hl3, hI6.r1h (Nat.le_refl _), by have := hxk.out; omega, by omega, hbw⟩
end Go.Proofs.Ytckekkfdkbekmaa
