/- Payments and edges drawn out of a law's input. -/
import Derived.Test.YthlnmbnaimobgaaFwL
import Derived.Test.YthlnmbnaimobgaaSpl
import Derived.Test.YthlnmbnaimobgaaI1
namespace Go.Proofs.Ythlnmbnaimobgaa
open Go.RowKit
theorem IntsG.r1 {w : World} {g B : Nat} {a : Option Addr} {xs : List Int} {cap : Nat} (h : IntsG w g B a xs) (hB : B ≤ w.heap.size) : R1o w (.slice a xs.length cap) xs := by
  refine ⟨⟨a, cap, rfl⟩, fun hl => ?_⟩
  obtain ⟨b, off, rfl, -, hb, hc⟩ := h hl
  exact ⟨b, off, cap, rfl, by omega, hc⟩
def DLd (w : World) (e : Ending) (w' : World) : Prop :=
  ∃ v ps a c es, e = .returned (.tuple #[v, .slice a es.length c]) ∧ R2o w' v ps ∧ ps.length ≤ 61 ∧ (∃ vb vc, v = .slice (some ⟨vb, 0, none⟩) ps.length vc) ∧ R1o w' (.slice a es.length c) es ∧ es.length ≤ 100 ∧ (es.length ≤ c ∧ c ≤ maxLen) ∧ Below w.heap.size w w'
set_option maxRecDepth 8000 in
set_option maxHeartbeats 4000000 in
theorem drawLd_any (w : World) (a : Option Addr) (len cap : Nat) (zs : List Int) (h : IsRow .u8 w a len cap zs) :
    Calls Try.prog 41 #[.slice a len cap] w (DLd w) := by
  have H := Lib.hid h; clear h
  go_enter Try.func41, Try.ntmps41
  go_wp2_with fail
  refine (newReader_any _ _ _ _ _ H.out).mono ?_
  rintro e w1 ⟨g, rfl, hg, hr, hb⟩
  go_wp2_with fail
  refine (anyFlows_any _ _ _ hr (by omega)).mono ?_
  rintro e w2 ⟨v, ps, rfl, hF, hl, hI, hn, hr2, hg2⟩
  obtain ⟨b, c, rfl⟩ := hF.slice hn
  have hgl : g < w1.heap.size := hr.lt
  have hgl2 : g < w2.heap.size := hr2.lt
  have hb2 := Lib.hid (below_grown hb hg2 (by omega))
  have HF := Lib.hid hF
  clear hF hI hn hg2
  go_wp2_with fail
  refine (one_any 0 11 _ g _ (w2.heap.size + 1) _ _ ((hr2.alloc _).alloc _) (by omega) (by simpa using heap_alloc_new (w2.alloc (.cells #[] 3)) _) (by omega) (by decide) (by decide) (by decide) 7 7 (by rfl)).mono ?_
  rintro e w3 ⟨n, rfl, ⟨n0, n1⟩, hr3, hg3⟩
  have HG3 := Lib.hid (grown_trans (grown_alloc (grown_alloc (grown_refl w2 g) (.cells #[] 3)) (.cells #[.int .i64 2, .int .i64 3, .int .i64 1, .int .i64 0, .int .i64 4, .int .i64 10, .int .i64 11] 3)) hg3)
  have HO3 := Lib.hid (((own_new w2).alloc (.cells #[.int .i64 2, .int .i64 3, .int .i64 1, .int .i64 0, .int .i64 4, .int .i64 10, .int .i64 11] 3)).kept hg3 hgl2)
  clear hg3
  go_wp2_with fail
  go_loopw [6, 7, 8] (fun o t y wr => ∃ (m : Nat) (xs : List Int) (T : Int), y = .int .i64 m ∧ xs.length + m ≤ 11 ∧ t = .int .i64 T ∧ (9000 ≤ T ∧ T ≤ 9000 + 20 * (xs.length : Int)) ∧ Hid (Own wr w2.heap.size o xs) ∧ Hid (Rdr wr g (2000 + xs.length)) ∧ Hid (w2.grownBy wr (some g))) (fun _ _ y _ => (intOf y).toNat)
  case atStart => exact ⟨n.toNat, [], 9000, by simp; omega, by simp; omega, rfl, by simp, HO3, Lib.hid (hr3.more (by simp)), HG3⟩
  case round =>
    obtain ⟨m, xs, T, rfl, hm, rfl, ⟨t0, t1⟩, HO, HR, HG⟩ := hrel
    obtain ⟨b6, c6, rfl, hb6, -⟩ := HO.out.form
    by_cases hlt : 0 < m
    · have hlt' : (0 : Int) < m := by omega
      go_wp2_with fail
      refine (pick_any _ _ _ _ HR.out (by omega) (by omega) (by omega)).mono ?_
      rintro e w4 ⟨x0, rfl, ⟨hx0, -⟩, hr4, hg4⟩
      obtain ⟨a0, a1⟩ := hx0 (by omega)
      have HO4 := Lib.hid (HO.out.kept hg4 hgl2)
      have HG4 := Lib.hid (grown_trans HG.out hg4)
      have HR4 := Lib.hid hr4
      have hw4 : w2.heap.size ≤ w4.heap.size := HG4.out.size
      clear hx0 hg4 hr4
      have KN := Lib.hid (Blk.new w4 #[.int .i64 (T + 1 + x0)] 3)
      have hKN := KN.out.one0
      go_wp2_with (at_builtin; refine wpList_push _ rfl _ _ rfl w2.heap.size _ xs rfl (HO4.out.alloc _) w4.heap.size _ (T + 1 + x0) rfl hKN (by omega) (by simp; omega) ?_; intro v5 w5 hown5 hg5)
      have HO5 := Lib.hid hown5
      have HG5 := Lib.hid hg5
      clear hown5 hg5 hKN
      go_roundw
      case rel =>
        refine ⟨m - 1, xs ++ [T + 1 + x0], T + 1 + x0, by go_num, by simp; omega, rfl, ⟨by omega, by simp; omega⟩, HO5, ?_, ?_⟩
        · have h1 := HR4.out.alloc (.cells #[.int .i64 (T + 1 + x0)] 3)
          exact Lib.hid ((rdr_far h1 HG5.out (fun j e => by have := HO4.out.far j e; omega)).more (by simp; omega))
        · exact Lib.hid (grown_far2 (grown_alloc HG4.out _) HG5.out (fun j e => by have := HO4.out.far j e; omega))
      case measure => simp [intOf] <;> omega
    · obtain rfl : m = 0 := by omega
      have hlt' : ¬ (0 : Int) < ((0 : Nat) : Int) := by omega
      go_wp2_with fail
      refine (spoil_any _ _ _ _ _ _ _ HR.out (by omega) HO.out (by omega) (by omega) (by omega)).mono ?_
      rintro e w6 ⟨a6, cap6, es, rfl, hI6, hl6, hc6, hr6, hg6⟩
      have hbw : Below w.heap.size w w6 := by
        have h2 := below_grown hb2.out HG.out (by omega)
        exact below_grown h2 hg6 (by omega)
      have hFl : R2o w6 (.slice (some ⟨b, 0, none⟩) ps.length c) ps := ((HF.out.grown HG.out hgl).grown hg6 hgl).r2.o
      go_wp2_with fail
      refine bodyPost_ret (v := .tuple #[.slice (some ⟨b, 0, none⟩) ps.length c, .slice a6 es.length cap6]) (by simp [results, Try.results41, go_sem]) rfl ⟨_, ps, a6, cap6, es, rfl, hFl, hl, ⟨_, _, rfl⟩, hI6.r1 (Nat.le_refl _), hl6, hc6, hbw⟩
end Go.Proofs.Ythlnmbnaimobgaa
