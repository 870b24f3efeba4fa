/- Trades drawn out of a law's input. -/
import Derived.Test.YtmamnljgkkjkcaaTrPTrade
import Derived.Test.YtmamnljgkkjkcaaKg
import Derived.Test.YtmamnljgkkjkcaaTd
namespace Go.Proofs.Ytmamnljgkkjkcaa
open Go.RowKit
/-- Numbers that were drawn as fields. -/
abbrev TdIn (q : Tri) : Prop := (-1 ≤ q.1 ∧ q.1 ≤ 40000) ∧ (-9999 ≤ q.2.1 ∧ q.2.1 ≤ 10000) ∧ (0 ≤ q.2.2 ∧ q.2.2 ≤ 50001)
theorem TRow.new (T : TypeId) (w : World) : TRow T (w.alloc (.cells #[] T)) w.heap.size (.slice (some ⟨w.heap.size, 0, none⟩) 0 0) [] := World.ownsRow_lit w #[] 0 (Nat.le_refl _) (Nat.zero_le _) (by simp)
theorem TRow.grown {T : TypeId} {w w' : World} {B g : Nat} {v : Value} {ps : List Tri} (h : TRow T w B v ps) (hg : w.grownBy w' (some g)) (hB : g < B) : TRow T w' B v ps := h.kept hg fun j e => by injection e; omega
/-- Trades drawn. -/
def DTrades (w : World) (g p : Nat) (e : Ending) (w' : World) : Prop :=
  ∃ b c ps, e = .returned (.slice (some ⟨b, 0, none⟩) ps.length c) ∧ TRow 73 w' w.heap.size (.slice (some ⟨b, 0, none⟩) ps.length c) ps ∧ ps.length ≤ 17 ∧ (∀ q ∈ ps, TdIn q) ∧ Rdr w' g (p + 1000) ∧ w.grownBy w' (some g)
theorem grown_far {a b c : World} {g : Nat} {o : Option Nat} (h : a.grownBy b (some g)) (k : b.grownBy c o) (hr : ∀ j, o = some j → a.heap.size ≤ j) : a.grownBy c (some g) :=
  ⟨k.os.trans h.os, k.tape.trans h.tape, k.output.trans h.output, Nat.le_trans h.size k.size, fun i hi hne => (k.block i (Nat.lt_of_lt_of_le hi h.size) (fun e => by have := hr i e.symm; omega)).trans (h.block i hi hne)⟩
set_option maxRecDepth 8000 in
set_option maxHeartbeats 8000000 in
theorem anyTrades_any (w : World) (g p : Nat) (h : Rdr w g p) (hp : p ≤ 100) :
    Calls Try.prog 51 #[.pointer (some ⟨g, 0, none⟩)] w (DTrades w g p) := by
  have hgl := h.lt
  go_enter Try.func51, Try.ntmps51
  go_wp2_with fail
  refine (pick_any _ _ _ _ (h.alloc _) (by omega) (by omega) (by omega)).mono ?_
  rintro e w0 ⟨y, rfl, ⟨hy, -⟩, hr0, hg0⟩
  obtain ⟨y0, y1⟩ := hy (by omega)
  have HG0 := Lib.hid (grown_trans (grown_alloc (grown_refl w g) (.cells #[] 73)) hg0)
  have HF0 := Lib.hid ((TRow.new 73 w).grown hg0 hgl)
  have hgl0 : g < w0.heap.size := hr0.lt
  clear hy hg0
  go_wp2_with fail
  refine (one_any 0 17 _ g _ w0.heap.size _ _ (hr0.alloc _) (by omega) (heap_alloc_new w0 _) (by omega) (by decide) (by decide) (by decide) 8 8 (by rfl)).mono ?_
  rintro e w1 ⟨n, rfl, ⟨n0, n1⟩, hr1, hg1⟩
  have HG1 := Lib.hid (grown_trans (grown_alloc HG0.out (.cells #[.int .i64 4, .int .i64 6, .int .i64 3, .int .i64 8, .int .i64 1, .int .i64 0, .int .i64 16, .int .i64 17] 3)) hg1)
  have HF1 := Lib.hid ((HF0.out.alloc (.cells #[.int .i64 4, .int .i64 6, .int .i64 3, .int .i64 8, .int .i64 1, .int .i64 0, .int .i64 16, .int .i64 17] 3)).grown hg1 hgl)
  have HR1 := Lib.hid hr1
  clear hg1 hr0 hr1
  go_wp2_with fail
  go_loopw [3, 4, 5] (fun o dy y wx => ∃ (m : Nat) (ps : List Tri) (ob oc : Nat) (dd : Int), y = .int .i64 m ∧ dy = .int .i64 dd ∧ (9000 ≤ dd ∧ dd ≤ 9050 + 5 * ps.length) ∧ ps.length + m ≤ 17 ∧ o = .slice (some ⟨ob, 0, none⟩) ps.length oc ∧ Hid (TRow 73 wx w.heap.size o ps) ∧ Hid (Rdr wx g (p + 100 + 3 * ps.length)) ∧ Hid (∀ q ∈ ps, TdIn q) ∧ Hid (w.grownBy wx (some g))) (fun _ _ y _ => (intOf y).toNat)
  case atStart => exact ⟨n.toNat, [], w.heap.size, 0, 9000 + y, by simp; omega, rfl, by simp; omega, by simp; omega, rfl, HF1, Lib.hid (HR1.out.more (by simp <;> omega)), Lib.hid (fun q hq => by cases hq), HG1⟩
  case round =>
    obtain ⟨m, ps, ob, oc, dd, rfl, rfl, ⟨dd0, dd1⟩, hm, rfl, HF, HR, HI, HG⟩ := hrel
    by_cases hlt : 0 < m
    · have hlt' : (0 : Int) < m := by omega
      have hgr := HR.out.lt
      go_wp2_with fail
      refine (one_any (-15) 9999 _ g _ wr.heap.size _ _ (HR.out.alloc _) (by omega) (heap_alloc_new wr _) (by omega) (by decide) (by decide) (by decide) 9 9 (by rfl)).mono ?_
      rintro e w2 ⟨x0, rfl, ⟨a0, a1⟩, hr2, hg2⟩
      have HF2 := Lib.hid ((HF.out.alloc (.cells #[.int .i64 10, .int .i64 (-10), .int .i64 5, .int .i64 (-5), .int .i64 20, .int .i64 (-15), .int .i64 7, .int .i64 (-3), .int .i64 9999] 3)).grown hg2 hgl)
      have HG2 := Lib.hid (grown_trans (grown_alloc HG.out (.cells #[.int .i64 10, .int .i64 (-10), .int .i64 5, .int .i64 (-5), .int .i64 20, .int .i64 (-15), .int .i64 7, .int .i64 (-3), .int .i64 9999] 3)) hg2)
      clear hg2
      go_wp2_with fail
      refine (pick_any _ _ _ _ hr2 (by omega) (by omega) (by omega)).mono ?_
      rintro e w3 ⟨x1, rfl, ⟨hx1, -⟩, hr3, hg3⟩
      obtain ⟨b0, b1⟩ := hx1 (by omega)
      have HF3 := Lib.hid (HF2.out.grown hg3 hgl)
      have HG3 := Lib.hid (grown_trans HG2.out hg3)
      have hgl3 : g < w3.heap.size := hr3.lt
      have hws : w.heap.size ≤ w3.heap.size := HG3.out.size
      have HR3 := Lib.hid hr3
      clear hx1 hg3 hr2 hr3
      go_wp2_with (at_builtin; refine wpList_pushTrade _ rfl _ _ rfl w.heap.size (.slice (some ⟨ob, 0, none⟩) ps.length oc) ps rfl (HF3.out.alloc _) w3.heap.size _ (dd, x0, 9900 + x1) rfl (newTrade_cells w3 (dd, x0, 9900 + x1)) (by omega) (by simp; omega) ?_; intro v5 w5 hown5 hne5 hg5 hv5)
      have HO5 := Lib.hid hown5
      have HG5 := Lib.hid hg5
      obtain ⟨ob5, oc5, e5, hob5, -, -, -, -⟩ := HO5.out.form (by simp)
      have hl5 : (ps ++ [(dd, x0, 9900 + x1)]).length = ps.length + 1 := by simp
      rw [hl5] at e5
      subst e5
      clear hl5
      have hobw : w.heap.size ≤ ob := by
        rcases HF3.out.2 with ⟨h, _⟩ | ⟨g', _, _, h, hb, _⟩
        · cases h
        · injection h with h; injection h with h; injection h with h; omega
      have h1 := HR3.out.alloc (.cells #[.int .i64 dd, .int .i64 x0, .int .i64 (9900 + x1)] 73)
      have h2 : Below (g + 1) (w3.alloc (.cells #[.int .i64 dd, .int .i64 x0, .int .i64 (9900 + x1)] 73)) w5 := ⟨HG5.out.os, HG5.out.tape, HG5.out.output, HG5.out.size, fun i hi => HG5.out.block i (by simp; omega) (by simp [Value.ownBlock]; omega)⟩
      have hr5 := h1.below h2 (by omega)
      have HGx := Lib.hid (grown_far (grown_alloc HG3.out _) HG5.out (by simpa [Value.ownBlock] using hobw))
      clear hown5 hg5 hne5 hv5 h1 h2
      go_wp2_with fail
      refine (pick_any _ _ _ _ hr5 (by omega) (by omega) (by omega)).mono ?_
      rintro e w6 ⟨x2, rfl, ⟨hx2, -⟩, hr6, hg6⟩
      obtain ⟨z0, z1⟩ := hx2 (by omega)
      have HO6 := Lib.hid (HO5.out.grown hg6 hgl)
      have HG6 := Lib.hid (grown_trans HGx.out hg6)
      have HR6 := Lib.hid hr6
      clear hx2 hg6 hr5 hr6
      go_wp2_with fail
      go_roundw
      case rel =>
        refine ⟨m - 1, ps ++ [(dd, x0, 9900 + x1)], ob5, oc5, dd + x2, by go_num, rfl, by simp; omega, by simp; omega, by simp, HO6, ?_, ?_, HG6⟩
        · exact Lib.hid (HR6.out.more (by simp; omega))
        · refine Lib.hid fun q hq => ?_
          rcases List.mem_append.1 hq with hq | hq
          · exact HI.out q hq
          · simp only [List.mem_cons, List.not_mem_nil, or_false] at hq
            subst hq
            show (-1 ≤ dd ∧ dd ≤ 40000) ∧ (-9999 ≤ x0 ∧ x0 ≤ 10000) ∧ (0 ≤ 9900 + x1 ∧ 9900 + x1 ≤ 50001)
            omega
      case measure => simp [intOf]; omega
    · obtain rfl : m = 0 := by omega
      have hlt' : ¬ (0 : Int) < ((0 : Nat) : Int) := by omega
      by_cases hz : ps.length = 0
      · obtain rfl : ps = [] := List.eq_nil_of_length_eq_zero hz
        clear hz
        go_wp2_with fail
        go_ret
        exact ⟨_, _, [], rfl, HF.out, by simp, HI.out, HR.out.more (by simp), HG.out⟩
      · have hz' : (0 : Int) < (ps.length : Int) := by omega
        go_wp2_with fail
        refine (pick_any _ _ _ _ HR.out (by omega) (by omega) (by omega)).mono ?_
        rintro e w2 ⟨x0, rfl, ⟨hx0, -⟩, hr, hg⟩
        obtain ⟨a0, a1⟩ := hx0 (by omega)
        have HF2 := Lib.hid (HF.out.grown hg hgl)
        have HG2 := Lib.hid (grown_trans HG.out hg)
        have HR2 := Lib.hid hr
        clear hx0 hg hr
        by_cases c0 : x0 = 0
        · subst c0
          go_wp2_with fail
          refine (pick_any _ _ _ _ HR2.out (by omega) (by omega) (by omega)).mono ?_
          rintro e w3 ⟨x1, rfl, ⟨hx1, -⟩, hr, hg⟩
          obtain ⟨b0, b1⟩ := hx1 (by omega)
          obtain ⟨k, rfl⟩ : ∃ k : Nat, x1 = k := ⟨x1.toNat, by omega⟩
          have hk : k < ps.length := by omega
          have HF3 := Lib.hid (HF2.out.grown hg hgl)
          have HG3 := Lib.hid (grown_trans HG2.out hg)
          have HR3 := Lib.hid hr
          clear hx1 hg hr
          go_wp2_with fail
          refine (one_any (-1) 36525 _ g _ w3.heap.size _ _ (HR3.out.alloc _) (by omega) (heap_alloc_new w3 _) (by have := HR3.out.lt; omega) (by decide) (by decide) (by decide) 4 4 (by rfl)).mono ?_
          rintro e w4 ⟨y0, rfl, ⟨y0a, y0b⟩, hr, hg⟩
          have HF4 := Lib.hid ((HF3.out.alloc (.cells #[.int .i64 (-1), .int .i64 0, .int .i64 36525, .int .i64 9100] 3)).grown hg hgl)
          have HG4 := Lib.hid (grown_trans (grown_alloc HG3.out (.cells #[.int .i64 (-1), .int .i64 0, .int .i64 36525, .int .i64 9100] 3)) hg)
          have HR4 := Lib.hid hr
          clear hr hg
          go_wp2_with fail
          refine (one_any (-9999) 10000 _ g _ w4.heap.size _ _ (HR4.out.alloc _) (by omega) (heap_alloc_new w4 _) (by have := HR4.out.lt; omega) (by decide) (by decide) (by decide) 4 4 (by rfl)).mono ?_
          rintro e w5 ⟨y1, rfl, ⟨y1a, y1b⟩, hr, hg⟩
          have HF5 := Lib.hid ((HF4.out.alloc (.cells #[.int .i64 0, .int .i64 10000, .int .i64 (-9999), .int .i64 1] 3)).grown hg hgl)
          have HG5 := Lib.hid (grown_trans (grown_alloc HG4.out (.cells #[.int .i64 0, .int .i64 10000, .int .i64 (-9999), .int .i64 1] 3)) hg)
          have HR5 := Lib.hid hr
          clear hr hg
          go_wp2_with fail
          refine (one_any 0 50001 _ g _ w5.heap.size _ _ (HR5.out.alloc _) (by omega) (heap_alloc_new w5 _) (by have := HR5.out.lt; omega) (by decide) (by decide) (by decide) 4 4 (by rfl)).mono ?_
          rintro e w6 ⟨y2, rfl, ⟨y2a, y2b⟩, hr, hg⟩
          have HF6 := Lib.hid ((HF5.out.alloc (.cells #[.int .i64 0, .int .i64 1, .int .i64 50000, .int .i64 50001] 3)).grown hg hgl)
          have HG6 := Lib.hid (grown_trans (grown_alloc HG5.out (.cells #[.int .i64 0, .int .i64 1, .int .i64 50000, .int .i64 50001] 3)) hg)
          have HR6 := Lib.hid hr
          clear hr hg
          obtain ⟨b6, cap6, e6, hob6, -, -, hc6, hf6⟩ := HF6.out.form (by omega)
          simp only [Value.slice.injEq, true_and, Option.some.injEq, Addr.mk.injEq, and_true] at e6
          obtain ⟨rfl, -⟩ := e6
          obtain ⟨d0, d1, d2⟩ := hc6 k hk
          have f0 := hf6 (k * 3)
          have f1 := hf6 (k * 3 + 1)
          have f2 := hf6 (k * 3 + 2)
          clear hc6 hf6
          have HS := Lib.hid (HF6.out.store k hk y0 y1 y2)
          generalize ps.getD k t0 = yy at d0 d1 d2
          go_wp2_with fail
          go_ret
          refine ⟨ob, oc, ps.set k (y0, y1, y2), by rw [List.length_set]; exact rfl, HS.out.1, by rw [List.length_set]; omega, fun q hq => ?_, ?_, ?_⟩
          · rcases List.mem_or_eq_of_mem_set hq with hq | hq
            · exact HI.out q hq
            · subst hq
              show (-1 ≤ y0 ∧ y0 ≤ 40000) ∧ (-9999 ≤ y1 ∧ y1 ≤ 10000) ∧ (0 ≤ y2 ∧ y2 ≤ 50001)
              omega
          · exact (((HR6.out.far (by omega) _).far (by omega) _).far (by omega) _).more (by omega)
          · exact grown_far HG6.out HS.out.2 (fun j e => by injection e; omega)
        · have c0' : (x0 == 0) = false := by simp [c0]
          go_wp2_with fail
          go_ret
          exact ⟨_, _, ps, rfl, HF2.out, by omega, HI.out, HR2.out.more (by omega), HG2.out⟩
end Go.Proofs.Ytmamnljgkkjkcaa
