/- Postings drawn out of a law's input. -/
import Derived.Test.YtmamnljgkkjkcaaTrPPost
import Derived.Test.YtmamnljgkkjkcaaKg
namespace Go.Proofs.Ytmamnljgkkjkcaa
open Go.RowKit
/-- A number that was drawn as a field. -/
abbrev PsIn (q : Tri) : Prop := (-1 ≤ q.1 ∧ q.1 ≤ 6) ∧ (0 ≤ q.2.1 ∧ q.2.1 ≤ 6) ∧ (0 ≤ q.2.2 ∧ q.2.2 ≤ 1000000001)
theorem Rdr.g {w w' : World} {g p B : Nat} (h : Rdr w g p) (hb : Below B w w') (hg : g < B) : Rdr w' g p := h.below hb hg
theorem TRow.new (T : TypeId) (w : World) : TRow T (w.alloc (.cells #[] T)) w.heap.size (.slice (some ⟨w.heap.size, 0, none⟩) 0 0) [] := World.ownsRow_lit w #[] 0 (Nat.le_refl _) (Nat.zero_le _) (by simp)
theorem TRow.grown {T : TypeId} {w w' : World} {B g : Nat} {v : Value} {ps : List Tri} (h : TRow T w B v ps) (hg : w.grownBy w' (some g)) (hB : g < B) : TRow T w' B v ps := h.kept hg fun j e => by injection e; omega
/-- Postings drawn. -/
def DPosts (w : World) (g p : Nat) (e : Ending) (w' : World) : Prop :=
  ∃ v ps, e = .returned v ∧ TRow 40 w' w.heap.size v ps ∧ ps.length ≤ 41 ∧ (∀ q ∈ ps, PsIn q) ∧ v ≠ .slice none 0 0 ∧ Rdr w' g (p + 1000) ∧ w.grownBy w' (some g)
theorem grown_far {a b c : World} {g : Nat} {o : Option Nat} (h : a.grownBy b (some g)) (k : b.grownBy c o) (hr : ∀ j, o = some j → a.heap.size ≤ j) : a.grownBy c (some g) :=
  ⟨k.os.trans h.os, k.tape.trans h.tape, k.output.trans h.output, Nat.le_trans h.size k.size, fun i hi hne => (k.block i (Nat.lt_of_lt_of_le hi h.size) (fun e => by have := hr i e.symm; omega)).trans (h.block i hi hne)⟩
set_option maxRecDepth 8000 in
set_option maxHeartbeats 4000000 in
theorem anyPosts_any (w : World) (g p : Nat) (h : Rdr w g p) (hp : p ≤ 100) :
    Calls Try.prog 61 #[.pointer (some ⟨g, 0, none⟩)] w (DPosts w g p) := by
  have hgl := h.lt
  go_enter Try.func61, Try.ntmps61
  go_wp2_with fail
  refine (one_any 0 41 _ g _ (w.heap.size + 1) _ _ ((h.alloc _).alloc _) (by omega) (by simpa using heap_alloc_new (w.alloc (.cells #[] 40)) _) (by omega) (by decide) (by decide) (by decide) 8 8 (by rfl)).mono ?_
  rintro e w1 ⟨n, rfl, ⟨n0, n1⟩, hr1, hg1⟩
  go_wp2_with fail
  have hg0 := grown_trans (grown_alloc (grown_alloc (grown_refl w g) (.cells #[] 40)) (.cells #[.int .i64 4, .int .i64 6, .int .i64 3, .int .i64 10, .int .i64 1, .int .i64 0, .int .i64 40, .int .i64 41] 3)) hg1
  have HF0 := Lib.hid (((TRow.new 40 w).alloc (.cells #[.int .i64 4, .int .i64 6, .int .i64 3, .int .i64 10, .int .i64 1, .int .i64 0, .int .i64 40, .int .i64 41] 3)).grown hg1 hgl)
  clear hg1
  go_loopw [3, 4] (fun o y wr => ∃ (m : Nat) (ps : List Tri) (ob oc : Nat), y = .int .i64 m ∧ ps.length + m ≤ 41 ∧ o = .slice (some ⟨ob, 0, none⟩) ps.length oc ∧ Hid (TRow 40 wr w.heap.size o ps) ∧ Hid (Rdr wr g (p + 100 + 3 * ps.length)) ∧ Hid (∀ q ∈ ps, PsIn q) ∧ Hid (w.grownBy wr (some g))) (fun _ y _ => (intOf y).toNat)
  case atStart => exact ⟨n.toNat, [], w.heap.size, 0, by simp; omega, by simp; omega, rfl, HF0, Lib.hid (hr1.more (by omega)), Lib.hid (fun q hq => by cases hq), Lib.hid hg0⟩
  case round =>
    obtain ⟨m, ps, ob, oc, rfl, hm, rfl, HF, HR, HI, HG⟩ := hrel
    by_cases hlt : 0 < m
    · have hlt' : (0 : Int) < m := by omega
      have hgr := HR.out.lt
      go_wp2_with fail
      refine (pick_any _ _ _ _ HR.out (by omega) (by omega) (by omega)).mono ?_
      rintro e w2 ⟨x0, rfl, ⟨hx0, -⟩, hr2, hg2⟩
      obtain ⟨a0, a1⟩ := hx0 (by omega)
      have HF2 := Lib.hid (HF.out.grown hg2 hgl)
      have HG2 := Lib.hid (grown_trans HG.out hg2)
      clear hx0 hg2
      go_wp2_with fail
      refine (pick_any _ _ _ _ hr2 (by omega) (by omega) (by omega)).mono ?_
      rintro e w3 ⟨x1, rfl, ⟨hx1, -⟩, hr3, hg3⟩
      obtain ⟨b0, b1⟩ := hx1 (by omega)
      have HF3 := Lib.hid (HF2.out.grown hg3 hgl)
      have HG3 := Lib.hid (grown_trans HG2.out hg3)
      clear hx1 hg3 hr2
      have hb2 : 0 ≤ (x0 + 1 + x1) % 6 ∧ (x0 + 1 + x1) % 6 ≤ 5 := by omega
      have hgl3 : g < w3.heap.size := hr3.lt
      go_wp2_with fail
      refine (one_any 0 1000000000 _ g _ w3.heap.size _ _ (hr3.alloc _) (by omega) (heap_alloc_new w3 _) (by omega) (by decide) (by decide) (by decide) 6 6 (by rfl)).mono ?_
      rintro e w4 ⟨x3, rfl, ⟨d0, d1⟩, hr4, hg4⟩
      have HF4 := Lib.hid ((HF3.out.alloc (.cells #[.int .i64 1, .int .i64 50, .int .i64 100, .int .i64 50, .int .i64 999, .int .i64 1000000000] 3)).grown hg4 hgl)
      have HG4 := Lib.hid (grown_trans (grown_alloc HG3.out (.cells #[.int .i64 1, .int .i64 50, .int .i64 100, .int .i64 50, .int .i64 999, .int .i64 1000000000] 3)) hg4)
      have hgl4 : g < w4.heap.size := hr4.lt
      have hws : w.heap.size ≤ w4.heap.size := HG4.out.size
      have HR4 := Lib.hid hr4
      clear hg4 hr3 hr4
      go_wp2_with (at_builtin; refine wpList_pushPost _ rfl _ _ rfl w.heap.size (.slice (some ⟨ob, 0, none⟩) ps.length oc) ps rfl (HF4.out.alloc _) w4.heap.size _ (x0, (x0 + 1 + x1) % 6, x3) rfl (newPost_cells w4 (x0, (x0 + 1 + x1) % 6, x3)) (by omega) (by simp; omega) ?_; intro v5 w5 hown5 hne5 hg5 hv5)
      have HV5 := Lib.hid hv5
      have HO5 := Lib.hid hown5
      have HG5 := Lib.hid hg5
      have HN5 := Lib.hid hne5
      clear hv5 hown5 hg5 hne5
      go_roundw
      case rel =>
        obtain ⟨ob5, oc5, e5, hob5, -, -, -, -⟩ := HO5.out.form (by simp)
        have hobw : w.heap.size ≤ ob := by
          rcases HF4.out.2 with ⟨h, _⟩ | ⟨g', _, _, h, hb, _⟩
          · cases h
          · injection h with h; injection h with h; injection h with h; omega
        refine ⟨m - 1, ps ++ [(x0, (x0 + 1 + x1) % 6, x3)], ob5, oc5, by go_num, by simp; omega, e5, HO5, ?_, ?_, ?_⟩
        · have h1 := HR4.out.alloc (.cells #[.int .i64 x0, .int .i64 ((x0 + 1 + x1) % 6), .int .i64 x3] 40)
          have hgo : g ≠ ob := by omega
          refine Lib.hid ?_
          have h2 : Below (g + 1) (w4.alloc (.cells #[.int .i64 x0, .int .i64 ((x0 + 1 + x1) % 6), .int .i64 x3] 40)) w5 := ⟨HG5.out.os, HG5.out.tape, HG5.out.output, HG5.out.size, fun i hi => HG5.out.block i (by simp; omega) (by simp [Value.ownBlock]; omega)⟩
          exact (h1.below h2 (by omega)).more (by simp; omega)
        · refine Lib.hid fun q hq => ?_
          rcases List.mem_append.1 hq with hq | hq
          · exact HI.out q hq
          · simp only [List.mem_cons, List.not_mem_nil, or_false] at hq
            subst hq
            show (-1 ≤ x0 ∧ x0 ≤ 6) ∧ (0 ≤ (x0 + 1 + x1) % 6 ∧ (x0 + 1 + x1) % 6 ≤ 6) ∧ (0 ≤ x3 ∧ x3 ≤ 1000000001)
            omega
        · exact Lib.hid (grown_far (grown_alloc HG4.out _) HG5.out (by simpa [Value.ownBlock] using hobw))
      case measure => simp [intOf]; omega
    · obtain rfl : m = 0 := by omega
      have hlt' : ¬ (0 : Int) < ((0 : Nat) : Int) := by omega
      by_cases hz : ps.length = 0
      · obtain rfl : ps = [] := List.eq_nil_of_length_eq_zero hz
        clear hz
        go_wp2_with fail
        go_ret
        exact ⟨_, [], rfl, HF.out, by simp, HI.out, by simp, HR.out.more (by simp), HG.out⟩
      · have hz' : (0 : Int) < (ps.length : Int) := by omega
        go_wp2_with fail
        refine (pick_any _ _ _ _ HR.out (by omega) (by omega) (by omega)).mono ?_
        rintro e w2 ⟨x0, rfl, ⟨hx0, -⟩, hr, hg⟩
        obtain ⟨a0, a1⟩ := hx0 (by omega)
        have HF2 := Lib.hid (HF.out.grown hg hgl)
        have HG2 := Lib.hid (grown_trans HG.out hg)
        have HR2 := Lib.hid hr
        clear hx0 hg hr
        by_cases c0 : x0 = 0
        · subst c0
          go_wp2_with fail
          refine (pick_any _ _ _ _ HR2.out (by omega) (by omega) (by omega)).mono ?_
          rintro e w3 ⟨x1, rfl, ⟨hx1, -⟩, hr, hg⟩
          obtain ⟨b0, b1⟩ := hx1 (by omega)
          obtain ⟨k, rfl⟩ : ∃ k : Nat, x1 = k := ⟨x1.toNat, by omega⟩
          have hk : k < ps.length := by omega
          have HF3 := Lib.hid (HF2.out.grown hg hgl)
          have HG3 := Lib.hid (grown_trans HG2.out hg)
          have HR3 := Lib.hid hr
          clear hx1 hg hr
          go_wp2_with fail
          refine (one_any (-1) 6 _ g _ w3.heap.size _ _ (HR3.out.alloc _) (by omega) (heap_alloc_new w3 _) (by have := HR3.out.lt; omega) (by decide) (by decide) (by decide) 3 3 (by rfl)).mono ?_
          rintro e w4 ⟨y0, rfl, ⟨y0a, y0b⟩, hr, hg⟩
          have HF4 := Lib.hid ((HF3.out.alloc (.cells #[.int .i64 (-1), .int .i64 0, .int .i64 6] 3)).grown hg hgl)
          have HG4 := Lib.hid (grown_trans (grown_alloc HG3.out (.cells #[.int .i64 (-1), .int .i64 0, .int .i64 6] 3)) hg)
          have HR4 := Lib.hid hr
          clear hr hg
          go_wp2_with fail
          refine (one_any (0) 6 _ g _ w4.heap.size _ _ (HR4.out.alloc _) (by omega) (heap_alloc_new w4 _) (by have := HR4.out.lt; omega) (by decide) (by decide) (by decide) 3 3 (by rfl)).mono ?_
          rintro e w5 ⟨y1, rfl, ⟨y1a, y1b⟩, hr, hg⟩
          have HF5 := Lib.hid ((HF4.out.alloc (.cells #[.int .i64 0, .int .i64 5, .int .i64 6] 3)).grown hg hgl)
          have HG5 := Lib.hid (grown_trans (grown_alloc HG4.out (.cells #[.int .i64 0, .int .i64 5, .int .i64 6] 3)) hg)
          have HR5 := Lib.hid hr
          clear hr hg
          go_wp2_with fail
          refine (one_any (0) 1000000001 _ g _ w5.heap.size _ _ (HR5.out.alloc _) (by omega) (heap_alloc_new w5 _) (by have := HR5.out.lt; omega) (by decide) (by decide) (by decide) 3 3 (by rfl)).mono ?_
          rintro e w6 ⟨y2, rfl, ⟨y2a, y2b⟩, hr, hg⟩
          have HF6 := Lib.hid ((HF5.out.alloc (.cells #[.int .i64 0, .int .i64 1, .int .i64 1000000001] 3)).grown hg hgl)
          have HG6 := Lib.hid (grown_trans (grown_alloc HG5.out (.cells #[.int .i64 0, .int .i64 1, .int .i64 1000000001] 3)) hg)
          have HR6 := Lib.hid hr
          clear hr hg
          obtain ⟨b6, cap6, e6, hob6, -, -, hc6, hf6⟩ := HF6.out.form (by omega)
          simp only [Value.slice.injEq, true_and, Option.some.injEq, Addr.mk.injEq, and_true] at e6
          obtain ⟨rfl, -⟩ := e6
          obtain ⟨d0, d1, d2⟩ := hc6 k hk
          have f0 := hf6 (k * 3)
          have f1 := hf6 (k * 3 + 1)
          have f2 := hf6 (k * 3 + 2)
          clear hc6 hf6
          have HS := Lib.hid (HF6.out.store k hk y0 y1 y2)
          generalize ps.getD k t0 = yy at d0 d1 d2
          go_wp2_with fail
          go_ret
          refine ⟨_, ps.set k (y0, y1, y2), rfl, by have h := HS.out.1; rw [List.length_set] at h; exact h, by rw [List.length_set]; omega, fun q hq => ?_, by simp, ?_, ?_⟩
          · rcases List.mem_or_eq_of_mem_set hq with hq | hq
            · exact HI.out q hq
            · subst hq
              show (-1 ≤ y0 ∧ y0 ≤ 6) ∧ (0 ≤ y1 ∧ y1 ≤ 6) ∧ (0 ≤ y2 ∧ y2 ≤ 1000000001)
              omega
          · exact (((HR6.out.far (by omega) _).far (by omega) _).far (by omega) _).more (by omega)
          · exact grown_far HG6.out HS.out.2 (fun j e => by injection e; omega)
        · have c0' : (x0 == 0) = false := by simp [c0]
          go_wp2_with fail
          go_ret
          exact ⟨_, ps, rfl, HF2.out, by omega, HI.out, by simp, HR2.out.more (by omega), HG2.out⟩
end Go.Proofs.Ytmamnljgkkjkcaa
