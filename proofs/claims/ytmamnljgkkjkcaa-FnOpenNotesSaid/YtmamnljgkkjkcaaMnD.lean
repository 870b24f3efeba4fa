/- Notes drawn out of a law's input. -/
import Derived.Test.YtmamnljgkkjkcaaTrPNote
import Derived.Test.YtmamnljgkkjkcaaTdD
namespace Go.Proofs.Ytmamnljgkkjkcaa
open Go.RowKit
/-- Numbers that were drawn as fields. -/
abbrev MnIn (q : Tri) : Prop := (-1 ≤ q.1 ∧ q.1 ≤ 40000) ∧ (0 ≤ q.2.1 ∧ q.2.1 ≤ 10000) ∧ (0 ≤ q.2.2 ∧ q.2.2 ≤ 50001)
/-- Notes drawn. -/
def DNotes (w : World) (g p : Nat) (e : Ending) (w' : World) : Prop :=
  ∃ b c ps, e = .returned (.slice (some ⟨b, 0, none⟩) ps.length c) ∧ TRow 48 w' w.heap.size (.slice (some ⟨b, 0, none⟩) ps.length c) ps ∧ ps.length ≤ 11 ∧ (∀ q ∈ ps, MnIn q) ∧ Rdr w' g (p + 1000) ∧ w.grownBy w' (some g)
set_option maxRecDepth 8000 in
set_option maxHeartbeats 8000000 in
theorem anyNotes_any (w : World) (g p : Nat) (h : Rdr w g p) (hp : p ≤ 2000) :
    Calls Try.prog 65 #[.pointer (some ⟨g, 0, none⟩)] w (DNotes w g p) := by
  have hgl := h.lt
  go_enter Try.func65, Try.ntmps65
  go_wp2_with fail
  refine (one_any 0 11 _ g _ (w.heap.size + 1) _ _ ((h.alloc _).alloc _) (by omega) (by simpa using heap_alloc_new (w.alloc (.cells #[] 48)) _) (by omega) (by decide) (by decide) (by decide) 8 8 (by rfl)).mono ?_
  rintro e w1 ⟨n, rfl, ⟨n0, n1⟩, hr1, hg1⟩
  go_wp2_with fail
  have hg0 := grown_trans (grown_alloc (grown_alloc (grown_refl w g) (.cells #[] 48)) (.cells #[.int .i64 3, .int .i64 4, .int .i64 2, .int .i64 6, .int .i64 1, .int .i64 0, .int .i64 10, .int .i64 11] 3)) hg1
  have HF0 := Lib.hid (((TRow.new 48 w).alloc (.cells #[.int .i64 3, .int .i64 4, .int .i64 2, .int .i64 6, .int .i64 1, .int .i64 0, .int .i64 10, .int .i64 11] 3)).grown hg1 hgl)
  clear hg1
  go_loopw [3, 4] (fun o y wr => ∃ (m : Nat) (ps : List Tri) (ob oc : Nat), y = .int .i64 m ∧ ps.length + m ≤ 11 ∧ o = .slice (some ⟨ob, 0, none⟩) ps.length oc ∧ Hid (TRow 48 wr w.heap.size o ps) ∧ Hid (Rdr wr g (p + 100 + 3 * ps.length)) ∧ Hid (∀ q ∈ ps, MnIn q) ∧ Hid (w.grownBy wr (some g))) (fun _ y _ => (intOf y).toNat)
  case atStart => exact ⟨n.toNat, [], w.heap.size, 0, by simp; omega, by simp; omega, rfl, HF0, Lib.hid (hr1.more (by omega)), Lib.hid (fun q hq => by cases hq), Lib.hid hg0⟩
  case round =>
    obtain ⟨m, ps, ob, oc, rfl, hm, rfl, HF, HR, HI, HG⟩ := hrel
    by_cases hlt : 0 < m
    · have hlt' : (0 : Int) < m := by omega
      go_wp2_with fail
      refine (pick_any _ _ _ _ HR.out (by omega) (by omega) (by omega)).mono ?_
      rintro e w2 ⟨x0, rfl, ⟨hx0, -⟩, hr2, hg2⟩
      obtain ⟨a0, a1⟩ := hx0 (by omega)
      have HF2 := Lib.hid (HF.out.grown hg2 hgl)
      have HG2 := Lib.hid (grown_trans HG.out hg2)
      clear hx0 hg2
      go_wp2_with fail
      refine (pick_any _ _ _ _ hr2 (by omega) (by omega) (by omega)).mono ?_
      rintro e w3 ⟨x1, rfl, ⟨hx1, -⟩, hr3, hg3⟩
      obtain ⟨b0, b1⟩ := hx1 (by omega)
      have HF3 := Lib.hid (HF2.out.grown hg3 hgl)
      have HG3 := Lib.hid (grown_trans HG2.out hg3)
      clear hx1 hg3 hr2
      go_wp2_with fail
      refine (pick_any _ _ _ _ hr3 (by omega) (by omega) (by omega)).mono ?_
      rintro e w4 ⟨x2, rfl, ⟨hx2, -⟩, hr4, hg4⟩
      obtain ⟨c0, c1⟩ := hx2 (by omega)
      have HF4 := Lib.hid (HF3.out.grown hg4 hgl)
      have HG4 := Lib.hid (grown_trans HG3.out hg4)
      have hgl4 : g < w4.heap.size := hr4.lt
      have hws : w.heap.size ≤ w4.heap.size := HG4.out.size
      have HR4 := Lib.hid hr4
      clear hg4 hr3 hr4 hx2
      go_wp2_with (at_builtin; refine wpList_pushNote _ rfl _ _ rfl w.heap.size (.slice (some ⟨ob, 0, none⟩) ps.length oc) ps rfl (HF4.out.alloc _) w4.heap.size _ (9000 + x0, 10 * (1 + x1), 10000 + x2) rfl (newNote_cells w4 (9000 + x0, 10 * (1 + x1), 10000 + x2)) (by omega) (by simp; omega) ?_; intro v5 w5 hown5 hne5 hg5 hv5)
      have HO5 := Lib.hid hown5
      have HG5 := Lib.hid hg5
      clear hv5 hown5 hg5 hne5
      go_roundw
      case rel =>
        obtain ⟨ob5, oc5, e5, hob5, -, -, -, -⟩ := HO5.out.form (by simp)
        have hobw : w.heap.size ≤ ob := by
          rcases HF4.out.2 with ⟨h, _⟩ | ⟨g', _, _, h, hb, _⟩
          · cases h
          · injection h with h; injection h with h; injection h with h; omega
        refine ⟨m - 1, ps ++ [(9000 + x0, 10 * (1 + x1), 10000 + x2)], ob5, oc5, by go_num, by simp; omega, e5, HO5, ?_, ?_, ?_⟩
        · have h1 := HR4.out.alloc (.cells #[.int .i64 (9000 + x0), .int .i64 (10 * (1 + x1)), .int .i64 (10000 + x2)] 48)
          refine Lib.hid ?_
          have h2 : Below (g + 1) (w4.alloc (.cells #[.int .i64 (9000 + x0), .int .i64 (10 * (1 + x1)), .int .i64 (10000 + x2)] 48)) w5 := ⟨HG5.out.os, HG5.out.tape, HG5.out.output, HG5.out.size, fun i hi => HG5.out.block i (by simp; omega) (by simp [Value.ownBlock]; omega)⟩
          exact (h1.below h2 (by omega)).more (by simp; omega)
        · refine Lib.hid fun q hq => ?_
          rcases List.mem_append.1 hq with hq | hq
          · exact HI.out q hq
          · simp only [List.mem_cons, List.not_mem_nil, or_false] at hq
            subst hq
            show (-1 ≤ 9000 + x0 ∧ 9000 + x0 ≤ 40000) ∧ (0 ≤ 10 * (1 + x1) ∧ 10 * (1 + x1) ≤ 10000) ∧ (0 ≤ 10000 + x2 ∧ 10000 + x2 ≤ 50001)
            omega
        · exact Lib.hid (grown_far (grown_alloc HG4.out _) HG5.out (by simpa [Value.ownBlock] using hobw))
      case measure => simp [intOf]; omega
    · obtain rfl : m = 0 := by omega
      have hlt' : ¬ (0 : Int) < ((0 : Nat) : Int) := by omega
      by_cases hz : ps.length = 0
      · obtain rfl : ps = [] := List.eq_nil_of_length_eq_zero hz
        clear hz
        go_wp2_with fail
        go_ret
        exact ⟨_, _, [], rfl, HF.out, by simp, HI.out, HR.out.more (by simp), HG.out⟩
      · have hz' : (0 : Int) < (ps.length : Int) := by omega
        go_wp2_with fail
        refine (pick_any _ _ _ _ HR.out (by omega) (by omega) (by omega)).mono ?_
        rintro e w2 ⟨x0, rfl, ⟨hx0, -⟩, hr, hg⟩
        obtain ⟨a0, a1⟩ := hx0 (by omega)
        have HF2 := Lib.hid (HF.out.grown hg hgl)
        have HG2 := Lib.hid (grown_trans HG.out hg)
        have HR2 := Lib.hid hr
        clear hx0 hg hr
        by_cases c0 : x0 = 0
        · subst c0
          go_wp2_with fail
          refine (one_any (-1) 36525 _ g _ w2.heap.size _ _ (HR2.out.alloc _) (by omega) (heap_alloc_new w2 _) (by have := HR2.out.lt; omega) (by decide) (by decide) (by decide) 3 3 (by rfl)).mono ?_
          rintro e w3 ⟨y0, rfl, ⟨y0a, y0b⟩, hr, hg⟩
          have HF3 := Lib.hid ((HF2.out.alloc (.cells #[.int .i64 (-1), .int .i64 36525, .int .i64 5] 3)).grown hg hgl)
          have HG3 := Lib.hid (grown_trans (grown_alloc HG2.out (.cells #[.int .i64 (-1), .int .i64 36525, .int .i64 5] 3)) hg)
          have HR3 := Lib.hid hr
          clear hr hg
          go_wp2_with fail
          refine (one_any 0 10000 _ g _ w3.heap.size _ _ (HR3.out.alloc _) (by omega) (heap_alloc_new w3 _) (by have := HR3.out.lt; omega) (by decide) (by decide) (by decide) 3 3 (by rfl)).mono ?_
          rintro e w4 ⟨y1, rfl, ⟨y1a, y1b⟩, hr, hg⟩
          have HF4 := Lib.hid ((HF3.out.alloc (.cells #[.int .i64 0, .int .i64 9999, .int .i64 10000] 3)).grown hg hgl)
          have HG4 := Lib.hid (grown_trans (grown_alloc HG3.out (.cells #[.int .i64 0, .int .i64 9999, .int .i64 10000] 3)) hg)
          have HR4 := Lib.hid hr
          clear hr hg
          go_wp2_with fail
          refine (one_any 0 50001 _ g _ w4.heap.size _ _ (HR4.out.alloc _) (by omega) (heap_alloc_new w4 _) (by have := HR4.out.lt; omega) (by decide) (by decide) (by decide) 3 3 (by rfl)).mono ?_
          rintro e w5 ⟨y2, rfl, ⟨y2a, y2b⟩, hr, hg⟩
          have HF5 := Lib.hid ((HF4.out.alloc (.cells #[.int .i64 0, .int .i64 50000, .int .i64 50001] 3)).grown hg hgl)
          have HG5 := Lib.hid (grown_trans (grown_alloc HG4.out (.cells #[.int .i64 0, .int .i64 50000, .int .i64 50001] 3)) hg)
          have HR5 := Lib.hid hr
          clear hr hg
          obtain ⟨b6, cap6, e6, hob6, -, -, hc6, hf6⟩ := HF5.out.form (by omega)
          simp only [Value.slice.injEq, true_and, Option.some.injEq, Addr.mk.injEq, and_true] at e6
          obtain ⟨rfl, -⟩ := e6
          have hk : 0 < ps.length := by omega
          obtain ⟨d0, d1, d2⟩ := hc6 0 hk
          have f0 := hf6 (0 * 3)
          have f1 := hf6 (0 * 3 + 1)
          have f2 := hf6 (0 * 3 + 2)
          simp only [Nat.zero_mul, Nat.zero_add] at d0 d1 d2 f0 f1 f2
          clear hc6 hf6
          have HS := Lib.hid (HF5.out.store 0 hk y0 y1 y2)
          generalize ps.getD 0 t0 = yy at d0 d1 d2
          go_wp2_with fail
          go_ret
          refine ⟨ob, oc, ps.set 0 (y0, y1, y2), by rw [List.length_set]; exact rfl, HS.out.1, by rw [List.length_set]; omega, fun q hq => ?_, ?_, ?_⟩
          · rcases List.mem_or_eq_of_mem_set hq with hq | hq
            · exact HI.out q hq
            · subst hq
              show (-1 ≤ y0 ∧ y0 ≤ 40000) ∧ (0 ≤ y1 ∧ y1 ≤ 10000) ∧ (0 ≤ y2 ∧ y2 ≤ 50001)
              omega
          · exact (((HR5.out.far (by omega) _).far (by omega) _).far (by omega) _).more (by omega)
          · exact grown_far HG5.out HS.out.2 (fun j e => by injection e; omega)
        · have c0' : (x0 == 0) = false := by simp [c0]
          go_wp2_with fail
          go_ret
          exact ⟨_, _, ps, rfl, HF2.out, by omega, HI.out, HR2.out.more (by omega), HG2.out⟩
/-- The arguments of matching, drawn. -/
def DMn (w : World) (e : Ending) (w' : World) : Prop :=
  ∃ (va vb : Value) (a b : List Tri) (t : Int), e = .returned (.tuple #[va, vb, .int .i64 t]) ∧ R3o w' va a ∧ R3o w' vb b ∧ a.length ≤ 11 ∧ b.length ≤ 11 ∧ (∀ q ∈ a, MnIn q) ∧ (∀ q ∈ b, MnIn q) ∧ (-1 ≤ t ∧ t ≤ 50001) ∧ Below w.heap.size w w'
set_option maxRecDepth 8000 in
set_option maxHeartbeats 2000000 in
theorem drawMn_any (w : World) (a : Option Addr) (len cap : Nat) (zs : List Int) (h : IsRow .u8 w a len cap zs) :
    Calls Try.prog 24 #[.slice a len cap] w (DMn w) := by
  have H := Lib.hid h; clear h
  go_enter Try.func24, Try.ntmps24
  go_wp2_with fail
  refine (newReader_any _ _ _ _ _ H.out).mono ?_
  rintro e w1 ⟨g, rfl, hg, hr, hb⟩
  have HB := Lib.hid hb
  go_wp2_with fail
  refine (anyNotes_any _ _ _ hr (by omega)).mono ?_
  rintro e w2 ⟨b, c, ps, rfl, hF, hl, hI, hr2, hg2⟩
  have HF := Lib.hid hF
  have HB2 := Lib.hid (below_grown HB.out hg2 (by omega))
  have HI := Lib.hid hI
  have hgs : g < w1.heap.size := hr.lt
  clear hF hg2 hr hI hb
  go_wp2_with fail
  refine (anyNotes_any _ _ _ hr2 (by omega)).mono ?_
  rintro e w3 ⟨b', c', qs, rfl, hF', hl', hI', hr3, hg3⟩
  have HF3 := Lib.hid (HF.out.grown hg3 hgs)
  have HF' := Lib.hid hF'
  have HB3 := Lib.hid (below_grown HB2.out hg3 (by omega))
  have HI' := Lib.hid hI'
  have hgs2 : g < w2.heap.size := hr2.lt
  have hgs3 : g < w3.heap.size := hr3.lt
  clear hF' hg3 hr2 hI' HF
  go_wp2_with fail
  refine (one_any (-1) 50001 _ g _ w3.heap.size _ _ (hr3.alloc _) (by omega) (heap_alloc_new w3 _) (by omega) (by decide) (by decide) (by decide) 7 7 (by rfl)).mono ?_
  rintro e w4 ⟨t, rfl, ht, hr4, hg4⟩
  have HFa := Lib.hid ((HF3.out.alloc (.cells #[.int .i64 0, .int .i64 1, .int .i64 3, .int .i64 50000, .int .i64 50001, .int .i64 (-1), .int .i64 2] 3)).grown hg4 hgs)
  have HFb := Lib.hid ((HF'.out.alloc (.cells #[.int .i64 0, .int .i64 1, .int .i64 3, .int .i64 50000, .int .i64 50001, .int .i64 (-1), .int .i64 2] 3)).grown hg4 hgs2)
  have HB4 := Lib.hid (below_grown (HB3.out.alloc HB3.out.size (.cells #[.int .i64 0, .int .i64 1, .int .i64 3, .int .i64 50000, .int .i64 50001, .int .i64 (-1), .int .i64 2] 3)) hg4 (by omega))
  clear hr4 hg4 HF3 HF'
  go_wp2_with fail
  refine bodyPost_ret (v := .tuple #[.slice (some ⟨b, 0, none⟩) ps.length c, .slice (some ⟨b', 0, none⟩) qs.length c', .int .i64 t]) (by simp [results, Try.results24, go_sem]) rfl ⟨_, _, _, _, _, rfl, HFa.out.r3.o, HFb.out.r3.o, hl, hl', HI.out, HI'.out, ht, HB4.out⟩
set_option maxHeartbeats 1000000 in
theorem drawOn_any (w : World) (a : Option Addr) (len cap : Nat) (zs : List Int) (h : IsRow .u8 w a len cap zs) :
    Calls Try.prog 31 #[.slice a len cap] w (DMn w) := by
  have HM := Lib.hid (drawMn_any w a len cap zs h)
  clear h
  go_enter Try.func31, Try.ntmps31
  go_wp2_with fail
  refine HM.out.mono ?_
  rintro e w1 ⟨va, vb, ps, qs, t, rfl, h1, h2, h3, h4, h5, h6, h7, h8⟩
  have H1 := Lib.hid h1
  have H2 := Lib.hid h2
  have H5 := Lib.hid h5
  have H6 := Lib.hid h6
  have H8 := Lib.hid h8
  clear h1 h2 h5 h6 h8
  go_wp2_with fail
  refine bodyPost_ret (v := .tuple #[va, vb, .int .i64 t]) (by simp [results, Try.results31, go_sem]) rfl ⟨_, _, _, _, _, rfl, H1.out, H2.out, h3, h4, H5.out, H6.out, h7, H8.out⟩
end Go.Proofs.Ytmamnljgkkjkcaa
