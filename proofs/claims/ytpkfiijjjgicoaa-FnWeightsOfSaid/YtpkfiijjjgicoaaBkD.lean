/- Books drawn out of a law's input. -/
import Derived.Test.YtpkfiijjjgicoaaTrPMark
import Derived.Test.YtpkfiijjjgicoaaMkD
namespace Go.Proofs.Ytpkfiijjjgicoaa
open Go.RowKit
theorem TRow.new (T : TypeId) (w : World) : TRow T (w.alloc (.cells #[] T)) w.heap.size (.slice (some ⟨w.heap.size, 0, none⟩) 0 0) [] := World.ownsRow_lit w #[] 0 (Nat.le_refl _) (Nat.zero_le _) (by simp)
theorem TRow.grown {T : TypeId} {w w' : World} {B g : Nat} {v : Value} {ps : List Tri} (h : TRow T w B v ps) (hg : w.grownBy w' (some g)) (hB : g < B) : TRow T w' B v ps := h.kept hg fun j e => by injection e; omega
theorem grown_far3 {a b c : World} {g : Nat} {o : Option Nat} (h : a.grownBy b (some g)) (k : b.grownBy c o) (hr : ∀ j, o = some j → a.heap.size ≤ j) : a.grownBy c (some g) :=
  ⟨k.os.trans h.os, k.tape.trans h.tape, k.output.trans h.output, Nat.le_trans h.size k.size, fun i hi hne => (k.block i (Nat.lt_of_lt_of_le hi h.size) (fun e => by have := hr i e.symm; omega)).trans (h.block i hi hne)⟩
theorem TRow.slice {T : TypeId} {w : World} {B : Nat} {v : Value} {ps : List Tri} (h : TRow T w B v ps) (hn : v ≠ .slice none 0 0) : ∃ b c, v = .slice (some ⟨b, 0, none⟩) ps.length c := by
  rcases h.2 with ⟨h, _⟩ | ⟨b, cap, cur, h, _⟩
  · exact absurd h hn
  · exact ⟨b, cap, h⟩
theorem TRow.put {T : TypeId} {w : World} {B : Nat} {v : Value} {ps : List Tri} {b i : Nat} (h : TRow T w B v ps) (hb : ∀ j, v.ownBlock = some j → j ≠ b) (u : Value) : TRow T (w.setCell ⟨b, i, none⟩ u) B v ps :=
  World.ownsRow.kept h (row := some b) ⟨rfl, rfl, rfl, by simp [World.setCell], fun k _ hne => by
    simp only [World.setCell, Array.getElem?_modify]
    rw [if_neg (fun e => hne (by rw [e]))]⟩ (by
    cases e : v.ownBlock with
    | none => exact .inl rfl
    | some k => exact .inr fun e2 => by injection e2 with e2; exact hb k e e2)
theorem grown_put {a b : World} {g j i : Nat} (h : a.grownBy b (some g)) (hj : a.heap.size ≤ j) (u : Value) : a.grownBy (b.setCell ⟨j, i, none⟩ u) (some g) :=
  ⟨h.os, h.tape, h.output, by simpa [World.setCell] using h.size, fun k hk hne => by
    simp only [World.setCell, Array.getElem?_modify]
    rw [if_neg (by omega)]
    exact h.block k hk hne⟩
/-- A book drawn. -/
def DBook (w : World) (g p : Nat) (e : Ending) (w' : World) : Prop :=
  ∃ v ps, e = .returned v ∧ TRow 33 w' w.heap.size v ps ∧ ps.length ≤ 9 ∧ v ≠ .slice none 0 0 ∧ Rdr w' g (p + 1000) ∧ w.grownBy w' (some g)
set_option maxRecDepth 8000 in
set_option maxHeartbeats 4000000 in
theorem anyBook_any (w : World) (g p : Nat) (h : Rdr w g p) (hp : p ≤ 100) :
    Calls Try.prog 38 #[.pointer (some ⟨g, 0, none⟩)] w (DBook w g p) := by
  have hgl := h.lt
  go_enter Try.func38, Try.ntmps38
  go_wp2_with fail
  refine (one_any 0 9 _ g _ (w.heap.size + 1) _ _ ((h.alloc _).alloc _) (by omega) (by simpa using heap_alloc_new (w.alloc (.cells #[] 33)) _) (by omega) (by decide) (by decide) (by decide) 7 7 (by rfl)).mono ?_
  rintro e w1 ⟨n, rfl, ⟨n0, n1⟩, hr1, hg1⟩
  go_wp2_with fail
  have hg0 := grown_trans (grown_alloc (grown_alloc (grown_refl w g) (.cells #[] 33)) (.cells #[.int .i64 3, .int .i64 4, .int .i64 2, .int .i64 1, .int .i64 0, .int .i64 8, .int .i64 9] 3)) hg1
  have HF0 := Lib.hid (((TRow.new 33 w).alloc (.cells #[.int .i64 3, .int .i64 4, .int .i64 2, .int .i64 1, .int .i64 0, .int .i64 8, .int .i64 9] 3)).grown hg1 hgl)
  clear hg1
  go_loopw [3, 4] (fun o y wr => ∃ (m : Nat) (ps : List Tri) (ob oc : Nat), y = .int .i64 m ∧ ps.length + m ≤ 9 ∧ o = .slice (some ⟨ob, 0, none⟩) ps.length oc ∧ Hid (TRow 33 wr w.heap.size o ps) ∧ Hid (Rdr wr g (p + 100 + 20 * ps.length)) ∧ Hid (w.grownBy wr (some g))) (fun _ y _ => (intOf y).toNat)
  case atStart => exact ⟨n.toNat, [], w.heap.size, 0, by simp; omega, by simp; omega, rfl, HF0, Lib.hid (hr1.more (by omega)), Lib.hid hg0⟩
  case round =>
    obtain ⟨m, ps, ob, oc, rfl, hm, rfl, HF, HR, HG⟩ := hrel
    by_cases hlt : 0 < m
    · have hlt' : (0 : Int) < m := by omega
      have hgr := HR.out.lt
      have hobl : ob < wr.heap.size := (World.ownsRow.lt HF.out ob rfl).2
      have hobw : w.heap.size ≤ ob := (World.ownsRow.lt HF.out ob rfl).1
      go_wp2_with fail
      refine (one_any 0 9999 _ g _ wr.heap.size _ _ (HR.out.alloc _) (by omega) (heap_alloc_new wr _) (by omega) (by decide) (by decide) (by decide) 5 5 (by rfl)).mono ?_
      rintro e w2 ⟨x0, rfl, ⟨a0, a1⟩, hr2, hg2⟩
      have HF2 := Lib.hid ((HF.out.alloc (.cells #[.int .i64 10, .int .i64 0, .int .i64 100, .int .i64 25, .int .i64 9999] 3)).grown hg2 hgl)
      have HG2 := Lib.hid (grown_trans (grown_alloc HG.out (.cells #[.int .i64 10, .int .i64 0, .int .i64 100, .int .i64 25, .int .i64 9999] 3)) hg2)
      clear hg2
      go_wp2_with fail
      refine (pick_any _ _ _ _ hr2 (by omega) (by omega) (by omega)).mono ?_
      rintro e w3 ⟨x1, rfl, ⟨hx1, -⟩, hr3, hg3⟩
      obtain ⟨b0, b1⟩ := hx1 (by omega)
      have HF3 := Lib.hid (HF2.out.grown hg3 hgl)
      have HG3 := Lib.hid (grown_trans HG2.out hg3)
      clear hx1 hg3 hr2
      go_wp2_with fail
      refine (pick_any _ _ _ _ hr3 (by omega) (by omega) (by omega)).mono ?_
      rintro e w4 ⟨x2, rfl, ⟨hx2, -⟩, hr4, hg4⟩
      obtain ⟨c0, c1⟩ := hx2 (by omega)
      have HF4 := Lib.hid (HF3.out.grown hg4 hgl)
      have HG4 := Lib.hid (grown_trans HG3.out hg4)
      clear hx2 hg4 hr3
      have hsz4 : w.heap.size ≤ w4.heap.size := HG4.out.size
      have hob4 : ob < w4.heap.size := (World.ownsRow.lt HF4.out ob rfl).2
      have K4 := (Kg.refl hr4.lt).new 33 (mkA (x0, 9900 + x1, x2))
      have HR5 := Lib.hid (hr4.alloc (.cells (mkA (x0, 9900 + x1, x2)) 33))
      have HF5 := Lib.hid (HF4.out.alloc (.cells (mkA (x0, 9900 + x1, x2)) 33))
      have HG5 := Lib.hid (grown_alloc HG4.out (.cells (mkA (x0, 9900 + x1, x2)) 33))
      have hg4l : g < w4.heap.size := hr4.lt
      clear hr4
      go_wp2_with fail
      refine (pick_any _ _ _ _ HR5.out (by omega) (by omega) (by omega)).mono ?_
      rintro e w6 ⟨x3, rfl, ⟨hx3, -⟩, hr6, hg6⟩
      obtain ⟨d0, d1⟩ := hx3 (by omega)
      have HF6 := Lib.hid (HF5.out.grown hg6 hgl)
      have HG6 := Lib.hid (grown_trans HG5.out hg6)
      have K6 := K4.grown hg6
      clear hx3 hg6 K4 HR5
      by_cases c3 : x3 = 0
      · subst c3
        have KB6 := K6.first
        have hsz6 : w4.heap.size < w6.heap.size := KB6.lt
        go_wp2_with fail
        refine (anyMark_any _ _ _ hr6 (by omega)).mono ?_
        rintro e w7 ⟨mm, mc, ma, rfl, -, -, -, hr7, hg7⟩
        have HF7 := Lib.hid (HF6.out.grown hg7 hgl)
        have HG7 := Lib.hid (grown_trans HG6.out hg7)
        have K7 := K6.grown hg7
        have hr8 : Rdr w7 g (p + 100 + 20 * ps.length + 12) := hr7.more (by omega)
        clear hg7 K6 KB6 hr6 hr7
        have KB7 := K7.first
        obtain ⟨⟨s0, s1, s2⟩, f0, f1, f2⟩ := KB7.three
        have hl7 := KB7.lt
        have HR8 := Lib.hid (((hr8.far (i := 0) hg4l (.int .i64 mm)).far (i := 1) hg4l (.int .i64 mc)).far (i := 2) hg4l (.int .i64 ma))
        have hne : ∀ j, (Value.slice (some ⟨ob, 0, none⟩) ps.length oc).ownBlock = some j → j ≠ w4.heap.size := fun j hj => by have hj2 : some ob = some j := hj; injection hj2 with hj2; omega
        have HF8 := Lib.hid ((((HF7.out.put (i := 0) hne (.int .i64 mm)).put (i := 1) hne (.int .i64 mc)).put (i := 2) hne (.int .i64 ma)))
        have HG8 := Lib.hid (grown_put (grown_put (grown_put HG7.out (i := 0) hsz4 (.int .i64 mm)) (i := 1) hsz4 (.int .i64 mc)) (i := 2) hsz4 (.int .i64 ma))
        clear K7 KB7 hr8
        have hw8 : (((w7.setCell ⟨w4.heap.size, 0, none⟩ (.int .i64 mm)).setCell ⟨w4.heap.size, 1, none⟩ (.int .i64 mc)).setCell ⟨w4.heap.size, 2, none⟩ (.int .i64 ma)).heap.size = w7.heap.size := by simp [World.setCell]
        have HC8 := Lib.hid (newMark_cells (((w7.setCell ⟨w4.heap.size, 0, none⟩ (.int .i64 mm)).setCell ⟨w4.heap.size, 1, none⟩ (.int .i64 mc)).setCell ⟨w4.heap.size, 2, none⟩ (.int .i64 ma)) (mm, mc, ma))
        rw [hw8] at HC8
        have HF9 := Lib.hid (HF8.out.alloc (.cells (mkA (mm, mc, ma)) 33))
        have hb9 : w.heap.size ≤ ((((w7.setCell ⟨w4.heap.size, 0, none⟩ (.int .i64 mm)).setCell ⟨w4.heap.size, 1, none⟩ (.int .i64 mc)).setCell ⟨w4.heap.size, 2, none⟩ (.int .i64 ma)).alloc (.cells (mkA (mm, mc, ma)) 33)).heap.size := by simp [World.setCell]; omega
        have HB9 := Lib.hid hb9
        clear hw8 hb9
        go_wp2_with (at_builtin; refine wpList_pushMark _ rfl _ _ rfl w.heap.size (.slice (some ⟨ob, 0, none⟩) ps.length oc) ps rfl HF9.out w7.heap.size _ (mm, mc, ma) rfl HC8.out (by omega) HB9.out ?_; intro v9 w9 hown9 hne9 hg9 hv9)
        have HO9 := Lib.hid hown9
        have HG9 := Lib.hid hg9
        have HN9 := Lib.hid hne9
        clear hown9 hg9 hne9
        go_roundw
        case rel =>
          obtain ⟨ob9, oc9, e9, -, -, -, -, -⟩ := HO9.out.form (by simp)
          refine ⟨m - 1, ps ++ [(mm, mc, ma)], ob9, oc9, by go_num, by simp; omega, e9, HO9, ?_, ?_⟩
          · have h1 := HR8.out.alloc (.cells (mkA (mm, mc, ma)) 33)
            refine Lib.hid ?_
            have h2 : Below (g + 1) _ w9 := ⟨HG9.out.os, HG9.out.tape, HG9.out.output, HG9.out.size, fun i hi => HG9.out.block i (Nat.lt_of_lt_of_le hi h1.lt) (by simp [Value.ownBlock]; omega)⟩
            exact (h1.below h2 (by omega)).more (by simp; omega)
          · exact Lib.hid (grown_far3 (grown_alloc HG8.out _) HG9.out (by simpa [Value.ownBlock] using hobw))
        case measure => simp [intOf]; omega
      · have c3' : (x3 == 0) = false := by simp [c3]
        have KB6 := K6.first
        obtain ⟨⟨s0, s1, s2⟩, f0, f1, f2⟩ := KB6.three
        have HR6 := Lib.hid hr6
        clear K6 KB6 hr6
        go_wp2_with (at_builtin; refine wpList_pushMark _ rfl _ _ rfl w.heap.size (.slice (some ⟨ob, 0, none⟩) ps.length oc) ps rfl (HF6.out.alloc _) w6.heap.size _ (x0, 9900 + x1, x2) rfl (newMark_cells w6 (x0, 9900 + x1, x2)) (by omega) (by have := HG6.out.size; simp; omega) ?_; intro v9 w9 hown9 hne9 hg9 hv9)
        have HO9 := Lib.hid hown9
        have HG9 := Lib.hid hg9
        have HN9 := Lib.hid hne9
        clear hown9 hg9 hne9
        go_roundw
        case rel =>
          obtain ⟨ob9, oc9, e9, -, -, -, -, -⟩ := HO9.out.form (by simp)
          refine ⟨m - 1, ps ++ [(x0, 9900 + x1, x2)], ob9, oc9, by go_num, by simp; omega, e9, HO9, ?_, ?_⟩
          · have h1 := HR6.out.alloc (.cells (mkA (x0, 9900 + x1, x2)) 33)
            refine Lib.hid ?_
            have h2 : Below (g + 1) _ w9 := ⟨HG9.out.os, HG9.out.tape, HG9.out.output, HG9.out.size, fun i hi => HG9.out.block i (Nat.lt_of_lt_of_le hi h1.lt) (by simp [Value.ownBlock]; omega)⟩
            exact (h1.below h2 (by omega)).more (by simp; omega)
          · exact Lib.hid (grown_far3 (grown_alloc HG6.out _) HG9.out (by simpa [Value.ownBlock] using hobw))
        case measure => simp [intOf]; omega
    · obtain rfl : m = 0 := by omega
      have hlt' : ¬ (0 : Int) < ((0 : Nat) : Int) := by omega
      go_wp2_with fail
      go_ret
      exact ⟨_, ps, rfl, HF.out, by omega, by simp, HR.out.more (by omega), HG.out⟩
def DBk (w : World) (e : Ending) (w' : World) : Prop :=
  ∃ ps b c, e = .returned (.slice (some ⟨b, 0, none⟩) ps.length c) ∧ R3 w' (.slice (some ⟨b, 0, none⟩) ps.length c) ps ∧ ps.length ≤ 9 ∧ ps.length ≤ c ∧ Below w.heap.size w w'
set_option maxHeartbeats 1000000 in
theorem drawBW_any (w : World) (a : Option Addr) (len cap : Nat) (zs : List Int) (h : IsRow .u8 w a len cap zs) :
    Calls Try.prog 13 #[.slice a len cap] w (DBk w) := by
  have H := Lib.hid h; clear h
  go_enter Try.func13, Try.ntmps13
  go_wp2_with fail
  refine (newReader_any _ _ _ _ _ H.out).mono ?_
  rintro e w1 ⟨g, rfl, hg, hr, hb⟩
  go_wp2_with fail
  refine (anyBook_any _ _ _ hr (by omega)).mono ?_
  rintro e w2 ⟨v, ps, rfl, hF, hl, hn, hr2, hg2⟩
  obtain ⟨b, c, rfl⟩ := hF.slice hn
  have HC := Lib.hid (show ps.length ≤ c from by
    rcases hF.2 with ⟨q, _⟩ | ⟨b', cap', cur, q, _, _, q1, q2, _⟩
    · simp at q
    · simp only [Value.slice.injEq, true_and] at q
      rw [q.2]; exact q1)
  have HF := Lib.hid hF.r3
  clear hF hn
  go_wp2_with fail
  go_ret
  exact ⟨ps, _, _, rfl, HF.out, hl, HC.out, below_grown hb hg2 (by omega)⟩
set_option maxHeartbeats 1000000 in
theorem drawWO_any (w : World) (a : Option Addr) (len cap : Nat) (zs : List Int) (h : IsRow .u8 w a len cap zs) :
    Calls Try.prog 16 #[.slice a len cap] w (DBk w) := by
  have H := Lib.hid h; clear h
  go_enter Try.func16, Try.ntmps16
  go_wp2_with fail
  refine (newReader_any _ _ _ _ _ H.out).mono ?_
  rintro e w1 ⟨g, rfl, hg, hr, hb⟩
  go_wp2_with fail
  refine (anyBook_any _ _ _ hr (by omega)).mono ?_
  rintro e w2 ⟨v, ps, rfl, hF, hl, hn, hr2, hg2⟩
  obtain ⟨b, c, rfl⟩ := hF.slice hn
  have HC := Lib.hid (show ps.length ≤ c from by
    rcases hF.2 with ⟨q, _⟩ | ⟨b', cap', cur, q, _, _, q1, q2, _⟩
    · simp at q
    · simp only [Value.slice.injEq, true_and] at q
      rw [q.2]; exact q1)
  have HF := Lib.hid hF.r3
  clear hF hn
  go_wp2_with fail
  go_ret
  exact ⟨ps, _, _, rfl, HF.out, hl, HC.out, below_grown hb hg2 (by omega)⟩
end Go.Proofs.Ytpkfiijjjgicoaa
