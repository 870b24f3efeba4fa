/- Bids drawn out of a law's input. -/
import Derived.Test.YtgiejiiiokdbpaaTqPBid
import Derived.Test.YtgiejiiiokdbpaaKg
import Derived.Test.YtgiejiiiokdbpaaBd2
namespace Go.Proofs.Ytgiejiiiokdbpaa
open Go.RowKit
theorem TRow2.new (T : TypeId) (w : World) : TRow2 T (w.alloc (.cells #[] T)) w.heap.size (.slice (some ⟨w.heap.size, 0, none⟩) 0 0) [] := World.ownsRow_lit w #[] 0 (Nat.le_refl _) (Nat.zero_le _) (by simp)
theorem TRow2.grown {T : TypeId} {w w' : World} {B g : Nat} {v : Value} {ps : List Pr} (h : TRow2 T w B v ps) (hg : w.grownBy w' (some g)) (hB : g < B) : TRow2 T w' B v ps := h.kept hg fun j e => by injection e; omega
theorem grown_far2 {a b c : World} {g : Nat} {o : Option Nat} (h : a.grownBy b (some g)) (k : b.grownBy c o) (hr : ∀ j, o = some j → a.heap.size ≤ j) : a.grownBy c (some g) :=
  ⟨k.os.trans h.os, k.tape.trans h.tape, k.output.trans h.output, Nat.le_trans h.size k.size, fun i hi hne => (k.block i (Nat.lt_of_lt_of_le hi h.size) (fun e => by have := hr i e.symm; omega)).trans (h.block i hi hne)⟩
theorem TRow2.slice {T : TypeId} {w : World} {B : Nat} {v : Value} {ps : List Pr} (h : TRow2 T w B v ps) (hn : v ≠ .slice none 0 0) : ∃ b c, v = .slice (some ⟨b, 0, none⟩) ps.length c := by
  rcases h.2 with ⟨h, _⟩ | ⟨b, cap, cur, h, _⟩
  · exact absurd h hn
  · exact ⟨b, cap, h⟩
/-- Bids drawn. -/
def DBids (w : World) (g p : Nat) (e : Ending) (w' : World) : Prop :=
  ∃ v ps, e = .returned v ∧ TRow2 42 w' w.heap.size v ps ∧ ps.length ≤ 9 ∧ v ≠ .slice none 0 0 ∧ Rdr w' g (p + 1000) ∧ w.grownBy w' (some g)
set_option maxRecDepth 8000 in
set_option maxHeartbeats 4000000 in
theorem anyBids_any (w : World) (g p : Nat) (h : Rdr w g p) (hp : p ≤ 100) :
    Calls Try.prog 80 #[.pointer (some ⟨g, 0, none⟩)] w (DBids w g p) := by
  have hgl := h.lt
  go_enter Try.func80, Try.ntmps80
  go_wp2_with fail
  refine (one_any 0 9 _ g _ (w.heap.size + 1) _ _ ((h.alloc _).alloc _) (by omega) (by simpa using heap_alloc_new (w.alloc (.cells #[] 42)) _) (by omega) (by decide) (by decide) (by decide) 8 8 (by rfl)).mono ?_
  rintro e w1 ⟨n, rfl, ⟨n0, n1⟩, hr1, hg1⟩
  go_wp2_with fail
  have hg0 := grown_trans (grown_alloc (grown_alloc (grown_refl w g) (.cells #[] 42)) (.cells #[.int .i64 3, .int .i64 4, .int .i64 5, .int .i64 2, .int .i64 1, .int .i64 0, .int .i64 8, .int .i64 9] 3)) hg1
  have HF0 := Lib.hid (((TRow2.new 42 w).alloc (.cells #[.int .i64 3, .int .i64 4, .int .i64 5, .int .i64 2, .int .i64 1, .int .i64 0, .int .i64 8, .int .i64 9] 3)).grown hg1 hgl)
  clear hg1
  go_loopw [3, 4] (fun o y wr => ∃ (m : Nat) (ps : List Pr) (ob oc : Nat), y = .int .i64 m ∧ ps.length + m ≤ 9 ∧ o = .slice (some ⟨ob, 0, none⟩) ps.length oc ∧ Hid (TRow2 42 wr w.heap.size o ps) ∧ Hid (Rdr wr g (p + 100 + 3 * ps.length)) ∧ Hid (w.grownBy wr (some g))) (fun _ y _ => (intOf y).toNat)
  case atStart => exact ⟨n.toNat, [], w.heap.size, 0, by simp; omega, by simp; omega, rfl, HF0, Lib.hid (hr1.more (by omega)), Lib.hid hg0⟩
  case round =>
    obtain ⟨m, ps, ob, oc, rfl, hm, rfl, HF, HR, HG⟩ := hrel
    by_cases hlt : 0 < m
    · have hlt' : (0 : Int) < m := by omega
      have hgr := HR.out.lt
      go_wp2_with fail
      refine (pick_any _ _ _ _ HR.out (by omega) (by omega) (by omega)).mono ?_
      rintro e w2 ⟨x0, rfl, ⟨hx0, -⟩, hr2, hg2⟩
      obtain ⟨a0, a1⟩ := hx0 (by omega)
      have HF2 := Lib.hid (HF.out.grown hg2 hgl)
      have HG2 := Lib.hid (grown_trans HG.out hg2)
      clear hx0 hg2
      go_wp2_with fail
      refine (one_any 0 100 _ g _ w2.heap.size _ _ (hr2.alloc _) (by omega) (heap_alloc_new w2 _) (by have := hr2.lt; omega) (by decide) (by decide) (by decide) 5 5 (by rfl)).mono ?_
      rintro e w4 ⟨x1, rfl, ⟨b0, b1⟩, hr4, hg4⟩
      have HF4 := Lib.hid ((HF2.out.alloc (.cells #[.int .i64 10, .int .i64 5, .int .i64 33, .int .i64 100, .int .i64 7] 3)).grown hg4 hgl)
      have HG4 := Lib.hid (grown_trans (grown_alloc HG2.out (.cells #[.int .i64 10, .int .i64 5, .int .i64 33, .int .i64 100, .int .i64 7] 3)) hg4)
      have hgl4 : g < w4.heap.size := hr4.lt
      have hws : w.heap.size ≤ w4.heap.size := HG4.out.size
      have HR4 := Lib.hid hr4
      clear hg4 hr2 hr4
      go_wp2_with (at_builtin; refine wpList_pushBid _ rfl _ _ rfl w.heap.size (.slice (some ⟨ob, 0, none⟩) ps.length oc) ps rfl (HF4.out.alloc _) w4.heap.size _ (400 + x0, x1) rfl (newBid_cells w4 (400 + x0, x1)) (by omega) (by simp; omega) ?_; intro v5 w5 hown5 hne5 hg5 hv5)
      have HV5 := Lib.hid hv5
      have HO5 := Lib.hid hown5
      have HG5 := Lib.hid hg5
      have HN5 := Lib.hid hne5
      clear hv5 hown5 hg5 hne5
      go_roundw
      case rel =>
        obtain ⟨ob5, oc5, e5, hob5, -, -, -, -⟩ := HO5.out.form (by simp)
        have hobw : w.heap.size ≤ ob := by
          rcases HF4.out.2 with ⟨h, _⟩ | ⟨g', _, _, h, hb, _⟩
          · cases h
          · injection h with h; injection h with h; injection h with h; omega
        refine ⟨m - 1, ps ++ [(400 + x0, x1)], ob5, oc5, by go_num, by simp; omega, e5, HO5, ?_, ?_⟩
        · have h1 := HR4.out.alloc (.cells #[.int .i64 (400 + x0), .int .i64 x1] 42)
          have hgo : g ≠ ob := by omega
          refine Lib.hid ?_
          have h2 : Below (g + 1) (w4.alloc (.cells #[.int .i64 (400 + x0), .int .i64 x1] 42)) w5 := ⟨HG5.out.os, HG5.out.tape, HG5.out.output, HG5.out.size, fun i hi => HG5.out.block i (by simp; omega) (by simp [Value.ownBlock]; omega)⟩
          exact (h1.below h2 (by omega)).more (by simp; omega)
        · exact Lib.hid (grown_far2 (grown_alloc HG4.out _) HG5.out (by simpa [Value.ownBlock] using hobw))
      case measure => simp [intOf]; omega
    · obtain rfl : m = 0 := by omega
      have hlt' : ¬ (0 : Int) < ((0 : Nat) : Int) := by omega
      by_cases hz : ps.length = 0
      · obtain rfl : ps = [] := List.eq_nil_of_length_eq_zero hz
        clear hz
        go_wp2_with fail
        go_ret
        exact ⟨_, [], rfl, HF.out, by simp, by simp, HR.out.more (by simp), HG.out⟩
      · have hz' : (0 : Int) < (ps.length : Int) := by omega
        go_wp2_with fail
        refine (pick_any _ _ _ _ HR.out (by omega) (by omega) (by omega)).mono ?_
        rintro e w3 ⟨x0, rfl, ⟨hx0, -⟩, hr, hg⟩
        obtain ⟨a0, a1⟩ := hx0 (by omega)
        have HF3 := Lib.hid (HF.out.grown hg hgl)
        have HG3 := Lib.hid (grown_trans HG.out hg)
        have HR3 := Lib.hid hr
        clear hx0 hg hr
        by_cases c0 : x0 = 0
        · subst c0
          go_wp2_with fail
          refine (one_any (-1) 3001 _ g _ w3.heap.size _ _ (HR3.out.alloc _) (by omega) (heap_alloc_new w3 _) (by have := HR3.out.lt; omega) (by decide) (by decide) (by decide) 3 3 (by rfl)).mono ?_
          rintro e w4 ⟨y0, rfl, ⟨y0a, y0b⟩, hr, hg⟩
          have HF4 := Lib.hid ((HF3.out.alloc (.cells #[.int .i64 (-1), .int .i64 3000, .int .i64 3001] 3)).grown hg hgl)
          have HG4 := Lib.hid (grown_trans (grown_alloc HG3.out (.cells #[.int .i64 (-1), .int .i64 3000, .int .i64 3001] 3)) hg)
          have HR4 := Lib.hid hr
          clear hr hg
          go_wp2_with fail
          refine (one_any 0 10000 _ g _ w4.heap.size _ _ (HR4.out.alloc _) (by omega) (heap_alloc_new w4 _) (by have := HR4.out.lt; omega) (by decide) (by decide) (by decide) 3 3 (by rfl)).mono ?_
          rintro e w5 ⟨y1, rfl, ⟨y1a, y1b⟩, hr, hg⟩
          have HF6 := Lib.hid ((HF4.out.alloc (.cells #[.int .i64 0, .int .i64 9999, .int .i64 10000] 3)).grown hg hgl)
          have HG6 := Lib.hid (grown_trans (grown_alloc HG4.out (.cells #[.int .i64 0, .int .i64 9999, .int .i64 10000] 3)) hg)
          have HR6 := Lib.hid hr
          clear hr hg
          obtain ⟨b6, cap6, e6, hob6, -, -, hc6, hf6⟩ := HF6.out.form (by omega)
          simp only [Value.slice.injEq, true_and, Option.some.injEq, Addr.mk.injEq, and_true] at e6
          obtain ⟨rfl, -⟩ := e6
          obtain ⟨d0, d1⟩ := hc6 0 (by omega)
          have f0 := hf6 0
          have f1 := hf6 1
          simp only [Nat.zero_mul, Nat.zero_add] at d0 d1
          clear hc6 hf6
          have HS0 := HF6.out.store 0 (by omega) y0 y1
          simp only [Nat.zero_mul, Nat.zero_add] at HS0
          have HS := Lib.hid HS0; clear HS0
          have hlen' : 0 < ps.length := by omega
          generalize ps.getD 0 pr0 = yy at d0 d1
          go_wp2_with fail
          go_ret
          refine ⟨_, ps.set 0 (y0, y1), rfl, by have h := HS.out.1; rw [List.length_set] at h; exact h, by rw [List.length_set]; omega, by simp, ?_, ?_⟩
          · exact ((HR6.out.far (by omega) _).far (by omega) _).more (by omega)
          · exact grown_far2 HG6.out HS.out.2 (fun j e => by injection e; omega)
        · have c0' : (x0 == 0) = false := by simp [c0]
          go_wp2_with fail
          go_ret
          exact ⟨_, ps, rfl, HF3.out, by omega, by simp, HR3.out.more (by omega), HG3.out⟩
def DBd (w : World) (e : Ending) (w' : World) : Prop :=
  ∃ ps b c, e = .returned (.slice (some ⟨b, 0, none⟩) ps.length c) ∧ R2o w' (.slice (some ⟨b, 0, none⟩) ps.length c) ps ∧ ps.length ≤ 9 ∧ ps.length ≤ c ∧ Below w.heap.size w w'
def DBdN (w : World) (e : Ending) (w' : World) : Prop :=
  ∃ ps b c, ∃ x : Int, e = .returned (.tuple #[.slice (some ⟨b, 0, none⟩) ps.length c, .int .i64 x]) ∧ R2o w' (.slice (some ⟨b, 0, none⟩) ps.length c) ps ∧ ps.length ≤ 9 ∧ (0 ≤ x ∧ x ≤ 1000000001) ∧ Below w.heap.size w w'
set_option maxHeartbeats 1000000 in
theorem drawSY_any (w : World) (a : Option Addr) (len cap : Nat) (zs : List Int) (h : IsRow .u8 w a len cap zs) :
    Calls Try.prog 59 #[.slice a len cap] w (DBdN w) := by
  have H := Lib.hid h; clear h
  go_enter Try.func59, Try.ntmps59
  go_wp2_with fail
  refine (newReader_any _ _ _ _ _ H.out).mono ?_
  rintro e w1 ⟨g, rfl, hg, hr, hb⟩
  go_wp2_with fail
  refine (anyBids_any _ _ _ hr (by omega)).mono ?_
  rintro e w2 ⟨v, ps, rfl, hF, hl, hn, hr2, hg2⟩
  obtain ⟨b, c, rfl⟩ := hF.slice hn
  have HF := Lib.hid hF
  have hgl : g < w1.heap.size := hr.lt
  have hb2 := below_grown hb hg2 (by omega)
  clear hF hn
  go_wp2_with fail
  refine (one_any 0 1000000001 _ g _ w2.heap.size _ _ (hr2.alloc _) (by omega) (heap_alloc_new w2 _) (by have := hr2.lt; omega) (by decide) (by decide) (by decide) 8 8 (by rfl)).mono ?_
  rintro e w3 ⟨x, rfl, ⟨x0, x1⟩, hr3, hg3⟩
  have HF3 := Lib.hid ((HF.out.alloc (.cells #[.int .i64 20, .int .i64 50, .int .i64 100, .int .i64 1, .int .i64 200, .int .i64 0, .int .i64 1000000000, .int .i64 1000000001] 3)).grown hg3 hgl)
  have hb3 := below_grown (hb2.alloc hb2.size (.cells #[.int .i64 20, .int .i64 50, .int .i64 100, .int .i64 1, .int .i64 200, .int .i64 0, .int .i64 1000000000, .int .i64 1000000001] 3)) hg3 (by omega)
  clear hg3
  go_wp2_with fail
  refine bodyPost_ret (v := .tuple #[.slice (some ⟨b, 0, none⟩) ps.length c, .int .i64 x]) (by simp [results, Try.results59, go_sem]) rfl ⟨ps, _, _, x, rfl, HF3.out.r2.o, hl, ⟨x0, x1⟩, hb3⟩
end Go.Proofs.Ytgiejiiiokdbpaa
