/- The walks of the exact laws of sums and products. -/
import Derived.Test.YtejhicnejjiaaaaRExact
import Derived.Deep.RegionHeld3
import Derived.Deep.DeepCutAuto
import Derived.Outline
namespace Go.Proofs.Ytejhicnejjiaaaa
open Go.RowKit
theorem bcell {W w1 : World} {B : Nat} (hb : Below B W w1) : (∀ b o, b < B → w1.cell? ⟨b, o, none⟩ = W.cell? ⟨b, o, none⟩) ∧ (∀ b o, b < B → w1.frozen? ⟨b, o, none⟩ = W.frozen? ⟨b, o, none⟩) :=
  ⟨fun b o h => hb.cell (p := ⟨b, o, none⟩) h, fun b o h => hb.frozen (p := ⟨b, o, none⟩) h⟩
/-- Pairs of numbers in blocks, and nothing older than w has turned. -/
def Ks (w : World) (l : List (Nat × Int × Int)) (W : World) : Prop :=
  Below w.heap.size w W ∧ ∀ t ∈ l, W.cell? ⟨t.1, 0, none⟩ = some (.int .i64 t.2.1) ∧ W.cell? ⟨t.1, 1, none⟩ = some (.int .i64 t.2.2) ∧ t.1 < W.heap.size
theorem Ks.below {w W W' : World} {l : List (Nat × Int × Int)} (k : Ks w l W) (hb : Below W.heap.size W W') : Ks w l W' :=
  ⟨k.1.trans (hb.mono k.1.size), fun t ht => by
    obtain ⟨h1, h2, h3⟩ := k.2 t ht
    exact ⟨(hb.cell (p := ⟨t.1, 0, none⟩) h3).trans h1, (hb.cell (p := ⟨t.1, 1, none⟩) h3).trans h2, Nat.lt_of_lt_of_le h3 hb.size⟩⟩
theorem Ks.drew {w W : World} {l : List (Nat × Int × Int)} (k : Ks w l W) : Ks w l W.drew := ⟨k.1.drew, k.2⟩
theorem Ks.alloc {w W : World} {l : List (Nat × Int × Int)} (k : Ks w l W) (o : Obj) : Ks w l (W.alloc o) := k.below ((Below.refl _ _).alloc (Nat.le_refl _) o)
theorem Ks.setCell {w W : World} {l : List (Nat × Int × Int)} (k : Ks w l W) {p : Addr} (hp : ∀ t ∈ l, t.1 < p.block) (hw : w.heap.size ≤ p.block) (u : Value) : Ks w l (W.setCell p u) :=
  ⟨k.1.setCell hw u, fun t ht => by
    obtain ⟨h1, h2, h3⟩ := k.2 t ht
    have hlt := hp t ht
    exact ⟨(World.cell?_of_block (w := W) (a := ⟨t.1, 0, none⟩) (Below.heap_setCell _ _ _ _ (by show t.1 ≠ p.block; omega))).trans h1, (World.cell?_of_block (w := W) (a := ⟨t.1, 1, none⟩) (Below.heap_setCell _ _ _ _ (by show t.1 ≠ p.block; omega))).trans h2, by simpa [World.setCell] using h3⟩⟩
theorem Ks.new (w : World) (a b c d : Int) (T : TypeId) : Ks w [(w.heap.size, a, b), (w.heap.size + 1, c, d)] ((w.alloc (.cells #[.int .i64 a, .int .i64 b] T)).alloc (.cells #[.int .i64 c, .int .i64 d] T)) := by
  have k1 := (Blk.new w #[.int .i64 a, .int .i64 b] T).alloc (.cells #[.int .i64 c, .int .i64 d] T)
  have k2 := Blk.new (w.alloc (.cells #[.int .i64 a, .int .i64 b] T)) #[.int .i64 c, .int .i64 d] T
  simp only [World.size_alloc] at k2
  refine ⟨((Below.refl w.heap.size w).alloc (Nat.le_refl _) _).alloc (by simp) _, fun t ht => ?_⟩
  simp only [List.mem_cons, List.not_mem_nil, or_false] at ht
  rcases ht with rfl | rfl
  · exact ⟨k1.two.1.1, k1.two.1.2, k1.lt⟩
  · exact ⟨k2.two.1.1, k2.two.1.2, k2.lt⟩
theorem Ks.add {w W : World} {l : List (Nat × Int × Int)} (k : Ks w l W) {B : Nat} {p q : Int} (h0 : W.cell? ⟨B, 0, none⟩ = some (.int .i64 p)) (h1 : W.cell? ⟨B, 1, none⟩ = some (.int .i64 q)) (h2 : B < W.heap.size) : Ks w (l ++ [(B, p, q)]) W :=
  ⟨k.1, fun t ht => by
    rcases List.mem_append.1 ht with h | h
    · exact k.2 t h
    · simp only [List.mem_cons, List.not_mem_nil, or_false] at h
      subst h
      exact ⟨h0, h1, h2⟩⟩
theorem bx {W W' : World} {g B : Nat} {T : TypeId} {x y : Value} (h : Blk W g T #[x, y]) (hb : Below B W W') (hlt : g < B) : Blk W' g T #[x, y] ∧ W'.cell? ⟨g, 0, none⟩ = some x ∧ W'.cell? ⟨g, 1, none⟩ = some y ∧ W'.frozen? ⟨g, 0, none⟩ = false ∧ W'.frozen? ⟨g, 1, none⟩ = false ∧ g < W'.heap.size := by
  have h' := h.below hb hlt
  refine ⟨h', h'.two.1.1, h'.two.1.2, ?_, ?_, h'.lt⟩ <;> (have e : W'.heap[g]? = _ := h'; simp [World.frozen?, e])
theorem blkDrew {w : World} {b : Nat} {t : TypeId} {cs : Array Value} (h : Blk w b t cs) : Blk w.drew b t cs := h
theorem blkSet0 {W : World} {g : Nat} {T : TypeId} {x y : Value} (h : Blk W g T #[x, y]) (p : Value) : Blk (W.setCell ⟨g, 0, none⟩ p) g T #[p, y] := by
  unfold Blk at *
  simp only [World.setCell, Array.getElem?_modify, if_true, h]
  simp
theorem blkSet1 {W : World} {g : Nat} {T : TypeId} {x y : Value} (h : Blk W g T #[x, y]) (q : Value) : Blk (W.setCell ⟨g, 1, none⟩ q) g T #[x, q] := by
  unfold Blk at *
  simp only [World.setCell, Array.getElem?_modify, if_true, h]
  simp
theorem wrote {W : World} {g : Nat} {T : TypeId} {x y p q : Value} (h : Blk W g T #[x, y]) : ((W.setCell ⟨g, 0, none⟩ p).setCell ⟨g, 1, none⟩ q).cell? ⟨g, 0, none⟩ = some p ∧ ((W.setCell ⟨g, 0, none⟩ p).setCell ⟨g, 1, none⟩ q).cell? ⟨g, 1, none⟩ = some q ∧ g < ((W.setCell ⟨g, 0, none⟩ p).setCell ⟨g, 1, none⟩ q).heap.size :=
  have h2 := blkSet1 (blkSet0 h p) q
  ⟨h2.two.1.1, h2.two.1.2, h2.lt⟩
/-- What a pair's statement leaves: a new block with the pair, and the bool. -/
def Left (w : World) (l : List (Nat × Int × Int)) (p q : Int) (r : Bool) (s t : Value) (W : World) : Prop :=
  ∃ B : Nat, s = .pointer (some ⟨B, 0, none⟩) ∧ t = .bool r ∧ Ks w (l ++ [(B, p, q)]) W
theorem fourOf {w W : World} {g h : Nat} {a b c d : Int} {l : List (Nat × Int × Int)} (k : Ks w ((g, a, b) :: (h, c, d) :: l) W) : W.cell? ⟨g, 0, none⟩ = some (.int .i64 a) ∧ W.cell? ⟨g, 1, none⟩ = some (.int .i64 b) ∧ W.cell? ⟨h, 0, none⟩ = some (.int .i64 c) ∧ W.cell? ⟨h, 1, none⟩ = some (.int .i64 d) := by
  have h1 := k.2 (g, a, b) (by simp)
  have h2 := k.2 (h, c, d) (by simp)
  exact ⟨h1.1, h1.2.1, h2.1, h2.2.1⟩
set_option maxHeartbeats 4000000 in
theorem exAddRatio (a b c d : Int) (w : World) :
    Calls Try.prog 11 #[.agg #[.int .i64 a, .int .i64 b], .agg #[.int .i64 c, .int .i64 d]] w fun e w' => e = .returned (.bool true) ∧ Below w.heap.size w w' := by
  obtain ⟨p, q, r, hV⟩ := addRV_form a b c d
  have hbb : (r != r) = false := by simp
  have SP := Lib.hid (fun W => show Calls Try.prog 20 #[.agg #[.int .i64 a, .int .i64 b], .agg #[.int .i64 c, .int .i64 d]] W fun e w' => e = .returned (.tuple #[.agg #[.int .i64 p, .int .i64 q], .bool r]) ∧ Below W.heap.size W w' from hV ▸ sAddR_any a b c d W)
  have IM := Lib.hid (fun W => show Calls Try.prog 19 #[.agg #[.int .i64 a, .int .i64 b], .agg #[.int .i64 c, .int .i64 d]] W fun e w' => e = .returned (.tuple #[.agg #[.int .i64 p, .int .i64 q], .bool r]) ∧ Below W.heap.size W w' from hV ▸ addR_any a b c d W)
  clear hV
  have K := Lib.hid (Ks.new w a b c d 41)
  go_enter Try.func11, Try.ntmps11
  go_upto_region 1 with fail
  go_cut [5, 6] (fun s5 s6 wx => Left w [(w.heap.size, a, b), (w.heap.size + 1, c, d)] p q r s5 s6 wx)
  case first =>
    go_region_held3 (fun w' => w'.cell? ⟨w.heap.size, 0, none⟩ = some (.int .i64 a) ∧ w'.cell? ⟨w.heap.size, 1, none⟩ = some (.int .i64 b) ∧ w'.cell? ⟨w.heap.size + 1, 0, none⟩ = some (.int .i64 c) ∧ w'.cell? ⟨w.heap.size + 1, 1, none⟩ = some (.int .i64 d)) (first | exact fourOf k3 | exact fourOf (k3.alloc _) | exact fourOf k2 | exact fourOf (k2.alloc _) | exact fourOf k1 | exact fourOf (k1.alloc _) | exact fourOf K.out.drew | exact fourOf (K.out.drew.alloc _) | exact fourOf (K.out.alloc _).drew | exact fourOf ((k3.setCell (fun t ht => by (simp only [List.mem_cons, List.not_mem_nil, or_false] at ht; rcases ht with rfl | rfl <;> (simp <;> omega))) (by simp <;> omega) _).setCell (fun t ht => by (simp only [List.mem_cons, List.not_mem_nil, or_false] at ht; rcases ht with rfl | rfl <;> (simp <;> omega))) (by simp <;> omega) _))
      (first | (go_at_call 32; with_reducible refine (toRatio_any a b _).mono ?_; rintro e w1 ⟨rfl, hb1⟩; obtain ⟨hc1, hf1⟩ := bcell hb1; have hs1 := hb1.size; (try simp at hs1); (try have m1 : w.heap.size + 1 + 1 < w1.heap.size := by omega); (first | (have hz1 := bx (Blk.new _ #[.int .i64 0, .int .i64 0] 26) hb1 (by simp); obtain ⟨z1, za1, zb1, zc1, zd1, ze1⟩ := hz1; (try simp at z1); (try simp at za1); (try simp at zb1); (try simp at zc1); (try simp at zd1); (try simp at ze1)) | (have hz1 := bx (blkDrew (Blk.new _ #[.int .i64 0, .int .i64 0] 26)) hb1 (by simp); obtain ⟨z1, za1, zb1, zc1, zd1, ze1⟩ := hz1; (try simp at z1); (try simp at za1); (try simp at zb1); (try simp at zc1); (try simp at zd1); (try simp at ze1)) | skip); have k1 : Ks w ([(w.heap.size, a, b), (w.heap.size + 1, c, d)]) w1 := Ks.below (by first | exact K.out.drew | exact K.out.drew.alloc _ | exact (K.out.alloc _).drew) hb1) | (go_at_call 32; with_reducible refine (toRatio_any c d _).mono ?_; rintro e w2 ⟨rfl, hb2⟩; obtain ⟨hc2, hf2⟩ := bcell hb2; have hs2 := hb2.size; (try simp at hs2); (try have m2 : w.heap.size + 1 + 1 < w2.heap.size := by omega); (try have m2b : w1.heap.size < w2.heap.size := by omega); (first | (have hz2 := bx z1 hb2 (by exact ze1); obtain ⟨z2, za2, zb2, zc2, zd2, ze2⟩ := hz2) | (have hz2 := bx (Blk.new _ #[.int .i64 0, .int .i64 0] 26) hb2 (by simp); obtain ⟨z2, za2, zb2, zc2, zd2, ze2⟩ := hz2; (try simp at z2); (try simp at za2); (try simp at zb2); (try simp at zc2); (try simp at zd2); (try simp at ze2)) | (have hz2 := bx (blkDrew (Blk.new _ #[.int .i64 0, .int .i64 0] 26)) hb2 (by simp); obtain ⟨z2, za2, zb2, zc2, zd2, ze2⟩ := hz2; (try simp at z2); (try simp at za2); (try simp at zb2); (try simp at zc2); (try simp at zd2); (try simp at ze2)) | skip); have k2 : Ks w ([(w.heap.size, a, b), (w.heap.size + 1, c, d)]) w2 := Ks.below (by first | exact k1 | exact k1.alloc _) hb2) | (go_at_call 20; refine (SP.out _).mono ?_; rintro e w3 ⟨rfl, hb3⟩; obtain ⟨hc3, hf3⟩ := bcell hb3; have hs3 := hb3.size; (try simp at hs3); (try have m3 : w.heap.size + 1 + 1 < w3.heap.size := by omega); (try have m3b : w1.heap.size < w3.heap.size := by omega); (try have m3c : w2.heap.size < w3.heap.size := by omega); (first | (have hz3 := bx z2 hb3 (by exact ze2); obtain ⟨z3, za3, zb3, zc3, zd3, ze3⟩ := hz3) | (have hz3 := bx (Blk.new _ #[.int .i64 0, .int .i64 0] 26) hb3 (by simp); obtain ⟨z3, za3, zb3, zc3, zd3, ze3⟩ := hz3; (try simp at z3); (try simp at za3); (try simp at zb3); (try simp at zc3); (try simp at zd3); (try simp at ze3)) | (have hz3 := bx (blkDrew (Blk.new _ #[.int .i64 0, .int .i64 0] 26)) hb3 (by simp); obtain ⟨z3, za3, zb3, zc3, zd3, ze3⟩ := hz3; (try simp at z3); (try simp at za3); (try simp at zb3); (try simp at zc3); (try simp at zd3); (try simp at ze3)) | skip); have k3 : Ks w ([(w.heap.size, a, b), (w.heap.size + 1, c, d)]) w3 := Ks.below (by first | exact k2 | exact k2.alloc _) hb3))
    all_goals
      go_wp2_with fail
      go_meet
      refine ⟨_, rfl, rfl, Ks.add ?_ ?_ ?_ ?_⟩
      · first | exact k3.alloc _ | exact (k3.setCell (fun t ht => by (simp only [List.mem_cons, List.not_mem_nil, or_false] at ht; rcases ht with rfl | rfl <;> (simp <;> omega))) (by simp <;> omega) _).setCell (fun t ht => by (simp only [List.mem_cons, List.not_mem_nil, or_false] at ht; rcases ht with rfl | rfl <;> (simp <;> omega))) (by simp <;> omega) _
      all_goals first | (simp; done) | exact (wrote z3).1 | exact (wrote z3).2.1 | exact (wrote z3).2.2 | trace_state
  case rest =>
    obtain ⟨B, rfl, rfl, hk⟩ := hcut
    replace hk : Ks w [(w.heap.size, a, b), (w.heap.size + 1, c, d), (B, p, q)] wc := hk
    have hkl : B < wc.heap.size := (hk.2 (B, p, q) (by simp)).2.2
    have hkg : w.heap.size + 1 < wc.heap.size := (hk.2 (w.heap.size + 1, c, d) (by simp)).2.2
    go_upto_region 2 with fail
    go_cut [7, 8] (fun s7 s8 wx => Left w [(w.heap.size, a, b), (w.heap.size + 1, c, d), (B, p, q)] p q r s7 s8 wx)
    case first =>
      go_region_held3 (fun w' => w'.cell? ⟨w.heap.size, 0, none⟩ = some (.int .i64 a) ∧ w'.cell? ⟨w.heap.size, 1, none⟩ = some (.int .i64 b) ∧ w'.cell? ⟨w.heap.size + 1, 0, none⟩ = some (.int .i64 c) ∧ w'.cell? ⟨w.heap.size + 1, 1, none⟩ = some (.int .i64 d)) (first | exact fourOf k6 | exact fourOf (k6.alloc _) | exact fourOf k5 | exact fourOf (k5.alloc _) | exact fourOf k4 | exact fourOf (k4.alloc _) | exact fourOf hk.drew | exact fourOf (hk.drew.alloc _) | exact fourOf (hk.alloc _).drew | exact fourOf ((k6.setCell (fun t ht => by (simp only [List.mem_cons, List.not_mem_nil, or_false] at ht; rcases ht with rfl | rfl | rfl <;> (simp <;> omega))) (by simp <;> omega) _).setCell (fun t ht => by (simp only [List.mem_cons, List.not_mem_nil, or_false] at ht; rcases ht with rfl | rfl | rfl <;> (simp <;> omega))) (by simp <;> omega) _))
        (first | (go_at_call 32; with_reducible refine (toRatio_any a b _).mono ?_; rintro e w4 ⟨rfl, hb4⟩; obtain ⟨hc4, hf4⟩ := bcell hb4; have hs4 := hb4.size; (try simp at hs4); (try have m4 : w.heap.size + 1 + 1 < w4.heap.size := by omega); (first | (have hz4 := bx (Blk.new _ #[.int .i64 0, .int .i64 0] 26) hb4 (by simp); obtain ⟨z4, za4, zb4, zc4, zd4, ze4⟩ := hz4; (try simp at z4); (try simp at za4); (try simp at zb4); (try simp at zc4); (try simp at zd4); (try simp at ze4)) | (have hz4 := bx (blkDrew (Blk.new _ #[.int .i64 0, .int .i64 0] 26)) hb4 (by simp); obtain ⟨z4, za4, zb4, zc4, zd4, ze4⟩ := hz4; (try simp at z4); (try simp at za4); (try simp at zb4); (try simp at zc4); (try simp at zd4); (try simp at ze4)) | skip); have k4 : Ks w ([(w.heap.size, a, b), (w.heap.size + 1, c, d), (B, p, q)]) w4 := Ks.below (by first | exact hk.drew | exact hk.drew.alloc _ | exact (hk.alloc _).drew) hb4) | (go_at_call 32; with_reducible refine (toRatio_any c d _).mono ?_; rintro e w5 ⟨rfl, hb5⟩; obtain ⟨hc5, hf5⟩ := bcell hb5; have hs5 := hb5.size; (try simp at hs5); (try have m5 : w.heap.size + 1 + 1 < w5.heap.size := by omega); (try have m5b : w4.heap.size < w5.heap.size := by omega); (first | (have hz5 := bx z4 hb5 (by exact ze4); obtain ⟨z5, za5, zb5, zc5, zd5, ze5⟩ := hz5) | (have hz5 := bx (Blk.new _ #[.int .i64 0, .int .i64 0] 26) hb5 (by simp); obtain ⟨z5, za5, zb5, zc5, zd5, ze5⟩ := hz5; (try simp at z5); (try simp at za5); (try simp at zb5); (try simp at zc5); (try simp at zd5); (try simp at ze5)) | (have hz5 := bx (blkDrew (Blk.new _ #[.int .i64 0, .int .i64 0] 26)) hb5 (by simp); obtain ⟨z5, za5, zb5, zc5, zd5, ze5⟩ := hz5; (try simp at z5); (try simp at za5); (try simp at zb5); (try simp at zc5); (try simp at zd5); (try simp at ze5)) | skip); have k5 : Ks w ([(w.heap.size, a, b), (w.heap.size + 1, c, d), (B, p, q)]) w5 := Ks.below (by first | exact k4 | exact k4.alloc _) hb5) | (go_at_call 19; refine (IM.out _).mono ?_; rintro e w6 ⟨rfl, hb6⟩; obtain ⟨hc6, hf6⟩ := bcell hb6; have hs6 := hb6.size; (try simp at hs6); (try have m6 : w.heap.size + 1 + 1 < w6.heap.size := by omega); (try have m6b : w4.heap.size < w6.heap.size := by omega); (try have m6c : w5.heap.size < w6.heap.size := by omega); (first | (have hz6 := bx z5 hb6 (by exact ze5); obtain ⟨z6, za6, zb6, zc6, zd6, ze6⟩ := hz6) | (have hz6 := bx (Blk.new _ #[.int .i64 0, .int .i64 0] 26) hb6 (by simp); obtain ⟨z6, za6, zb6, zc6, zd6, ze6⟩ := hz6; (try simp at z6); (try simp at za6); (try simp at zb6); (try simp at zc6); (try simp at zd6); (try simp at ze6)) | (have hz6 := bx (blkDrew (Blk.new _ #[.int .i64 0, .int .i64 0] 26)) hb6 (by simp); obtain ⟨z6, za6, zb6, zc6, zd6, ze6⟩ := hz6; (try simp at z6); (try simp at za6); (try simp at zb6); (try simp at zc6); (try simp at zd6); (try simp at ze6)) | skip); have k6 : Ks w ([(w.heap.size, a, b), (w.heap.size + 1, c, d), (B, p, q)]) w6 := Ks.below (by first | exact k5 | exact k5.alloc _) hb6))
      all_goals
        go_wp2_with fail
        go_meet
        refine ⟨_, rfl, rfl, Ks.add ?_ ?_ ?_ ?_⟩
        · first | exact k6.alloc _ | exact (k6.setCell (fun t ht => by (simp only [List.mem_cons, List.not_mem_nil, or_false] at ht; rcases ht with rfl | rfl | rfl <;> (simp <;> omega))) (by simp <;> omega) _).setCell (fun t ht => by (simp only [List.mem_cons, List.not_mem_nil, or_false] at ht; rcases ht with rfl | rfl | rfl <;> (simp <;> omega))) (by simp <;> omega) _
        all_goals first | (simp; done) | exact (wrote z6).1 | exact (wrote z6).2.1 | exact (wrote z6).2.2 | trace_state
    case rest =>
      obtain ⟨B2, rfl, rfl, hk2⟩ := hcut
      replace hk2 : Ks w [(w.heap.size, a, b), (w.heap.size + 1, c, d), (B, p, q), (B2, p, q)] wc := hk2
      have h5 := hk2.2 (B, p, q) (by simp)
      have h7 := hk2.2 (B2, p, q) (by simp)
      obtain ⟨h50, h51, -⟩ := h5
      obtain ⟨h70, h71, -⟩ := h7
      have hbl := hk2.1
      clear hk2 hk hkl hkg K SP IM
      go_wp2_with fail
      with_reducible refine (eqRatio_same p q _).mono ?_
      rintro e w7 ⟨rfl, hb7⟩
      have hbl7 : Below w.heap.size w w7 := hbl.trans (hb7.mono hbl.size)
      clear hb7 hbl
      go_wp2_with fail
      go_ret
      exact ⟨rfl, by assumption⟩
set_option maxHeartbeats 4000000 in
theorem exMulRatio (a b c d : Int) (w : World) :
    Calls Try.prog 12 #[.agg #[.int .i64 a, .int .i64 b], .agg #[.int .i64 c, .int .i64 d]] w fun e w' => e = .returned (.bool true) ∧ Below w.heap.size w w' := by
  obtain ⟨p, q, r, hV⟩ := mulRV_form a b c d
  have hbb : (r != r) = false := by simp
  have SP := Lib.hid (fun W => show Calls Try.prog 23 #[.agg #[.int .i64 a, .int .i64 b], .agg #[.int .i64 c, .int .i64 d]] W fun e w' => e = .returned (.tuple #[.agg #[.int .i64 p, .int .i64 q], .bool r]) ∧ Below W.heap.size W w' from hV ▸ sMulR_any a b c d W)
  have IM := Lib.hid (fun W => show Calls Try.prog 22 #[.agg #[.int .i64 a, .int .i64 b], .agg #[.int .i64 c, .int .i64 d]] W fun e w' => e = .returned (.tuple #[.agg #[.int .i64 p, .int .i64 q], .bool r]) ∧ Below W.heap.size W w' from hV ▸ mulR_any a b c d W)
  clear hV
  have K := Lib.hid (Ks.new w a b c d 41)
  go_enter Try.func12, Try.ntmps12
  go_upto_region 1 with fail
  go_cut [5, 6] (fun s5 s6 wx => Left w [(w.heap.size, a, b), (w.heap.size + 1, c, d)] p q r s5 s6 wx)
  case first =>
    go_region_held3 (fun w' => w'.cell? ⟨w.heap.size, 0, none⟩ = some (.int .i64 a) ∧ w'.cell? ⟨w.heap.size, 1, none⟩ = some (.int .i64 b) ∧ w'.cell? ⟨w.heap.size + 1, 0, none⟩ = some (.int .i64 c) ∧ w'.cell? ⟨w.heap.size + 1, 1, none⟩ = some (.int .i64 d)) (first | exact fourOf k3 | exact fourOf (k3.alloc _) | exact fourOf k2 | exact fourOf (k2.alloc _) | exact fourOf k1 | exact fourOf (k1.alloc _) | exact fourOf K.out.drew | exact fourOf (K.out.drew.alloc _) | exact fourOf (K.out.alloc _).drew | exact fourOf ((k3.setCell (fun t ht => by (simp only [List.mem_cons, List.not_mem_nil, or_false] at ht; rcases ht with rfl | rfl <;> (simp <;> omega))) (by simp <;> omega) _).setCell (fun t ht => by (simp only [List.mem_cons, List.not_mem_nil, or_false] at ht; rcases ht with rfl | rfl <;> (simp <;> omega))) (by simp <;> omega) _))
      (first | (go_at_call 32; with_reducible refine (toRatio_any a b _).mono ?_; rintro e w1 ⟨rfl, hb1⟩; obtain ⟨hc1, hf1⟩ := bcell hb1; have hs1 := hb1.size; (try simp at hs1); (try have m1 : w.heap.size + 1 + 1 < w1.heap.size := by omega); (first | (have hz1 := bx (Blk.new _ #[.int .i64 0, .int .i64 0] 26) hb1 (by simp); obtain ⟨z1, za1, zb1, zc1, zd1, ze1⟩ := hz1; (try simp at z1); (try simp at za1); (try simp at zb1); (try simp at zc1); (try simp at zd1); (try simp at ze1)) | (have hz1 := bx (blkDrew (Blk.new _ #[.int .i64 0, .int .i64 0] 26)) hb1 (by simp); obtain ⟨z1, za1, zb1, zc1, zd1, ze1⟩ := hz1; (try simp at z1); (try simp at za1); (try simp at zb1); (try simp at zc1); (try simp at zd1); (try simp at ze1)) | skip); have k1 : Ks w ([(w.heap.size, a, b), (w.heap.size + 1, c, d)]) w1 := Ks.below (by first | exact K.out.drew | exact K.out.drew.alloc _ | exact (K.out.alloc _).drew) hb1) | (go_at_call 32; with_reducible refine (toRatio_any c d _).mono ?_; rintro e w2 ⟨rfl, hb2⟩; obtain ⟨hc2, hf2⟩ := bcell hb2; have hs2 := hb2.size; (try simp at hs2); (try have m2 : w.heap.size + 1 + 1 < w2.heap.size := by omega); (try have m2b : w1.heap.size < w2.heap.size := by omega); (first | (have hz2 := bx z1 hb2 (by exact ze1); obtain ⟨z2, za2, zb2, zc2, zd2, ze2⟩ := hz2) | (have hz2 := bx (Blk.new _ #[.int .i64 0, .int .i64 0] 26) hb2 (by simp); obtain ⟨z2, za2, zb2, zc2, zd2, ze2⟩ := hz2; (try simp at z2); (try simp at za2); (try simp at zb2); (try simp at zc2); (try simp at zd2); (try simp at ze2)) | (have hz2 := bx (blkDrew (Blk.new _ #[.int .i64 0, .int .i64 0] 26)) hb2 (by simp); obtain ⟨z2, za2, zb2, zc2, zd2, ze2⟩ := hz2; (try simp at z2); (try simp at za2); (try simp at zb2); (try simp at zc2); (try simp at zd2); (try simp at ze2)) | skip); have k2 : Ks w ([(w.heap.size, a, b), (w.heap.size + 1, c, d)]) w2 := Ks.below (by first | exact k1 | exact k1.alloc _) hb2) | (go_at_call 23; refine (SP.out _).mono ?_; rintro e w3 ⟨rfl, hb3⟩; obtain ⟨hc3, hf3⟩ := bcell hb3; have hs3 := hb3.size; (try simp at hs3); (try have m3 : w.heap.size + 1 + 1 < w3.heap.size := by omega); (try have m3b : w1.heap.size < w3.heap.size := by omega); (try have m3c : w2.heap.size < w3.heap.size := by omega); (first | (have hz3 := bx z2 hb3 (by exact ze2); obtain ⟨z3, za3, zb3, zc3, zd3, ze3⟩ := hz3) | (have hz3 := bx (Blk.new _ #[.int .i64 0, .int .i64 0] 26) hb3 (by simp); obtain ⟨z3, za3, zb3, zc3, zd3, ze3⟩ := hz3; (try simp at z3); (try simp at za3); (try simp at zb3); (try simp at zc3); (try simp at zd3); (try simp at ze3)) | (have hz3 := bx (blkDrew (Blk.new _ #[.int .i64 0, .int .i64 0] 26)) hb3 (by simp); obtain ⟨z3, za3, zb3, zc3, zd3, ze3⟩ := hz3; (try simp at z3); (try simp at za3); (try simp at zb3); (try simp at zc3); (try simp at zd3); (try simp at ze3)) | skip); have k3 : Ks w ([(w.heap.size, a, b), (w.heap.size + 1, c, d)]) w3 := Ks.below (by first | exact k2 | exact k2.alloc _) hb3))
    all_goals
      go_wp2_with fail
      go_meet
      refine ⟨_, rfl, rfl, Ks.add ?_ ?_ ?_ ?_⟩
      · first | exact k3.alloc _ | exact (k3.setCell (fun t ht => by (simp only [List.mem_cons, List.not_mem_nil, or_false] at ht; rcases ht with rfl | rfl <;> (simp <;> omega))) (by simp <;> omega) _).setCell (fun t ht => by (simp only [List.mem_cons, List.not_mem_nil, or_false] at ht; rcases ht with rfl | rfl <;> (simp <;> omega))) (by simp <;> omega) _
      all_goals first | (simp; done) | exact (wrote z3).1 | exact (wrote z3).2.1 | exact (wrote z3).2.2 | trace_state
  case rest =>
    obtain ⟨B, rfl, rfl, hk⟩ := hcut
    replace hk : Ks w [(w.heap.size, a, b), (w.heap.size + 1, c, d), (B, p, q)] wc := hk
    have hkl : B < wc.heap.size := (hk.2 (B, p, q) (by simp)).2.2
    have hkg : w.heap.size + 1 < wc.heap.size := (hk.2 (w.heap.size + 1, c, d) (by simp)).2.2
    go_upto_region 2 with fail
    go_cut [7, 8] (fun s7 s8 wx => Left w [(w.heap.size, a, b), (w.heap.size + 1, c, d), (B, p, q)] p q r s7 s8 wx)
    case first =>
      go_region_held3 (fun w' => w'.cell? ⟨w.heap.size, 0, none⟩ = some (.int .i64 a) ∧ w'.cell? ⟨w.heap.size, 1, none⟩ = some (.int .i64 b) ∧ w'.cell? ⟨w.heap.size + 1, 0, none⟩ = some (.int .i64 c) ∧ w'.cell? ⟨w.heap.size + 1, 1, none⟩ = some (.int .i64 d)) (first | exact fourOf k6 | exact fourOf (k6.alloc _) | exact fourOf k5 | exact fourOf (k5.alloc _) | exact fourOf k4 | exact fourOf (k4.alloc _) | exact fourOf hk.drew | exact fourOf (hk.drew.alloc _) | exact fourOf (hk.alloc _).drew | exact fourOf ((k6.setCell (fun t ht => by (simp only [List.mem_cons, List.not_mem_nil, or_false] at ht; rcases ht with rfl | rfl | rfl <;> (simp <;> omega))) (by simp <;> omega) _).setCell (fun t ht => by (simp only [List.mem_cons, List.not_mem_nil, or_false] at ht; rcases ht with rfl | rfl | rfl <;> (simp <;> omega))) (by simp <;> omega) _))
        (first | (go_at_call 32; with_reducible refine (toRatio_any a b _).mono ?_; rintro e w4 ⟨rfl, hb4⟩; obtain ⟨hc4, hf4⟩ := bcell hb4; have hs4 := hb4.size; (try simp at hs4); (try have m4 : w.heap.size + 1 + 1 < w4.heap.size := by omega); (first | (have hz4 := bx (Blk.new _ #[.int .i64 0, .int .i64 0] 26) hb4 (by simp); obtain ⟨z4, za4, zb4, zc4, zd4, ze4⟩ := hz4; (try simp at z4); (try simp at za4); (try simp at zb4); (try simp at zc4); (try simp at zd4); (try simp at ze4)) | (have hz4 := bx (blkDrew (Blk.new _ #[.int .i64 0, .int .i64 0] 26)) hb4 (by simp); obtain ⟨z4, za4, zb4, zc4, zd4, ze4⟩ := hz4; (try simp at z4); (try simp at za4); (try simp at zb4); (try simp at zc4); (try simp at zd4); (try simp at ze4)) | skip); have k4 : Ks w ([(w.heap.size, a, b), (w.heap.size + 1, c, d), (B, p, q)]) w4 := Ks.below (by first | exact hk.drew | exact hk.drew.alloc _ | exact (hk.alloc _).drew) hb4) | (go_at_call 32; with_reducible refine (toRatio_any c d _).mono ?_; rintro e w5 ⟨rfl, hb5⟩; obtain ⟨hc5, hf5⟩ := bcell hb5; have hs5 := hb5.size; (try simp at hs5); (try have m5 : w.heap.size + 1 + 1 < w5.heap.size := by omega); (try have m5b : w4.heap.size < w5.heap.size := by omega); (first | (have hz5 := bx z4 hb5 (by exact ze4); obtain ⟨z5, za5, zb5, zc5, zd5, ze5⟩ := hz5) | (have hz5 := bx (Blk.new _ #[.int .i64 0, .int .i64 0] 26) hb5 (by simp); obtain ⟨z5, za5, zb5, zc5, zd5, ze5⟩ := hz5; (try simp at z5); (try simp at za5); (try simp at zb5); (try simp at zc5); (try simp at zd5); (try simp at ze5)) | (have hz5 := bx (blkDrew (Blk.new _ #[.int .i64 0, .int .i64 0] 26)) hb5 (by simp); obtain ⟨z5, za5, zb5, zc5, zd5, ze5⟩ := hz5; (try simp at z5); (try simp at za5); (try simp at zb5); (try simp at zc5); (try simp at zd5); (try simp at ze5)) | skip); have k5 : Ks w ([(w.heap.size, a, b), (w.heap.size + 1, c, d), (B, p, q)]) w5 := Ks.below (by first | exact k4 | exact k4.alloc _) hb5) | (go_at_call 22; refine (IM.out _).mono ?_; rintro e w6 ⟨rfl, hb6⟩; obtain ⟨hc6, hf6⟩ := bcell hb6; have hs6 := hb6.size; (try simp at hs6); (try have m6 : w.heap.size + 1 + 1 < w6.heap.size := by omega); (try have m6b : w4.heap.size < w6.heap.size := by omega); (try have m6c : w5.heap.size < w6.heap.size := by omega); (first | (have hz6 := bx z5 hb6 (by exact ze5); obtain ⟨z6, za6, zb6, zc6, zd6, ze6⟩ := hz6) | (have hz6 := bx (Blk.new _ #[.int .i64 0, .int .i64 0] 26) hb6 (by simp); obtain ⟨z6, za6, zb6, zc6, zd6, ze6⟩ := hz6; (try simp at z6); (try simp at za6); (try simp at zb6); (try simp at zc6); (try simp at zd6); (try simp at ze6)) | (have hz6 := bx (blkDrew (Blk.new _ #[.int .i64 0, .int .i64 0] 26)) hb6 (by simp); obtain ⟨z6, za6, zb6, zc6, zd6, ze6⟩ := hz6; (try simp at z6); (try simp at za6); (try simp at zb6); (try simp at zc6); (try simp at zd6); (try simp at ze6)) | skip); have k6 : Ks w ([(w.heap.size, a, b), (w.heap.size + 1, c, d), (B, p, q)]) w6 := Ks.below (by first | exact k5 | exact k5.alloc _) hb6))
      all_goals
        go_wp2_with fail
        go_meet
        refine ⟨_, rfl, rfl, Ks.add ?_ ?_ ?_ ?_⟩
        · first | exact k6.alloc _ | exact (k6.setCell (fun t ht => by (simp only [List.mem_cons, List.not_mem_nil, or_false] at ht; rcases ht with rfl | rfl | rfl <;> (simp <;> omega))) (by simp <;> omega) _).setCell (fun t ht => by (simp only [List.mem_cons, List.not_mem_nil, or_false] at ht; rcases ht with rfl | rfl | rfl <;> (simp <;> omega))) (by simp <;> omega) _
        all_goals first | (simp; done) | exact (wrote z6).1 | exact (wrote z6).2.1 | exact (wrote z6).2.2 | trace_state
    case rest =>
      obtain ⟨B2, rfl, rfl, hk2⟩ := hcut
      replace hk2 : Ks w [(w.heap.size, a, b), (w.heap.size + 1, c, d), (B, p, q), (B2, p, q)] wc := hk2
      have h5 := hk2.2 (B, p, q) (by simp)
      have h7 := hk2.2 (B2, p, q) (by simp)
      obtain ⟨h50, h51, -⟩ := h5
      obtain ⟨h70, h71, -⟩ := h7
      have hbl := hk2.1
      clear hk2 hk hkl hkg K SP IM
      go_wp2_with fail
      with_reducible refine (eqRatio_same p q _).mono ?_
      rintro e w7 ⟨rfl, hb7⟩
      have hbl7 : Below w.heap.size w w7 := hbl.trans (hb7.mono hbl.size)
      clear hb7 hbl
      go_wp2_with fail
      go_ret
      exact ⟨rfl, by assumption⟩
end Go.Proofs.Ytejhicnejjiaaaa
