/- The walks of the exact laws of ranges: what they share. -/
import Derived.Test.YtdmamojidefdaaaDoorRgu
import Derived.Deep.RegionHeld3
import Derived.Deep.DeepCutAuto
import Derived.Outline
namespace Go.Proofs.YtdmamojidefdaaaDoor
open Go.RowKit
theorem tvx_form (r : Rg.R) : ∃ x y t, tv r = .tuple #[rV x y, .bool t] := ⟨_, _, _, rfl⟩
set_option maxHeartbeats 400000 in
theorem eqRange_same (p q : Int) (w : World) :
    Calls Tryd.prog 13 #[rV p q, rV p q] w fun e w' => e = .returned (.bool true) ∧ Below w.heap.size w w' := by
  have e1 : (p != p) = false := by simp
  have e2 : (q != q) = false := by simp
  go_enter Tryd.func13, Tryd.ntmps13
  go_wp2_with fail
  go_ret
  exact ⟨rfl, ((Below.refl _ _).alloc (Nat.le_refl _) _).alloc (by simp) _⟩
set_option maxHeartbeats 400000 in
theorem toRange_any (p q : Int) (w : World) :
    Calls Tryd.prog 12 #[rV p q] w fun e w' => e = .returned (rV p q) ∧ Below w.heap.size w w' := by
  go_enter Tryd.func12, Tryd.ntmps12
  go_wp2
  refine bodyPost_ret (v := rV p q) (by simp [results, Tryd.results12, go_sem]) rfl ⟨rfl, ?_⟩
  exact (((Below.refl _ _).alloc (Nat.le_refl _) _).alloc (by simp) _).alloc (by simp; omega) _
theorem bcell {W w1 : World} {B : Nat} (hb : Below B W w1) : (∀ b o, b < B → w1.cell? ⟨b, o, none⟩ = W.cell? ⟨b, o, none⟩) ∧ (∀ b o, b < B → w1.frozen? ⟨b, o, none⟩ = W.frozen? ⟨b, o, none⟩) :=
  ⟨fun b o h => hb.cell (p := ⟨b, o, none⟩) h, fun b o h => hb.frozen (p := ⟨b, o, none⟩) h⟩
/-- Pairs of numbers in blocks, and nothing older than w has turned. -/
def Ks (w : World) (l : List (Nat × Int × Int)) (W : World) : Prop :=
  Below w.heap.size w W ∧ ∀ t ∈ l, W.cell? ⟨t.1, 0, none⟩ = some (.int .i64 t.2.1) ∧ W.cell? ⟨t.1, 1, none⟩ = some (.int .i64 t.2.2) ∧ t.1 < W.heap.size
theorem Ks.below {w W W' : World} {l : List (Nat × Int × Int)} (k : Ks w l W) (hb : Below W.heap.size W W') : Ks w l W' :=
  ⟨k.1.trans (hb.mono k.1.size), fun t ht => by
    obtain ⟨h1, h2, h3⟩ := k.2 t ht
    exact ⟨(hb.cell (p := ⟨t.1, 0, none⟩) h3).trans h1, (hb.cell (p := ⟨t.1, 1, none⟩) h3).trans h2, Nat.lt_of_lt_of_le h3 hb.size⟩⟩
theorem Ks.drew {w W : World} {l : List (Nat × Int × Int)} (k : Ks w l W) : Ks w l W.drew := ⟨k.1.drew, k.2⟩
theorem Ks.alloc {w W : World} {l : List (Nat × Int × Int)} (k : Ks w l W) (o : Obj) : Ks w l (W.alloc o) := k.below ((Below.refl _ _).alloc (Nat.le_refl _) o)
theorem Ks.setCell {w W : World} {l : List (Nat × Int × Int)} (k : Ks w l W) {p : Addr} (hp : ∀ t ∈ l, t.1 < p.block) (hw : w.heap.size ≤ p.block) (u : Value) : Ks w l (W.setCell p u) :=
  ⟨k.1.setCell hw u, fun t ht => by
    obtain ⟨h1, h2, h3⟩ := k.2 t ht
    have hlt := hp t ht
    exact ⟨(World.cell?_of_block (w := W) (a := ⟨t.1, 0, none⟩) (Below.heap_setCell _ _ _ _ (by show t.1 ≠ p.block; omega))).trans h1, (World.cell?_of_block (w := W) (a := ⟨t.1, 1, none⟩) (Below.heap_setCell _ _ _ _ (by show t.1 ≠ p.block; omega))).trans h2, by simpa [World.setCell] using h3⟩⟩
theorem Ks.new (w : World) (a b c d : Int) (T : TypeId) : Ks w [(w.heap.size, a, b), (w.heap.size + 1, c, d)] ((w.alloc (.cells #[.int .i64 a, .int .i64 b] T)).alloc (.cells #[.int .i64 c, .int .i64 d] T)) := by
  have k1 := (Blk.new w #[.int .i64 a, .int .i64 b] T).alloc (.cells #[.int .i64 c, .int .i64 d] T)
  have k2 := Blk.new (w.alloc (.cells #[.int .i64 a, .int .i64 b] T)) #[.int .i64 c, .int .i64 d] T
  simp only [World.size_alloc] at k2
  refine ⟨((Below.refl w.heap.size w).alloc (Nat.le_refl _) _).alloc (by simp) _, fun t ht => ?_⟩
  simp only [List.mem_cons, List.not_mem_nil, or_false] at ht
  rcases ht with rfl | rfl
  · exact ⟨k1.two.1.1, k1.two.1.2, k1.lt⟩
  · exact ⟨k2.two.1.1, k2.two.1.2, k2.lt⟩
theorem Ks.add {w W : World} {l : List (Nat × Int × Int)} (k : Ks w l W) {B : Nat} {p q : Int} (h0 : W.cell? ⟨B, 0, none⟩ = some (.int .i64 p)) (h1 : W.cell? ⟨B, 1, none⟩ = some (.int .i64 q)) (h2 : B < W.heap.size) : Ks w (l ++ [(B, p, q)]) W :=
  ⟨k.1, fun t ht => by
    rcases List.mem_append.1 ht with h | h
    · exact k.2 t h
    · simp only [List.mem_cons, List.not_mem_nil, or_false] at h
      subst h
      exact ⟨h0, h1, h2⟩⟩
theorem bx {W W' : World} {g B : Nat} {T : TypeId} {x y : Value} (h : Blk W g T #[x, y]) (hb : Below B W W') (hlt : g < B) : Blk W' g T #[x, y] ∧ W'.cell? ⟨g, 0, none⟩ = some x ∧ W'.cell? ⟨g, 1, none⟩ = some y ∧ W'.frozen? ⟨g, 0, none⟩ = false ∧ W'.frozen? ⟨g, 1, none⟩ = false ∧ g < W'.heap.size := by
  have h' := h.below hb hlt
  refine ⟨h', h'.two.1.1, h'.two.1.2, ?_, ?_, h'.lt⟩ <;> (have e : W'.heap[g]? = _ := h'; simp [World.frozen?, e])
theorem blkDrew {w : World} {b : Nat} {t : TypeId} {cs : Array Value} (h : Blk w b t cs) : Blk w.drew b t cs := h
theorem blkSet0 {W : World} {g : Nat} {T : TypeId} {x y : Value} (h : Blk W g T #[x, y]) (p : Value) : Blk (W.setCell ⟨g, 0, none⟩ p) g T #[p, y] := by
  unfold Blk at *
  simp only [World.setCell, Array.getElem?_modify, if_true, h]
  simp
theorem blkSet1 {W : World} {g : Nat} {T : TypeId} {x y : Value} (h : Blk W g T #[x, y]) (q : Value) : Blk (W.setCell ⟨g, 1, none⟩ q) g T #[x, q] := by
  unfold Blk at *
  simp only [World.setCell, Array.getElem?_modify, if_true, h]
  simp
theorem wrote {W : World} {g : Nat} {T : TypeId} {x y p q : Value} (h : Blk W g T #[x, y]) : ((W.setCell ⟨g, 0, none⟩ p).setCell ⟨g, 1, none⟩ q).cell? ⟨g, 0, none⟩ = some p ∧ ((W.setCell ⟨g, 0, none⟩ p).setCell ⟨g, 1, none⟩ q).cell? ⟨g, 1, none⟩ = some q ∧ g < ((W.setCell ⟨g, 0, none⟩ p).setCell ⟨g, 1, none⟩ q).heap.size :=
  have h2 := blkSet1 (blkSet0 h p) q
  ⟨h2.two.1.1, h2.two.1.2, h2.lt⟩
/-- What a pair's statement leaves: a new block with the pair, and the bool. -/
def Left (w : World) (l : List (Nat × Int × Int)) (p q : Int) (r : Bool) (s t : Value) (W : World) : Prop :=
  ∃ B : Nat, s = .pointer (some ⟨B, 0, none⟩) ∧ t = .bool r ∧ Ks w (l ++ [(B, p, q)]) W
theorem fourOf {w W : World} {g h : Nat} {a b c d : Int} {l : List (Nat × Int × Int)} (k : Ks w ((g, a, b) :: (h, c, d) :: l) W) : W.cell? ⟨g, 0, none⟩ = some (.int .i64 a) ∧ W.cell? ⟨g, 1, none⟩ = some (.int .i64 b) ∧ W.cell? ⟨h, 0, none⟩ = some (.int .i64 c) ∧ W.cell? ⟨h, 1, none⟩ = some (.int .i64 d) := by
  have h1 := k.2 (g, a, b) (by simp)
  have h2 := k.2 (h, c, d) (by simp)
  exact ⟨h1.1, h1.2.1, h2.1, h2.2.1⟩
theorem senK {ea : Addr} {w W : World} {l : List (Nat × Int × Int)} (hS : Sen ea w) (k : Ks w l W) : Sen ea W := hS.below k.1 hS.pos
end Go.Proofs.YtdmamojidefdaaaDoor
