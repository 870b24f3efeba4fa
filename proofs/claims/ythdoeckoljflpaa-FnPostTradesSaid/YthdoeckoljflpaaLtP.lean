/- Lots: the program. -/
import Derived.Test.YthdoeckoljflpaaLtM
import Derived.Test.YthdoeckoljflpaaOff
import Derived.Test.YthdoeckoljflpaaMinMax
import Derived.Test.YthdoeckoljflpaaKp
namespace Go.Proofs.Ythdoeckoljflpaa
open Go.RowKit
/-- The queue of lots in memory. -/
structure Qs (W : World) (B bq : Nat) (v : Value) (q : List Pr) (g : Int) : Prop where
  s : Blk W bq 76 #[v, .int .i64 g]
  r : OffRow W B 31 v q.length (q.flatMap ac2)
  ne : ∀ j, v.ownBlock = some j → j ≠ bq
  hb : B ≤ bq
theorem Qs.two {w : World} {b : Nat} {t : TypeId} {x y : Value} (h : Blk w b t #[x, y]) :
    (w.cell? ⟨b, 0, none⟩ = some x ∧ w.cell? ⟨b, 1, none⟩ = some y) ∧ (w.frozen? ⟨b, 0, none⟩ = false ∧ w.frozen? ⟨b, 1, none⟩ = false) := by
  unfold Blk at h
  simp [World.cell?, World.frozen?, h]
section
variable {W : World} {B bq : Nat} {v : Value} {q : List Pr} {g : Int}
theorem Qs.below {W' : World} {C : Nat} (h : Qs W B bq v q g) (hb : Below C W W') (hC : W.heap.size ≤ C) : Qs W' B bq v q g :=
  ⟨h.s.below hb (Nat.lt_of_lt_of_le h.s.lt hC), h.r.below hb hC, h.ne, h.hb⟩
theorem Qs.drew (h : Qs W B bq v q g) : Qs W.drew B bq v q g := ⟨h.s, h.r, h.ne, h.hb⟩
theorem Qs.setG (h : Qs W B bq v q g) (y : Int) : Qs (W.setCell ⟨bq, 1, none⟩ (.int .i64 y)) B bq v q y := by
  have hg : W.grownBy (W.setCell ⟨bq, 1, none⟩ (.int .i64 y)) (some bq) := ⟨rfl, rfl, rfl, by simp, fun k _ hk => heap_setCell_other W ⟨bq, 1, none⟩ k _ (fun e => hk (by simp [e]))⟩
  refine ⟨?_, h.r.kept hg (fun i j hi hj => by injection hj with hj; rw [← hj]; exact h.ne i hi), h.ne, h.hb⟩
  have hs := h.s
  unfold Blk at hs ⊢
  simp [World.setCell, Array.getElem?_modify, hs]
theorem Qs.setV (h : Qs W B bq v q g) {u : Value} {q' : List Pr} (hr : OffRow W B 31 u q'.length (q'.flatMap ac2)) (hn : ∀ j, u.ownBlock = some j → j ≠ bq) : Qs (W.setCell ⟨bq, 0, none⟩ u) B bq u q' g := by
  have hg : W.grownBy (W.setCell ⟨bq, 0, none⟩ u) (some bq) := ⟨rfl, rfl, rfl, by simp, fun k _ hk => heap_setCell_other W ⟨bq, 0, none⟩ k _ (fun e => hk (by simp [e]))⟩
  refine ⟨?_, hr.kept hg (fun i j hi hj => by injection hj with hj; rw [← hj]; exact hn i hi), hn, h.hb⟩
  have hs := h.s
  unfold Blk at hs ⊢
  simp [World.setCell, Array.getElem?_modify, hs]
theorem Qs.head {x : Pr} (h : Qs W B bq v (x :: q) g) : ∃ b o cap, v = .slice (some ⟨b, o, none⟩) (q.length + 1) cap ∧ (B ≤ b ∧ b < W.heap.size) ∧ b ≠ bq ∧ (q.length + 1 ≤ cap ∧ cap ≤ maxLen) ∧
    (W.cell? ⟨b, o, none⟩ = some (.int .i64 x.1) ∧ W.cell? ⟨b, o + 1, none⟩ = some (.int .i64 x.2)) ∧ (∀ j, W.frozen? ⟨b, j, none⟩ = false) := by
  obtain ⟨b, o, cap, rfl, hb, hc, h1, h2⟩ := h.r.form (by simp)
  refine ⟨b, o, cap, rfl, hb, h.ne b rfl, hc, ⟨?_, ?_⟩, h2⟩
  · have := h1 0 (by simp)
    simpa [ac2] using this
  · have := h1 1 (by simp; omega)
    simpa [ac2] using this
theorem Qs.setX {x : Pr} {b o cap : Nat} (h : Qs W B bq (.slice (some ⟨b, o, none⟩) (q.length + 1) cap) (x :: q) g) (y : Int) : Qs (W.setCell ⟨b, o, none⟩ (.int .i64 y)) B bq (.slice (some ⟨b, o, none⟩) (q.length + 1) cap) ((y, x.2) :: q) g := by
  have hs := h.r.stored 0 (by simp) (.int .i64 y)
  refine ⟨h.s.grown hs.2 (fun e => h.ne b rfl e.symm), ?_, h.ne, h.hb⟩
  have e : ((x :: q).flatMap ac2).set 0 (.int .i64 y) = ((y, x.2) :: q).flatMap ac2 := by simp [ac2]
  rw [e] at hs
  exact hs.1
theorem Qs.tail {x : Pr} {b o cap : Nat} (h : Qs W B bq (.slice (some ⟨b, o, none⟩) (q.length + 1) cap) (x :: q) g) :
    OffRow W B 31 (.slice (if cap = 1 then some ⟨b, o, none⟩ else some ⟨b, o + 2, none⟩) q.length (cap - 1)) q.length (q.flatMap ac2) := by
  have ht := h.r.tail
  have e : ((x :: q).flatMap ac2).drop 2 = q.flatMap ac2 := by simp [ac2]
  rwa [e] at ht
end
set_option maxHeartbeats 400000 in
theorem nearer_any (m r : Int) (w : World) (hr : -9999 ≤ r ∧ r ≤ 9999) : Calls Try.prog 107 #[.int .i64 m, .int .i64 (-r)] w fun e w' => e = .returned (.int .i64 (Lt.near m r)) ∧ w = w' := by
  obtain ⟨r0, r1⟩ := hr
  by_cases h : m < 0
  · obtain ⟨t, ht⟩ : ∃ t, t = Lt.near m r := ⟨_, rfl⟩
    have fmax : ∀ W : World, (Builtin.max_ #[3, 3] 3 #[.int .i64 m, .int .i64 (-r)]).run Try.prog W = .ok (.int .i64 t) W := fun W => by rw [ht, Lt.near, if_pos h]; exact run_max2' _ _ _ _ W
    rw [← ht]
    clear ht
    go_enter Try.func107, Try.ntmps107
    go_wp2_with fail
    go_ret
    exact ⟨rfl, rfl⟩
  · obtain ⟨t, ht⟩ : ∃ t, t = Lt.near m r := ⟨_, rfl⟩
    have fmin : ∀ W : World, (Builtin.min_ #[3, 3] 3 #[.int .i64 m, .int .i64 (-r)]).run Try.prog W = .ok (.int .i64 t) W := fun W => by rw [ht, Lt.near, if_neg h]; exact run_min2' _ _ _ _ W
    rw [← ht]
    clear ht
    go_enter Try.func107, Try.ntmps107
    go_wp2_with fail
    go_ret
    exact ⟨rfl, rfl⟩
/-- Nothing changes but the queue's block and its row's. -/
def Lt.Keeps (w w' : World) (bq : Nat) (v : Value) : Prop := ∀ k, k ≠ bq → v.ownBlock ≠ some k → w'.heap[k]? = w.heap[k]?
theorem Lt.keeps1 {w : World} {bq b o : Nat} {x u : Value} {bb : Nat} (n cap : Nat) : Lt.Keeps w ((w.setCell ⟨bq, 1, none⟩ x).drew.setCell ⟨b, o, none⟩ u) bq (.slice (some ⟨b, bb, none⟩) n cap) := fun k h1 h2 => by
  have h3 : k ≠ b := fun e => h2 (by rw [e]; rfl)
  exact (heap_setCell_other _ ⟨b, o, none⟩ k u h3).trans (heap_setCell_other w ⟨bq, 1, none⟩ k x h1)
def Lt.cut (x : Pr) (q : List Pr) (r : Int) : List Pr := if x.1 - Lt.near x.1 r = 0 then q else (x.1 - Lt.near x.1 r, x.2) :: q
set_option maxRecDepth 8000 in
set_option maxHeartbeats 8000000 in
theorem closeO_any (w : World) (B bq : Nat) (v : Value) (x : Pr) (q : List Pr) (g r p : Int) (hQ : Qs w B bq v (x :: q) g) (ho : r * x.1 < 0) (hx : Lt.one x) (hr : -9999 ≤ r ∧ r ≤ 9999) (hp : 1 ≤ p ∧ p ≤ 50000) (hg : -1000000000000 ≤ g ∧ g ≤ 1000000000000) (hl : q.length ≤ 20) :
    Calls Try.prog 102 #[.pointer (some ⟨bq, 0, none⟩), .int .i64 r, .int .i64 p] w fun e w' => e = .returned (.int .i64 (Lt.near x.1 r)) ∧ (∃ v', Qs w' B bq v' (Lt.cut x q r) (g + Lt.near x.1 r * (p - x.2)) ∧ v'.ownBlock = v.ownBlock) ∧ Lt.Keeps w w' bq v ∧ Below B w w' := by
  have hn := Lt.near_bd ho
  have NR := Lib.hid (fun W => nearer_any x.1 r W hr)
  have hd := Lt.prod_bd (k := Lt.near x.1 r) (d := p - x.2) (by have := hx.2; omega) (by have := hx.2; omega)
  have hkb : -9999 ≤ Lt.near x.1 r ∧ Lt.near x.1 r ≤ 9999 := by have := hx.1; omega
  have hC := Lib.hid (show Lt.cut x q r = if x.1 - Lt.near x.1 r = 0 then q else (x.1 - Lt.near x.1 r, x.2) :: q from rfl)
  obtain ⟨b, o, cap, rfl, ⟨gb, lb⟩, hbq, ⟨hc1, hc2⟩, ⟨x0, x1⟩, hf⟩ := hQ.head
  obtain ⟨⟨s0, s1⟩, f0, f1⟩ := Qs.two hQ.s
  have hbB := hQ.hb
  have hf0 := hf o
  have hm := hx.1
  have hc := hx.2
  clear hx ho hn
  generalize Lt.near x.1 r = k at *
  generalize Lt.cut x q r = C at *
  obtain ⟨m, c⟩ := x
  simp only at *
  obtain ⟨m0, m1, m2⟩ := hm
  obtain ⟨c0, c1⟩ := hc
  obtain ⟨k0, k1⟩ := hkb
  obtain ⟨r0, r1⟩ := hr
  obtain ⟨p0, p1⟩ := hp
  obtain ⟨g0, g1⟩ := hg
  have hkd : -499950000 ≤ k * (p - c) ∧ k * (p - c) ≤ 499950000 := by omega
  obtain ⟨d0, d1⟩ := hkd
  have hln : (0 : Int) < q.length + 1 := by omega
  unfold maxLen at hc2
  have HQ := Lib.hid hQ
  clear hQ hd hf
  go_enter Try.func102, Try.ntmps102
  go_wp2_with fail
  refine (NR.out _).mono ?_
  rintro e w1 ⟨rfl, rfl⟩
  go_wp2_with fail
  go_region
  have HQ1 := Lib.hid (HQ.out.setG (g + k * (p - c))).drew
  have HB1 := Lib.hid ((Below.refl B w).setCell (p := ⟨bq, 1, none⟩) hbB (.int .i64 (g + k * (p - c)))).drew
  clear HQ x0 x1 s0 s1 f0 f1 hf0 lb NR
  have HK0 := Lib.hid (fun u => Lt.keeps1 (w := w) (bq := bq) (b := b) (o := o) (x := .int .i64 (g + k * (p - c))) (u := u) (bb := o) (q.length + 1) cap)
  generalize (w.setCell ⟨bq, 1, none⟩ (.int .i64 (g + k * (p - c)))).drew = w2 at *
  have HK := Lib.hid (HK0.out (.int .i64 (m - k)))
  clear HK0
  obtain ⟨b', o', cap', e', ⟨-, lb⟩, -, -, ⟨x0, x1⟩, hf⟩ := HQ1.out.head
  simp only [Value.slice.injEq, Option.some.injEq, Addr.mk.injEq, and_true, true_and] at e'
  obtain ⟨⟨rfl, rfl⟩, rfl⟩ := e'
  simp only at x0 x1
  obtain ⟨⟨s0, -⟩, f0, -⟩ := Qs.two HQ1.out.s
  have hf0 := hf o
  have HQ2 := Lib.hid (HQ1.out.setX (m - k))
  have HB2 := Lib.hid (HB1.out.setCell (p := ⟨b, o, none⟩) gb (.int .i64 (m - k)))
  have hlk : -20000 ≤ m - k ∧ m - k ≤ 20000 := by omega
  obtain ⟨l0, l1⟩ := hlk
  have hbq2 : bq ≠ b := fun e => hbq e.symm
  clear hf
  by_cases hk : m - k = 0
  · have HC2 := Lib.hid (hC.out.trans (if_pos hk))
    rw [hk] at HQ2 HB2 HK
    obtain rfl : m = k := by omega
    have HT := Lib.hid HQ2.out.tail
    have HQ3 := Lib.hid (fun u hu hn => HQ2.out.setV (u := u) (q' := q) hu hn)
    have HB3 := Lib.hid (fun u => HB2.out.setCell (p := ⟨bq, 0, none⟩) hbB u)
    have HK3 := Lib.hid (fun u k h1 h2 => (heap_setCell_other (w2.setCell ⟨b, o, none⟩ (.int .i64 0)) ⟨bq, 0, none⟩ k u h1).trans (HK.out k h1 h2))
    by_cases hcap : cap = 1
    · subst hcap
      obtain rfl : q = [] := List.eq_nil_of_length_eq_zero (by omega)
      have HT2 := HT
      rw [if_pos rfl] at HT2
      go_wp2_with fail
      go_ret
      exact ⟨rfl, ⟨.slice (some ⟨b, o, none⟩) 0 0, by rw [HC2.out]; exact HQ3.out _ HT2.out (fun j hj => by have hj2 : some b = some j := hj; injection hj2 with hj2; omega), rfl⟩, HK3.out _, HB3.out _⟩
    · have HT2 := HT
      rw [if_neg hcap] at HT2
      go_wp2_with fail
      go_ret
      exact ⟨rfl, ⟨.slice (some ⟨b, o + 2, none⟩) q.length (cap - 1), by rw [HC2.out]; exact HQ3.out _ HT2.out (fun j hj => by have hj2 : some b = some j := hj; injection hj2 with hj2; omega), rfl⟩, HK3.out _, HB3.out _⟩
  · have HC2 := Lib.hid (hC.out.trans (if_neg hk))
    have hk2 : (m - k == 0) = false := by simpa using hk
    go_wp2_with fail
    go_ret
    exact ⟨rfl, ⟨_, by rw [HC2.out]; exact HQ2.out, rfl⟩, HK.out, HB2.out⟩
end Go.Proofs.Ythdoeckoljflpaa
