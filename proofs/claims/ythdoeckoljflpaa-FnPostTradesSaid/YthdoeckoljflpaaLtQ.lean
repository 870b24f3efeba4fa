/- Lots: a trade is added, all trades. -/
import Derived.Test.YthdoeckoljflpaaLtP
import Derived.Deep.LoopGhost
import Derived.Deep.AppendLies
import Derived.Deep.RegionHeldLaw
namespace Go.Proofs.Ythdoeckoljflpaa
open Go.RowKit
theorem infoLq : (Try.prog.info? 31).map (fun i => (i.zero, i.size, i.bytes)) = some (some (.agg #[.int .i64 0, .int .i64 0]), 2, 16) := by kernel_rfl
theorem infoPartsLq : ∃ i, Try.prog.info? 31 = some i ∧ i.zero = some (.agg #[.int .i64 0, .int .i64 0]) ∧ i.size = 2 ∧ i.bytes = 16 := by
  have h := infoLq
  cases hi : Try.prog.info? 31 with
  | none => rw [hi] at h; cases h
  | some i =>
    rw [hi] at h
    simp only [Option.map_some, Option.some.injEq, Prod.mk.injEq] at h
    exact ⟨i, rfl, h.1, h.2.1, h.2.2⟩
/-- A trade of a number and a price, added to lots and a gain. -/
def Lt.add (q : List Pr) (p m g : Int) : List Pr × Int := (if (Lt.close p q m g).2.1 = 0 then (Lt.close p q m g).1 else (Lt.close p q m g).1 ++ [((Lt.close p q m g).2.1, p)], (Lt.close p q m g).2.2)
theorem Qs.grown {W W' : World} {B bq : Nat} {v : Value} {q : List Pr} {g : Int} {row : Option Nat} (h : Qs W B bq v q g) (hg : W.grownBy W' row) (h1 : row ≠ some bq) (h2 : ∀ i j, v.ownBlock = some i → row = some j → i ≠ j) : Qs W' B bq v q g :=
  ⟨(hg.block bq h.s.lt (fun e => h1 e.symm)).trans h.s, h.r.kept hg h2, h.ne, h.hb⟩
theorem Qs.put {W : World} {B bq : Nat} {v0 u : Value} {q' : List Pr} {g : Int} (hs : Blk W bq 76 #[v0, .int .i64 g]) (hr : OffRow W B 31 u q'.length (q'.flatMap ac2)) (hn : ∀ j, u.ownBlock = some j → j ≠ bq) (hb : B ≤ bq) : Qs (W.setCell ⟨bq, 0, none⟩ u) B bq u q' g := by
  have hg : W.grownBy (W.setCell ⟨bq, 0, none⟩ u) (some bq) := ⟨rfl, rfl, rfl, by simp, fun k _ hk => heap_setCell_other W ⟨bq, 0, none⟩ k _ (fun e => hk (by simp [e]))⟩
  refine ⟨?_, hr.kept hg (fun i j hi hj => by injection hj with hj; rw [← hj]; exact hn i hi), hn, hb⟩
  unfold Blk at hs ⊢
  simp [World.setCell, Array.getElem?_modify, hs]
theorem Lt.three {w : World} {b : Nat} {t : TypeId} {x y z : Value} (h : Blk w b t #[x, y, z]) : w.cell? ⟨b, 0, none⟩ = some x ∧ w.cell? ⟨b, 1, none⟩ = some y ∧ w.cell? ⟨b, 2, none⟩ = some z := by
  unfold Blk at h
  simp [World.cell?, h]
theorem Lt.flat_snoc (q : List Pr) (r p : Int) : (q ++ [(r, p)]).flatMap ac2 = q.flatMap ac2 ++ [.int .i64 r, .int .i64 p] := by simp [ac2]
/-- One lot closed, whole or in part. -/
theorem Lt.cut_step {x : Pr} {q : List Pr} {r : Int} (h1 : ∀ y ∈ x :: q, Lt.one y) (hs : Lt.sign (x :: q)) (ho : r * x.1 < 0) :
    (∀ y ∈ Lt.cut x q r, Lt.one y) ∧ Lt.sign (Lt.cut x q r) ∧ (r + Lt.near x.1 r).natAbs + (Lt.near x.1 r).natAbs = r.natAbs ∧ ((Lt.cut x q r).length + (if r + Lt.near x.1 r = 0 then 0 else 1) < (x :: q).length + (if r = 0 then 0 else 1) ∧ (Lt.cut x q r).length ≤ q.length + 1) ∧
      ∀ p g, Lt.close p (Lt.cut x q r) (r + Lt.near x.1 r) (g + Lt.near x.1 r * (p - x.2)) = Lt.close p (x :: q) r g := by
  have hn := Lt.near_bd ho
  have hx := h1 x List.mem_cons_self
  unfold Lt.cut
  by_cases hk : x.1 - Lt.near x.1 r = 0
  · rw [if_pos hk]
    refine ⟨fun y hy => h1 y (List.mem_cons_of_mem _ hy), Lt.sign_cons hs, by omega, ⟨?_, by omega⟩, fun p g => (Lt.close_full ho hk).symm⟩
    rw [List.length_cons, if_neg (show ¬ r = 0 by omega)]
    split <;> omega
  · rw [if_neg hk]
    have hr := Lt.part_rest ho hk
    refine ⟨fun y hy => ?_, ?_, by omega, ⟨?_, by simp⟩, fun p g => ?_⟩
    · rcases List.mem_cons.1 hy with rfl | hy
      · unfold Lt.one at hx ⊢
        show (-9999 ≤ x.1 - Lt.near x.1 r ∧ x.1 - Lt.near x.1 r ≤ 9999 ∧ x.1 - Lt.near x.1 r ≠ 0) ∧ 1 ≤ x.2 ∧ x.2 ≤ 50000
        omega
      · exact h1 y (List.mem_cons_of_mem _ hy)
    · rcases hs with hs | hs
      · have := hs x List.mem_cons_self
        refine .inl fun y hy => ?_
        rcases List.mem_cons.1 hy with rfl | hy
        · show 0 < x.1 - Lt.near x.1 r; omega
        · exact hs y (List.mem_cons_of_mem _ hy)
      · have := hs x List.mem_cons_self
        refine .inr fun y hy => ?_
        rcases List.mem_cons.1 hy with rfl | hy
        · show x.1 - Lt.near x.1 r < 0; omega
        · exact hs y (List.mem_cons_of_mem _ hy)
    · rw [if_pos hr, if_neg (show ¬ r = 0 by omega), List.length_cons, List.length_cons]; omega
    · rw [hr, Lt.close_zero, Lt.close_part ho hk, hr]
/-- Of what stood before nothing changes but the queue's block and its row's. -/
def Lt.KeepB (w w' : World) (bq : Nat) (v : Value) : Prop := ∀ k, k < w.heap.size → k ≠ bq → v.ownBlock ≠ some k → w'.heap[k]? = w.heap[k]?
set_option maxRecDepth 8000 in
set_option maxHeartbeats 8000000 in
theorem addT_any (w : World) (B bq : Nat) (v : Value) (q : List Pr) (g d m p : Int) (hQ : Qs w B bq v q g) (h1 : ∀ x ∈ q, Lt.one x) (hs : Lt.sign q) (hm : -9999 ≤ m ∧ m ≤ 9999) (hp : 1 ≤ p ∧ p ≤ 50000) (hg : g.natAbs ≤ 100000000000) (hl : q.length ≤ 17) :
    Calls Try.prog 86 #[.pointer (some ⟨bq, 0, none⟩), triV (d, m, p)] w fun e w' => e = .returned (.tuple #[]) ∧ (∃ v', Qs w' B bq v' (Lt.add q p m g).1 (Lt.add q p m g).2 ∧ ∀ j, v'.ownBlock = some j → v.ownBlock = some j ∨ w.heap.size ≤ j) ∧ Lt.KeepB w w' bq v ∧ Below B w w' := by
  have hbA := (Below.refl w.heap.size w).alloc (Nat.le_refl _) (.cells #[.int .i64 d, .int .i64 m, .int .i64 p] 73)
  have HQ1 := Lib.hid (hQ.below hbA (Nat.le_refl _))
  have HT1 := Lib.hid (Blk.new w #[.int .i64 d, .int .i64 m, .int .i64 p] 73)
  have hlq := hQ.s.lt
  have hb := hQ.hb
  have HB1 := Lib.hid (hbA.mono (show B ≤ w.heap.size by omega))
  have hvt : ∀ j, v.ownBlock = some j → j < w.heap.size := fun j hj => (hQ.r.lt j hj).2
  have HVt := Lib.hid hvt
  have HD := Lib.hid (show Lt.add q p m g = (if (Lt.close p q m g).2.1 = 0 then (Lt.close p q m g).1 else (Lt.close p q m g).1 ++ [((Lt.close p q m g).2.1, p)], (Lt.close p q m g).2.2) from rfl)
  have HKB1 := Lib.hid (fun k (hk : k < w.heap.size) (_ : k ≠ bq) (_ : v.ownBlock ≠ some k) => Below.heap_alloc w (.cells #[.int .i64 d, .int .i64 m, .int .i64 p] 73) k hk)
  have HO := Lib.hid h1
  have HS := Lib.hid hs
  obtain ⟨m0, m1⟩ := hm
  clear hQ h1 hs hbA hvt
  generalize Lt.add q p m g = AD at *
  go_enter Try.func86, Try.ntmps86
  go_wp2_with fail
  generalize (w.alloc (.cells #[.int .i64 d, .int .i64 m, .int .i64 p] 73)) = w1 at *
  generalize hbt : w.heap.size = bt at *
  have HBt := Lib.hid hbt; clear hbt
  go_loopg [4] (q.length + 1) (fun k s wr => ∃ (u : Value) (q' : List Pr) (r' g' : Int), s = .int .i64 r' ∧ Hid (Qs wr B bq u q' g') ∧ Hid (∀ j, u.ownBlock = some j → j < bt) ∧ Hid (∀ x ∈ q', Lt.one x) ∧ Hid (Lt.sign q') ∧ r'.natAbs ≤ 9999 ∧ g'.natAbs + 50000 * r'.natAbs ≤ 200000000000 ∧ (q'.length + (if r' = 0 then 0 else 1) ≤ k ∧ q'.length ≤ 17) ∧ Hid (Lt.close p q' r' g' = Lt.close p q m g) ∧ Hid (Blk wr bt 73 #[.int .i64 d, .int .i64 m, .int .i64 p]) ∧ Hid (u.ownBlock = v.ownBlock) ∧ Hid (∀ k, k < bt → k ≠ bq → v.ownBlock ≠ some k → wr.heap[k]? = w.heap[k]?) ∧ Hid (Below B w wr))
  case atStart => exact ⟨v, q, m, g, rfl, HQ1, HVt, HO, HS, by omega, by omega, ⟨by split <;> omega, hl⟩, Lib.hid rfl, HT1, Lib.hid rfl, HKB1, HB1⟩
  case round =>
    obtain ⟨u, q', r', g', rfl, HQ, HU, HO, HS, hr, hg', ⟨hk, hl'⟩, HC, HT, HE, HKB, HB⟩ := hrel
    obtain ⟨⟨s0, -⟩, fs0, -⟩ := Qs.two HQ.out.s
    obtain ⟨-, -, t2⟩ := Lt.three HT.out
    by_cases ho : ∃ x q'', q' = x :: q'' ∧ r' * x.1 < 0
    · obtain ⟨x, q'', rfl, ho⟩ := ho
      have CO := Lib.hid (closeO_any wr B bq u x q'' g' r' p HQ.out ho (HO.out x List.mem_cons_self) (by omega) hp (by omega) (by simp at hl'; omega))
      obtain ⟨ho1, hsg, hab, ⟨hms, hln⟩, hcl⟩ := Lt.cut_step HO.out HS.out ho
      have hd := Lt.prod_bd (k := Lt.near x.1 r') (d := p - x.2) (by have := (HO.out x List.mem_cons_self).2; omega) (by have := (HO.out x List.mem_cons_self).2; omega)
      have HO2 := Lib.hid ho1
      have HS2 := Lib.hid hsg
      have HC2 := Lib.hid ((hcl p g').trans HC.out)
      have hx := (HO.out x List.mem_cons_self).1
      have hpr : -100000000 ≤ r' * x.1 := by
        have h := Int.natAbs_mul r' x.1
        have h2 : r'.natAbs * x.1.natAbs ≤ 9999 * 9999 := Nat.mul_le_mul (by omega) (by omega)
        omega
      obtain ⟨b, o, cap, rfl, ⟨gb, lb⟩, hbq, ⟨hc1, hc2⟩, ⟨x0, x1⟩, hf⟩ := HQ.out.head
      have hbb : b < bt := HU.out b rfl
      have HTk := Lib.hid (fun (w3 : World) (hk3 : Lt.Keeps wr w3 bq (.slice (some ⟨b, o, none⟩) (q''.length + 1) cap)) => (show Blk w3 bt 73 #[.int .i64 d, .int .i64 m, .int .i64 p] from (hk3 bt (by omega) (fun e => by have e2 : some b = some bt := e; injection e2 with e2; omega)).trans HT.out))
      have hln0 : (0 : Int) < q''.length + 1 := by omega
      have hr0 : r' ≠ 0 := fun e => by rw [e, Int.zero_mul] at ho; omega
      rw [if_neg hr0, List.length_cons] at hms hk
      obtain ⟨j, rfl⟩ : ∃ j, gk = j + 1 := ⟨gk - 1, by omega⟩
      unfold maxLen at hc2
      clear ho1 hsg hcl x1 hf HO HS
      obtain ⟨xm, xc⟩ := x
      simp only at x0 ho hpr hms hln hd hab HC2 HO2 HS2 CO hx
      generalize Lt.near xm r' = kn at *
      generalize Lt.cut (xm, xc) q'' r' = cq at *
      go_wp2_with fail
      refine CO.out.mono ?_
      rintro e w3 ⟨rfl, ⟨u', hQ', hu'⟩, hK', hB'⟩
      have HQ3 := Lib.hid hQ'
      have HU3 := Lib.hid (show ∀ j, u'.ownBlock = some j → j < bt from fun j hj => HU.out j (hu' ▸ hj))
      have HT3 := Lib.hid (HTk.out w3 hK')
      have HE3 := Lib.hid (hu'.trans HE.out)
      have HKB3 := Lib.hid (fun k a b' c' => (hK' k b' (fun e => c' (HE.out.symm.trans e))).trans (HKB.out k a b' c'))
      have HB3 := Lib.hid (HB.out.trans hB')
      clear hQ' hu' hK' hB'
      go_wp2_with fail
      go_roundg j
      case measure => omega
      case rel => exact ⟨u', cq, r' + kn, g' + kn * (p - xc), rfl, HQ3, HU3, HO2, HS2, by omega, by omega, ⟨by omega, by simp at hl'; omega⟩, HC2, HT3, HE3, HKB3, HB3⟩
    · have hstop : Lt.close p q' r' g' = (q', r', g') := by
        cases q' with
        | nil => rfl
        | cons x q'' => exact Lt.close_stop (fun h => ho ⟨x, q'', rfl, h⟩)
      have HDs := Lib.hid (show AD = (if r' = 0 then q' else q' ++ [(r', p)], g') by rw [HD.out, ← HC.out, hstop])
      obtain ⟨au, cu, rfl⟩ := HQ.out.r.slice
      clear hstop HC
      cases q' with
      | nil =>
        clear ho
        by_cases hr0 : r' = 0
        · have HD2 := Lib.hid (show AD = ([], g') from HDs.out.trans (by rw [if_pos hr0]))
          subst hr0
          go_wp2_with fail
          go_end0
          exact ⟨rfl, ⟨_, by rw [HD2.out]; exact HQ.out, fun j hj => .inl (HE.out.symm.trans hj)⟩, fun k hk1 hk2 hk3 => HKB.out k (by rw [← HBt.out]; exact hk1) hk2 hk3, HB.out⟩
        · have hrn : (r' != 0) = true := by simpa using hr0
          have HD2 := Lib.hid (show AD = ([] ++ [(r', p)], g') from HDs.out.trans (by rw [if_neg hr0]))
          obtain ⟨i0, hii, hz0, hz1, hz2⟩ := infoPartsLq
          have hlbq := HQ.out.s.lt
          have hlbt := HT.out.lt
          have hubq := HQ.out.ne
          have HKw := Lib.hid (fun (W : World) (h0 : W.heap[bq]? = wr.heap[bq]?) (h1 : W.heap[bt]? = wr.heap[bt]?) => (show W.cell? ⟨bq, 0, none⟩ = some (.slice au (0) cu) ∧ W.cell? ⟨bt, 2, none⟩ = some (.int .i64 p) ∧ W.frozen? ⟨bq, 0, none⟩ = false from ⟨(World.cell?_of_block (a := ⟨bq, 0, none⟩) h0).trans s0, (World.cell?_of_block (a := ⟨bt, 2, none⟩) h1).trans t2, (World.frozen?_of_block (a := ⟨bq, 0, none⟩) h0).trans fs0⟩))
          have K1 := HKw.out wr.drew rfl rfl
          have K2 := HKw.out (wr.drew.alloc (.cells #[.int .i64 r', .int .i64 p] 31)) (Below.heap_alloc _ _ _ hlbq) (Below.heap_alloc _ _ _ hlbt)
          have K3 : (wr.alloc (.cells #[.int .i64 r', .int .i64 p] 31)).drew.cell? ⟨bq, 0, none⟩ = some (.slice au (0) cu) ∧ (wr.alloc (.cells #[.int .i64 r', .int .i64 p] 31)).drew.cell? ⟨bt, 2, none⟩ = some (.int .i64 p) ∧ (wr.alloc (.cells #[.int .i64 r', .int .i64 p] 31)).drew.frozen? ⟨bq, 0, none⟩ = false := K2
          have HAd := Lib.hid (show OffRow (wr.alloc (.cells #[.int .i64 r', .int .i64 p] 31)).drew B 31 (.slice au (0) cu) (0) (([] : List Pr).flatMap ac2) from HQ.out.r.alloc _)
          have hnb := Blk.new wr #[.int .i64 r', .int .i64 p] 31
          have hadd : ∀ j, (⟨wr.heap.size, 0, none⟩ : Addr).add j = ⟨wr.heap.size, j, none⟩ := fun j => by unfold Addr.add; split <;> simp_all
          have HAx := Lib.hid (show (wr.alloc (.cells #[.int .i64 r', .int .i64 p] 31)).drew.cell? ((⟨wr.heap.size, 0, none⟩ : Addr).add 0) = some (.int .i64 r') by rw [hadd]; exact (Qs.two hnb).1.1)
          have HAy := Lib.hid (show (wr.alloc (.cells #[.int .i64 r', .int .i64 p] 31)).drew.cell? ((⟨wr.heap.size, 0, none⟩ : Addr).add 1) = some (.int .i64 p) by rw [hadd]; exact (Qs.two hnb).1.2)
          have hBw : B ≤ wr.heap.size := by omega
          have HBA := Lib.hid ((HB.out.alloc hBw (.cells #[.int .i64 r', .int .i64 p] 31)).drew)
          have hBA : B ≤ (wr.alloc (.cells #[.int .i64 r', .int .i64 p] 31)).drew.heap.size := by show B ≤ (wr.alloc (.cells #[.int .i64 r', .int .i64 p] 31)).heap.size; simp; omega
          have HhB := Lib.hid hBA
          have HBlk := Lib.hid (fun (W6 : World) (hg : (wr.alloc (.cells #[.int .i64 r', .int .i64 p] 31)).drew.grownBy W6 (Value.ownBlock (.slice au (0) cu))) => (show W6.heap[bq]? = wr.heap[bq]? ∧ W6.heap[bt]? = wr.heap[bt]? from ⟨(hg.block bq (by show bq < (wr.alloc (.cells #[.int .i64 r', .int .i64 p] 31)).heap.size; simp; omega) (fun e => hubq bq e.symm rfl)).trans (Below.heap_alloc wr _ _ hlbq), (hg.block bt (by show bt < (wr.alloc (.cells #[.int .i64 r', .int .i64 p] 31)).heap.size; simp; omega) (fun e => by have := HU.out bt e.symm; omega)).trans (Below.heap_alloc wr _ _ hlbt)⟩))
          have HRlt := Lib.hid HQ.out.r.lt
          have HNe := Lib.hid hubq
          clear hubq hnb hadd hBA
          go_wp2_with fail
          obtain ⟨k1a, k1b, k1c⟩ := K1
          obtain ⟨k2a, k2b, k2c⟩ := K2
          obtain ⟨k3a, k3b, k3c⟩ := K3
          first | (go_region_law (refine step_append_off _ rfl _ _ 28 rfl i0 _ Try.underlying28 hii hz0 hz1 hz2 rfl (.slice au (0) cu) (0) (([] : List Pr).flatMap ac2) rfl HAd.out ⟨wr.heap.size, 0, none⟩ 1 (.int .i64 r') (.int .i64 p) rfl HAx.out HAy.out rfl rfl (by omega) HhB.out ?_; intro g6 o6 c6 w6 hown6 hg6 hat6; have k6 := HKw.out w6 (HBlk.out w6 hg6).1 (HBlk.out w6 hg6).2; have k6a := k6.1; have k6c := k6.2.2; clear k6)) | fail "WALK"
          all_goals
            have hlen6 : (([] : List Pr) ++ [(r', p)]).length = 0 + 1 := by simp
            have hn6 : g6 ≠ bq := by
              rcases hat6 with h | h
              · exact HNe.out g6 h
              · have h2 : g6 = (wr.alloc (.cells #[.int .i64 r', .int .i64 p] 31)).heap.size := h
                simp at h2; omega
            have HQ6 := Lib.hid (Qs.put (B := B) (q' := ([] : List Pr) ++ [(r', p)]) (u := .slice (some ⟨g6, o6, none⟩) (0 + 1) c6) ((HBlk.out w6 hg6).1.trans HQ.out.s) (by rw [hlen6, Lt.flat_snoc]; exact hown6) (fun j hj => by have hj2 : some g6 = some j := hj; injection hj2 with hj2; omega) HQ.out.hb)
            have HB6 := Lib.hid ((HBA.out.grown hg6 HhB.out (fun j hj => (HRlt.out j hj).1)).setCell (p := ⟨bq, 0, none⟩) HQ.out.hb (.slice (some ⟨g6, o6, none⟩) (0 + 1) c6))
            clear hlen6
            go_wp2_with fail
            go_end0
            refine ⟨rfl, ⟨.slice (some ⟨g6, o6, none⟩) (0 + 1) c6, by rw [HD2.out]; exact HQ6.out, fun j hj => ?_⟩, fun k hk1 hk2 hk3 => ?_, HB6.out⟩
            · have hj2 : some g6 = some j := hj
              injection hj2 with hj2
              subst hj2
              rcases hat6 with h | h
              · exact .inl (HE.out.symm.trans h)
              · right
                have h2 : g6 = (wr.alloc (.cells #[.int .i64 r', .int .i64 p] 31)).heap.size := h
                simp at h2
                have := HBt.out; omega
            · have hk4 : k < bt := by rw [← HBt.out]; exact hk1
              exact (heap_setCell_other w6 ⟨bq, 0, none⟩ k _ hk2).trans ((hg6.block k (by show k < (wr.alloc (.cells #[.int .i64 r', .int .i64 p] 31)).heap.size; simp; omega) (fun e => hk3 (HE.out.symm.trans e.symm))).trans ((Below.heap_alloc wr _ k (by omega)).trans (HKB.out k hk4 hk2 hk3)))
      | cons x q'' =>
        have hng : ¬ r' * x.1 < 0 := fun h => ho ⟨x, q'', rfl, h⟩
        obtain ⟨b, o, cap, e1, -, -, ⟨hc1, hc2⟩, ⟨x0, -⟩, -⟩ := HQ.out.head
        simp only [List.length_cons] at e1 hl' s0
        simp only [Value.slice.injEq, true_and] at e1
        obtain ⟨rfl, rfl⟩ := e1
        have hx := (HO.out x List.mem_cons_self).1
        have hpr : -100000000 ≤ r' * x.1 ∧ r' * x.1 ≤ 100000000 := by
          have h := Int.natAbs_mul r' x.1
          have h2 : r'.natAbs * x.1.natAbs ≤ 9999 * 9999 := Nat.mul_le_mul (by omega) (by omega)
          omega
        obtain ⟨hp0, hp1⟩ := hpr
        have hln0 : (0 : Int) < q''.length + 1 := by omega
        unfold maxLen at hc2
        clear ho
        by_cases hr0 : r' = 0
        · have HD2 := Lib.hid (show AD = (x :: q'', g') from HDs.out.trans (by rw [if_pos hr0]))
          subst hr0
          go_wp2_with fail
          go_end0
          exact ⟨rfl, ⟨_, by rw [HD2.out]; exact HQ.out, fun j hj => .inl (HE.out.symm.trans hj)⟩, fun k hk1 hk2 hk3 => HKB.out k (by rw [← HBt.out]; exact hk1) hk2 hk3, HB.out⟩
        · have hrn : (r' != 0) = true := by simpa using hr0
          have HD2 := Lib.hid (show AD = ((x :: q'') ++ [(r', p)], g') from HDs.out.trans (by rw [if_neg hr0]))
          obtain ⟨i0, hii, hz0, hz1, hz2⟩ := infoPartsLq
          have hlbq := HQ.out.s.lt
          have hlbt := HT.out.lt
          have hubq := HQ.out.ne
          have HKw := Lib.hid (fun (W : World) (h0 : W.heap[bq]? = wr.heap[bq]?) (h1 : W.heap[bt]? = wr.heap[bt]?) => (show W.cell? ⟨bq, 0, none⟩ = some (.slice (some ⟨b, o, none⟩) (q''.length + 1) cu) ∧ W.cell? ⟨bt, 2, none⟩ = some (.int .i64 p) ∧ W.frozen? ⟨bq, 0, none⟩ = false from ⟨(World.cell?_of_block (a := ⟨bq, 0, none⟩) h0).trans s0, (World.cell?_of_block (a := ⟨bt, 2, none⟩) h1).trans t2, (World.frozen?_of_block (a := ⟨bq, 0, none⟩) h0).trans fs0⟩))
          have K1 := HKw.out wr.drew rfl rfl
          have K2 := HKw.out (wr.drew.alloc (.cells #[.int .i64 r', .int .i64 p] 31)) (Below.heap_alloc _ _ _ hlbq) (Below.heap_alloc _ _ _ hlbt)
          have K3 : (wr.alloc (.cells #[.int .i64 r', .int .i64 p] 31)).drew.cell? ⟨bq, 0, none⟩ = some (.slice (some ⟨b, o, none⟩) (q''.length + 1) cu) ∧ (wr.alloc (.cells #[.int .i64 r', .int .i64 p] 31)).drew.cell? ⟨bt, 2, none⟩ = some (.int .i64 p) ∧ (wr.alloc (.cells #[.int .i64 r', .int .i64 p] 31)).drew.frozen? ⟨bq, 0, none⟩ = false := K2
          have HAd := Lib.hid (show OffRow (wr.alloc (.cells #[.int .i64 r', .int .i64 p] 31)).drew B 31 (.slice (some ⟨b, o, none⟩) (q''.length + 1) cu) (q''.length + 1) (((x :: q'') : List Pr).flatMap ac2) from HQ.out.r.alloc _)
          have hnb := Blk.new wr #[.int .i64 r', .int .i64 p] 31
          have hadd : ∀ j, (⟨wr.heap.size, 0, none⟩ : Addr).add j = ⟨wr.heap.size, j, none⟩ := fun j => by unfold Addr.add; split <;> simp_all
          have HAx := Lib.hid (show (wr.alloc (.cells #[.int .i64 r', .int .i64 p] 31)).drew.cell? ((⟨wr.heap.size, 0, none⟩ : Addr).add 0) = some (.int .i64 r') by rw [hadd]; exact (Qs.two hnb).1.1)
          have HAy := Lib.hid (show (wr.alloc (.cells #[.int .i64 r', .int .i64 p] 31)).drew.cell? ((⟨wr.heap.size, 0, none⟩ : Addr).add 1) = some (.int .i64 p) by rw [hadd]; exact (Qs.two hnb).1.2)
          have hBw : B ≤ wr.heap.size := by omega
          have HBA := Lib.hid ((HB.out.alloc hBw (.cells #[.int .i64 r', .int .i64 p] 31)).drew)
          have hBA : B ≤ (wr.alloc (.cells #[.int .i64 r', .int .i64 p] 31)).drew.heap.size := by show B ≤ (wr.alloc (.cells #[.int .i64 r', .int .i64 p] 31)).heap.size; simp; omega
          have HhB := Lib.hid hBA
          have HBlk := Lib.hid (fun (W6 : World) (hg : (wr.alloc (.cells #[.int .i64 r', .int .i64 p] 31)).drew.grownBy W6 (Value.ownBlock (.slice (some ⟨b, o, none⟩) (q''.length + 1) cu))) => (show W6.heap[bq]? = wr.heap[bq]? ∧ W6.heap[bt]? = wr.heap[bt]? from ⟨(hg.block bq (by show bq < (wr.alloc (.cells #[.int .i64 r', .int .i64 p] 31)).heap.size; simp; omega) (fun e => hubq bq e.symm rfl)).trans (Below.heap_alloc wr _ _ hlbq), (hg.block bt (by show bt < (wr.alloc (.cells #[.int .i64 r', .int .i64 p] 31)).heap.size; simp; omega) (fun e => by have := HU.out bt e.symm; omega)).trans (Below.heap_alloc wr _ _ hlbt)⟩))
          have HRlt := Lib.hid HQ.out.r.lt
          have HNe := Lib.hid hubq
          clear hubq hnb hadd hBA
          go_wp2_with fail
          obtain ⟨k1a, k1b, k1c⟩ := K1
          obtain ⟨k2a, k2b, k2c⟩ := K2
          obtain ⟨k3a, k3b, k3c⟩ := K3
          first | (go_region_law (refine step_append_off _ rfl _ _ 28 rfl i0 _ Try.underlying28 hii hz0 hz1 hz2 rfl (.slice (some ⟨b, o, none⟩) (q''.length + 1) cu) (q''.length + 1) (((x :: q'') : List Pr).flatMap ac2) rfl HAd.out ⟨wr.heap.size, 0, none⟩ 1 (.int .i64 r') (.int .i64 p) rfl HAx.out HAy.out rfl rfl (by omega) HhB.out ?_; intro g6 o6 c6 w6 hown6 hg6 hat6; have k6 := HKw.out w6 (HBlk.out w6 hg6).1 (HBlk.out w6 hg6).2; have k6a := k6.1; have k6c := k6.2.2; clear k6)) | fail "WALK"
          all_goals
            have hlen6 : (((x :: q'') : List Pr) ++ [(r', p)]).length = q''.length + 1 + 1 := by simp
            have hn6 : g6 ≠ bq := by
              rcases hat6 with h | h
              · exact HNe.out g6 h
              · have h2 : g6 = (wr.alloc (.cells #[.int .i64 r', .int .i64 p] 31)).heap.size := h
                simp at h2; omega
            have HQ6 := Lib.hid (Qs.put (B := B) (q' := ((x :: q'') : List Pr) ++ [(r', p)]) (u := .slice (some ⟨g6, o6, none⟩) (q''.length + 1 + 1) c6) ((HBlk.out w6 hg6).1.trans HQ.out.s) (by rw [hlen6, Lt.flat_snoc]; exact hown6) (fun j hj => by have hj2 : some g6 = some j := hj; injection hj2 with hj2; omega) HQ.out.hb)
            have HB6 := Lib.hid ((HBA.out.grown hg6 HhB.out (fun j hj => (HRlt.out j hj).1)).setCell (p := ⟨bq, 0, none⟩) HQ.out.hb (.slice (some ⟨g6, o6, none⟩) (q''.length + 1 + 1) c6))
            clear hlen6
            go_wp2_with fail
            go_end0
            refine ⟨rfl, ⟨.slice (some ⟨g6, o6, none⟩) (q''.length + 1 + 1) c6, by rw [HD2.out]; exact HQ6.out, fun j hj => ?_⟩, fun k hk1 hk2 hk3 => ?_, HB6.out⟩
            · have hj2 : some g6 = some j := hj
              injection hj2 with hj2
              subst hj2
              rcases hat6 with h | h
              · exact .inl (HE.out.symm.trans h)
              · right
                have h2 : g6 = (wr.alloc (.cells #[.int .i64 r', .int .i64 p] 31)).heap.size := h
                simp at h2
                have := HBt.out; omega
            · have hk4 : k < bt := by rw [← HBt.out]; exact hk1
              exact (heap_setCell_other w6 ⟨bq, 0, none⟩ k _ hk2).trans ((hg6.block k (by show k < (wr.alloc (.cells #[.int .i64 r', .int .i64 p] 31)).heap.size; simp; omega) (fun e => hk3 (HE.out.symm.trans e.symm))).trans ((Below.heap_alloc wr _ k (by omega)).trans (HKB.out k hk4 hk2 hk3)))
end Go.Proofs.Ythdoeckoljflpaa
