/- Notes matched: the candidates. -/
import Derived.Test.YtmamnljgkkjkcaaMs
import Derived.Test.YtmamnljgkkjkcaaMnN
import Derived.Test.YtmamnljgkkjkcaaTq
import Derived.Test.YtmamnljgkkjkcaaBal
import Derived.Maps.AppendAt
import Derived.Deep.AppendLies
import Derived.Deep.RegionHeldLaw
namespace Go.Proofs.Ytmamnljgkkjkcaa
open Go Go.RowKit
theorem infoPu : (Try.prog.info? 124).map (fun i => (i.zero, i.size, i.bytes)) = some (some (.agg #[.int .i64 0, .int .i64 0]), 2, 16) := by kernel_rfl
theorem infoPartsPu : ∃ i : TypeInfo, Try.prog.info? 124 = some i ∧ i.zero = some (.agg #[.int .i64 0, .int .i64 0]) ∧ i.size = 2 ∧ i.bytes = 16 := by
  have h := infoPu
  cases e : Try.prog.info? 124 with
  | none => rw [e] at h; cases h
  | some i =>
    rw [e] at h
    simp only [Option.map_some, Option.some.injEq, Prod.mk.injEq] at h
    exact ⟨i, rfl, h.1, h.2.1, h.2.2⟩
/-- The candidates of each key among the first k notes. -/
def Mn.rows (b : List Tri) (k : Nat) (x y : Int) : List Pr := ((List.range k).filter fun i => (b.getD i t0).1 == x && (b.getD i t0).2.1 == y).map fun i : Nat => ((i : Int), (b.getD i t0).2.2)
theorem Mn.rows_step (b : List Tri) (k : Nat) (x y : Int) : Mn.rows b (k + 1) x y = if (b.getD k t0).1 = x ∧ (b.getD k t0).2.1 = y then Mn.rows b k x y ++ [((k : Int), (b.getD k t0).2.2)] else Mn.rows b k x y := by
  unfold Mn.rows
  rw [List.range_succ, List.filter_append, List.map_append, List.filter_cons, List.filter_nil]
  by_cases c : (b.getD k t0).1 = x ∧ (b.getD k t0).2.1 = y
  · rw [if_pos c, if_pos (by rw [Bool.and_eq_true]; simpa using c)]; rfl
  · rw [if_neg c, if_neg (fun h => c (by rw [Bool.and_eq_true] at h; simpa using h))]; simp
theorem Mn.rows_len (b : List Tri) (k : Nat) (x y : Int) : (Mn.rows b k x y).length ≤ k := by
  unfold Mn.rows
  rw [List.length_map]
  exact Nat.le_trans (List.length_filter_le _ _) (Nat.le_of_eq List.length_range)
/-- A map of rows of the call's own, each in a block of its own. -/
structure Cds (w wr : World) (bm n : Nat) (f : Int → Int → Value) (R : Int → Int → List Pr) : Prop where
  map : IsMs wr bm n f
  row : ∀ x y, (Lit.int .i64 x).wf = true → (Lit.int .i64 y).wf = true → TRow2 124 wr w.heap.size (f x y) (R x y)
  far : ∀ x y j, (Lit.int .i64 x).wf = true → (Lit.int .i64 y).wf = true → (f x y).ownBlock = some j → j ≠ bm
  one : ∀ x y x' y' j, (Lit.int .i64 x).wf = true → (Lit.int .i64 y).wf = true → (Lit.int .i64 x').wf = true → (Lit.int .i64 y').wf = true → (f x y).ownBlock = some j → (f x' y').ownBlock = some j → x = x' ∧ y = y'
  bel : Below w.heap.size w wr
  old : w.heap.size ≤ bm
theorem Cds.start (w : World) : Cds w (w.alloc (.map #[] 0)) w.heap.size 0 (fun _ _ => .slice none 0 0) (fun _ _ => []) :=
  ⟨isMs_made w, fun _ _ _ _ => TRow2.nil _ _ _, (fun _ _ _ _ _ h => nomatch h), (fun _ _ _ _ _ _ _ _ _ h => nomatch h), (Below.refl _ _).alloc (Nat.le_refl _) _, Nat.le_refl _⟩
theorem Cds.lt {w wr : World} {bm n : Nat} {f : Int → Int → Value} {R : Int → Int → List Pr} (h : Cds w wr bm n f R) : bm < wr.heap.size := h.map.lt
theorem Cds.next {w wr W : World} {bm n : Nat} {f : Int → Int → Value} {R : Int → Int → List Pr} (h : Cds w wr bm n f R) (hb : Below wr.heap.size wr W) : Cds w W bm n f R :=
  ⟨h.map.below hb h.lt, fun x y hx hy => (h.row x y hx hy).below hb (Nat.le_refl _), h.far, h.one, h.bel.trans (hb.mono h.bel.size), h.old⟩
theorem TRow2.sl {T : TypeId} {w : World} {B : Nat} {v : Value} {ps : List Pr} (h : TRow2 T w B v ps) : IsSl v := by
  rcases h.2 with ⟨rfl, _⟩ | ⟨b, cap, cur, rfl, _⟩
  · exact .inl rfl
  · exact .inr ⟨b, _, cap, rfl⟩
/-- A row that has grown is put back. -/
theorem Cds.put {w wr W W' : World} {bm n : Nat} {f : Int → Int → Value} {R : Int → Int → List Pr} (h : Cds w wr bm n f R) {x y : Int} (hx : (Lit.int .i64 x).wf = true) (hy : (Lit.int .i64 y).wf = true) {v : Value} {xs : List Pr}
    (hr : TRow2 124 W w.heap.size v xs) (hg : wr.grownBy W (f x y).ownBlock) (hv : v.ownBlock = (f x y).ownBlock ∨ v.ownBlock = some wr.heap.size ∨ v.ownBlock = none)
    (hm : IsMs W' bm (n + 1) (fun p q => if p = x ∧ q = y then v else f p q)) (hg2 : W.grownBy W' (some bm)) : Cds w W' bm (n + 1) (fun p q => if p = x ∧ q = y then v else f p q) (fun p q => if p = x ∧ q = y then xs else R p q) := by
  have hkeep : ∀ p q, (Lit.int .i64 p).wf = true → (Lit.int .i64 q).wf = true → ¬ (p = x ∧ q = y) → TRow2 124 W w.heap.size (f p q) (R p q) := fun p q hp hq hne => by
    refine World.ownsRow.kept (h.row p q hp hq) hg ?_
    cases hb : (f p q).ownBlock with
    | none => exact .inl rfl
    | some k => exact .inr fun e => hne (h.one p q x y k hp hq hx hy hb e.symm)
  have hfarv : ∀ j, v.ownBlock = some j → j ≠ bm := fun j hj => by
    rcases hv with e | e | e
    · exact h.far x y j hx hy (e ▸ hj)
    · rw [e] at hj; injection hj with hj; have := h.lt; omega
    · rw [e] at hj; cases hj
  have hnew : ∀ p q j, (Lit.int .i64 p).wf = true → (Lit.int .i64 q).wf = true → v.ownBlock = some j → (f p q).ownBlock = some j → p = x ∧ q = y := fun p q j hp hq h1 h2 => by
    rcases hv with e | e | e
    · exact h.one p q x y j hp hq hx hy h2 (e ▸ h1)
    · rw [e] at h1; injection h1 with h1
      have := (World.ownsRow.lt (h.row p q hp hq) j h2).2
      omega
    · rw [e] at h1; cases h1
  have hK2 : ∀ (u : Value) (us : List Pr), TRow2 124 W w.heap.size u us → (∀ j, u.ownBlock = some j → j ≠ bm) → TRow2 124 W' w.heap.size u us := fun u us h1 h2 =>
    World.ownsRow.kept h1 hg2 (by
      cases hb : u.ownBlock with
      | none => exact .inl rfl
      | some k => exact .inr fun e => h2 k hb (by injection e))
  refine ⟨hm, fun p q hp hq => ?_, fun p q j hp hq hj => ?_, fun p q p' q' j hp hq hp' hq' h1 h2 => ?_, ?_, h.old⟩
  · by_cases c : p = x ∧ q = y
    · simp only [if_pos c]; exact hK2 v xs hr hfarv
    · simp only [if_neg c]; exact hK2 _ _ (hkeep p q hp hq c) (fun j hj => h.far p q j hp hq hj)
  · by_cases c : p = x ∧ q = y
    · simp only [if_pos c] at hj; exact hfarv j hj
    · simp only [if_neg c] at hj; exact h.far p q j hp hq hj
  · by_cases c : p = x ∧ q = y <;> by_cases c' : p' = x ∧ q' = y
    · exact ⟨c.1.trans c'.1.symm, c.2.trans c'.2.symm⟩
    · simp only [if_pos c, if_neg c'] at h1 h2
      have := hnew p' q' j hp' hq' h1 h2
      exact absurd this c'
    · simp only [if_neg c, if_pos c'] at h1 h2
      exact absurd (hnew p q j hp hq h2 h1) c
    · simp only [if_neg c, if_neg c'] at h1 h2
      exact h.one p q p' q' j hp hq hp' hq' h1 h2
  · have hb1 : Below w.heap.size w W := h.bel.grown hg h.bel.size (fun j hj => (World.ownsRow.lt (h.row x y hx hy) j hj).1)
    exact hb1.grown hg2 hb1.size (fun j hj => by injection hj with hj; have := h.old; omega)
set_option maxHeartbeats 400000 in
theorem key_any (x : Tri) (w : World) :
    Calls Try.prog 94 #[triV x] w fun e w' => e = .returned (.agg #[.int .i64 x.1, .int .i64 x.2.1]) ∧ Below w.heap.size w w' := by
  obtain ⟨d, m, p⟩ := x
  go_enter Try.func94, Try.ntmps94
  go_wp2_with fail
  refine bodyPost_ret (v := .agg #[.int .i64 d, .int .i64 m]) (by simp [results, Try.results94, go_sem]) rfl ⟨rfl, ?_⟩
  repeat (first | exact Below.refl _ _ | refine Below.setCell ?_ (by simp <;> omega) _ | refine Below.alloc ?_ (by simp <;> omega) _)
/-- What holds at each world of a round: the map, and the note's block. -/
structure NQ (w wr W : World) (n : Nat) (f : Int → Int → Value) (R : Int → Int → List Pr) (d m p : Int) : Prop where
  cds : Cds w W w.heap.size n f R
  blk : Blk W wr.heap.size 48 #[.int .i64 d, .int .i64 m, .int .i64 p]
theorem NQ.next {w wr W W' : World} {n : Nat} {f : Int → Int → Value} {R : Int → Int → List Pr} {d m p : Int} (h : NQ w wr W n f R d m p) (hb : Below W.heap.size W W') : NQ w wr W' n f R d m p := ⟨h.cds.next hb, h.blk.below hb h.blk.lt⟩
theorem NQ.alloc {w wr W : World} {n : Nat} {f : Int → Int → Value} {R : Int → Int → List Pr} {d m p : Int} (h : NQ w wr W n f R d m p) (o : Obj) : NQ w wr (W.alloc o) n f R d m p := h.next ((Below.refl _ _).alloc (Nat.le_refl _) o)
theorem NQ.drew {w wr W : World} {n : Nat} {f : Int → Int → Value} {R : Int → Int → List Pr} {d m p : Int} (h : NQ w wr W n f R d m p) : NQ w wr W.drew n f R d m p := h.next (Below.refl _ _).drew
theorem NQ.c {w wr W : World} {n : Nat} {f : Int → Int → Value} {R : Int → Int → List Pr} {d m p : Int} (h : NQ w wr W n f R d m p) : W.cell? ⟨wr.heap.size, 0, none⟩ = some (.int .i64 d) ∧ W.cell? ⟨wr.heap.size, 1, none⟩ = some (.int .i64 m) ∧ W.cell? ⟨wr.heap.size, 2, none⟩ = some (.int .i64 p) := h.blk.three.1
theorem blkDrewM {W : World} {b : Nat} {T : TypeId} {cs : Array Value} (h : Blk W b T cs) : Blk W.drew b T cs := h
theorem Blk.twoM {w : World} {b : Nat} {t : TypeId} {x y : Value} (h : Blk w b t #[x, y]) : w.cell? ⟨b, 0, none⟩ = some x ∧ w.cell? ⟨b, 1, none⟩ = some y := by
  unfold Blk at h
  simp [World.cell?, h]
theorem Blk.pu {W : World} {B : Nat} {T : TypeId} {k p : Int} (h : Blk W B T #[.int .i64 k, .int .i64 p]) : ∀ j u, (ac2 (k, p))[j]? = some u → W.cell? ((⟨B, 0, none⟩ : Addr).add j) = some u := by
  intro j u hu
  obtain ⟨c0, c1⟩ := h.twoM
  have hj : j = 0 ∨ j = 1 := by
    have := (List.getElem?_eq_some_iff.1 hu).1
    simp [ac2] at this
    omega
  rcases hj with rfl | rfl <;> simp [ac2] at hu <;> subst hu
  · simpa [Addr.add] using c0
  · simpa [Addr.add] using c1
theorem Blk.grownM {w w' : World} {b : Nat} {t : TypeId} {cs : Array Value} {row : Option Nat} (h : Blk w b t cs) (hg : w.grownBy w' row) (hne : ∀ j, row = some j → b ≠ j) : Blk w' b t cs :=
  (hg.block b h.lt (fun e => hne b e.symm rfl)).trans h
set_option maxRecDepth 8000 in
set_option maxHeartbeats 4000000 in
theorem candidates_any (w : World) (v : Value) (b : List Tri) (hv : R3o w v b) (hl : b.length ≤ 10) (hw : ∀ i, i < b.length → (0 ≤ (b.getD i t0).1 ∧ (b.getD i t0).1 ≤ 40000) ∧ (1 ≤ (b.getD i t0).2.1 ∧ (b.getD i t0).2.1 ≤ 10000)) :
    Calls Try.prog 68 #[v] w fun e w' => ∃ bm n f, e = .returned (.map (some bm)) ∧ Cds w w' bm n f (Mn.rows b b.length) ∧ n ≤ 10 := by
  have HV := Lib.hid hv
  have HW := Lib.hid hw
  obtain ⟨⟨a, cap, rfl⟩, -⟩ := hv
  clear hw
  have hmk := @run_makeMap Try.prog
  go_enter Try.func68, Try.ntmps68
  go_wp2_with fail
  clear hmk
  have HKy := Lib.hid (fun x W => key_any x W)
  go_loopw [9] (fun x wr => ∃ (k n : Nat) (f : Int → Int → Value), k ≤ b.length ∧ n ≤ k ∧ x = .int .i64 k ∧ Hid (Cds w wr w.heap.size n f (Mn.rows b k))) (fun x _ => b.length - (intOf x).toNat)
  case atStart => exact ⟨0, 0, _, Nat.zero_le _, Nat.le_refl _, rfl, Lib.hid (Cds.start w)⟩
  case round =>
    obtain ⟨k, n, f, hk, hn, rfl, HC⟩ := hrel
    by_cases hlt : k < b.length
    · obtain ⟨bb, off, c, e, hbb, hc⟩ := HV.out.2 (by omega)
      simp only [Value.slice.injEq, true_and] at e
      obtain ⟨rfl, rfl⟩ := e
      obtain ⟨c0, c1, c2⟩ := hc k hlt
      replace c0 := (HC.out.bel.cell (p := ⟨bb, off + k * 3, none⟩) hbb).trans c0
      replace c1 := (HC.out.bel.cell (p := ⟨bb, off + k * 3 + 1, none⟩) hbb).trans c1
      replace c2 := (HC.out.bel.cell (p := ⟨bb, off + k * 3 + 2, none⟩) hbb).trans c2
      clear hc
      obtain ⟨⟨d0, d1⟩, m0, m1⟩ := HW.out k hlt
      have HRs := Lib.hid (fun x y => Mn.rows_step b k x y)
      have HRl := Lib.hid (fun x y => Mn.rows_len b k x y)
      generalize b.getD k t0 = t at c0 c1 c2 d0 d1 m0 m1 HRs
      obtain ⟨d, m, p⟩ := t
      simp only at c0 c1 c2 d0 d1 m0 m1 HRs
      have wfd := wf_i64 (x := d) (by omega) (by omega)
      have wfm := wf_i64 (x := m) (by omega) (by omega)
      have hi0 : (0 : Int) ≤ k := by omega
      have hi1 : (k : Int) < b.length := by omega
      have Q0 := Lib.hid (show NQ w wr (wr.alloc (.cells #[.int .i64 d, .int .i64 m, .int .i64 p] 48)) n f (Mn.rows b k) d m p from ⟨HC.out.next ((Below.refl _ _).alloc (Nat.le_refl _) _), Blk.new wr _ _⟩)
      obtain ⟨i0, hii, hz0, hz1, hz2⟩ := infoPartsPu
      have HVl := Lib.hid (fun j (hj : (f d m).ownBlock = some j) => (World.ownsRow.lt (HC.out.row d m wfd wfm) j hj).2)
      have HLl := HRl.out d m
      have hwl := HC.out.lt
      go_wp2_with fail
      go_region_held_law (fun W => W.cell? ⟨wr.heap.size, 0, none⟩ = some (.int .i64 d) ∧ W.cell? ⟨wr.heap.size, 1, none⟩ = some (.int .i64 m) ∧ W.cell? ⟨wr.heap.size, 2, none⟩ = some (.int .i64 p)) (first | exact Q0.out.drew.c | exact (Q0.out.drew.alloc _).c | exact q5.c | exact (q5.alloc _).c | exact q6.c | exact (q6.alloc _).c | exact k7 | exact k8) (first | (go_at_call 94; refine (HKy.out (d, m, p) _).mono ?_; rintro e w5 ⟨rfl, hb5⟩; have q5 : NQ w wr w5 n f (Mn.rows b k) d m p := (by first | exact Q0.out.drew.next hb5 | exact (Q0.out.drew.alloc _).next hb5); (first | (have s5 := Blk.below (Blk.new _ #[.int .i64 k, .int .i64 p] 124) hb5 (by simp)) | (have s5 := Blk.below (blkDrewM (Blk.new _ #[.int .i64 k, .int .i64 p] 124)) hb5 (by simp)) | skip)) | (go_at_call 94; refine (HKy.out (d, m, p) _).mono ?_; rintro e w6 ⟨rfl, hb6⟩; have q6 : NQ w wr w6 n f (Mn.rows b k) d m p := (by first | exact q5.next hb6 | exact (q5.alloc _).next hb6); (first | (have s6 := Blk.below s5 hb6 s5.lt) | (have s6 := Blk.below (Blk.new w5 #[.int .i64 k, .int .i64 p] 124) hb6 (by simp)) | (have s6 := Blk.below (blkDrewM (Blk.new w5 #[.int .i64 k, .int .i64 p] 124)) hb6 (by simp)) | skip); have L6 := q6.cds.map.look Try.underlying93 (by rfl) d m wfd wfm; have L6a := (q6.alloc (.cells #[.int .i64 k, .int .i64 p] 124)).cds.map.look Try.underlying93 (by rfl) d m wfd wfm) | (refine step_append_lies _ rfl _ _ 119 rfl w.heap.size 124 i0 _ 2 16 Try.underlying119 hii hz0 hz1 hz2 rfl (by decide) (f d m) (Mn.rows b k d m).length ((Mn.rows b k d m).flatMap ac2) rfl (by first | exact q6.cds.row d m wfd wfm | exact (q6.alloc _).cds.row d m wfd wfm) ⟨_, 0, none⟩ 1 1 (ac2 (k, p)) rfl rfl (by first | exact Blk.pu s6 | (have z := Blk.pu s6; simp only [World.size_alloc] at z; exact z) | (have z := Blk.pu s6; simpa using z) | exact Blk.pu (Blk.new _ _ _)) (ac2_one _) (by decide) (by unfold maxLen; omega) (by omega) (by first | exact q6.cds.bel.size | exact (q6.alloc _).cds.bel.size) _ rfl ?_; intro g7 c7 w7 hown7 hg7 hat7 hlt7; have k7b := Blk.grownM (by first | exact q6.blk | exact (q6.alloc _).blk) hg7 (fun j hj e => by have := HVl.out j hj; omega); have k7 := k7b.three.1; obtain ⟨w8, T7, hm8, hg8⟩ := IsMs.put (IsMs.of_block (by first | exact q6.cds.map | exact (q6.alloc (.cells #[.int .i64 k, .int .i64 p] 124)).cds.map) (hg7.block w.heap.size (by first | exact q6.cds.lt | exact (q6.alloc _).cds.lt) (fun e => HC.out.far d m w.heap.size wfd wfm e.symm rfl))) Try.underlying93 (by unfold maxLen; omega) d m (.slice (some ⟨g7, 0, none⟩) ((Mn.rows b k d m).length + 1) c7) wfd wfm (.inr ⟨_, _, _, rfl⟩); have k8 := (Blk.grownM k7b hg8 (fun j hj e => by injection hj with hj; omega)).three.1))
      all_goals try go_wp2_with fail
      all_goals
        have hC8 := Cds.put (by first | exact q6.cds | exact (q6.alloc (.cells #[.int .i64 k, .int .i64 p] 124)).cds) wfd wfm (v := .slice (some ⟨g7, 0, none⟩) ((Mn.rows b k d m).length + 1) c7) (xs := Mn.rows b k d m ++ [((k : Int), p)]) (W := w7) (by unfold TRow2; rw [List.length_append, List.flatMap_append]; simpa using hown7) hg7 (by rcases hat7 with e | e; exact .inl e.symm; exact .inr (.inl (by rw [e]; first | rfl | simp))) hm8 hg8
        have hR : Mn.rows b (k + 1) = fun x y => if x = d ∧ y = m then Mn.rows b k d m ++ [((k : Int), p)] else Mn.rows b k x y := by
          funext x y
          rw [HRs.out]
          by_cases c : d = x ∧ m = y
          · rw [if_pos c, if_pos ⟨c.1.symm, c.2.symm⟩, c.1, c.2]
          · rw [if_neg c, if_neg (fun h => c ⟨h.1.symm, h.2.symm⟩)]
        rw [← hR] at hC8
        have HC8 := Lib.hid hC8
        clear hC8 hR
        go_roundw
        case rel => exact ⟨k + 1, n + 1, _, by omega, by omega, by go_num, HC8⟩
        case measure => simp [intOf]; omega
    · obtain rfl : k = b.length := by omega
      go_wp2_with fail
      go_ret
      exact ⟨_, n, f, rfl, HC.out, by omega⟩
end Go.Proofs.Ytmamnljgkkjkcaa
