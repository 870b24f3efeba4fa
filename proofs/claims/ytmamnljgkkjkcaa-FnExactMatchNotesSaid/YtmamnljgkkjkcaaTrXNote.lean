/- Slices of Notes in the exact laws: copied, counted, compared. -/
import Derived.Test.YtmamnljgkkjkcaaTr
import Derived.Test.YtmamnljgkkjkcaaKp
import Derived.StillTailTactics
namespace Go.Proofs.Ytmamnljgkkjkcaa
open Go.RowKit
theorem stillTNote {P : Program} {id : Nat} {Q : Exit → Act → World → Prop} {a : Act} {w : World} {l : List Oper} (n : Nat) (hm : P.follows .mixedOrders = true) (hB : Region.lexTailB .any l.toArray n = true)
    (h : wpStill P l.toArray w.drew (fun a' => wpList P l.toArray Q (l.drop n) a' w.drew) (l.take n) a) : (Code.region id l.toArray true).wp P Q a w := wp_region_still_tail n hm hB h
theorem infoNote : (Try.prog.info? 48).map (fun i => (i.zero, i.size, i.bytes)) = some (some (.agg #[.int .i64 0, .int .i64 0, .int .i64 0]), 3, 24) := by kernel_rfl
theorem infoPartsNote : ∃ i : TypeInfo, Try.prog.info? 48 = some i ∧ i.zero = some (.agg #[.int .i64 0, .int .i64 0, .int .i64 0]) ∧ i.size = 3 ∧ i.bytes = 24 := by
  have h := infoNote
  cases e : Try.prog.info? 48 with
  | none => rw [e] at h; cases h
  | some i =>
    rw [e] at h
    simp only [Option.map_some, Option.some.injEq, Prod.mk.injEq] at h
    exact ⟨i, rfl, h.1, h.2.1, h.2.2⟩
set_option maxHeartbeats 400000 in
theorem toNote_any (p : Tri) (w : World) :
    Calls Try.prog 79 #[triV p] w fun e w' => e = .returned (triV p) ∧ Below w.heap.size w w' := by
  obtain ⟨x, y, z⟩ := p
  go_enter Try.func79, Try.ntmps79
  go_wp2
  refine bodyPost_ret (v := triV (x, y, z)) (by simp [results, Try.results79, go_sem]) rfl ⟨rfl, ?_⟩
  repeat (refine Below.setCell ?_ (by simp <;> omega) _)
  exact (((Below.refl _ _).alloc (Nat.le_refl _) _).alloc (by simp) _).alloc (by simp; omega) _
set_option maxHeartbeats 400000 in
theorem szNoteS_any (v : Value) (ps : List Tri) (left : Int) (w : World) (hv : R3o w v ps) (hm : ps.length ≤ 9223372036854775807) (h0 : 0 ≤ left) (h1 : left ≤ 1048576) :
    Calls Try.prog 43 #[v, .int .i64 left] w fun e w' => e = .returned (.int .i64 (if left < ps.length then -1 else left - (ps.length : Int))) ∧ w = w' := by
  obtain ⟨⟨a, c, rfl⟩, -⟩ := hv
  by_cases hl : left < ps.length
  · have hl' : left - (ps.length : Int) < 0 := by omega
    go_enter Try.func43, Try.ntmps43
    go_wp2_with fail
    go_ret
    exact ⟨rfl, rfl⟩
  · have hl' : ¬ left - (ps.length : Int) < 0 := by omega
    go_enter Try.func43, Try.ntmps43
    go_wp2_with fail
    go_ret
    exact ⟨rfl, rfl⟩
/-- A copy in memory of the call's own. -/
def CopyNote (ps : List Tri) (w : World) (e : Ending) (w' : World) : Prop := ∃ v, e = .returned v ∧ TRow 48 w' w.heap.size v ps ∧ (∃ b, v = .slice (some ⟨b, 0, none⟩) ps.length ps.length) ∧ Below w.heap.size w w'
set_option maxHeartbeats 2000000 in
theorem toNoteS_any (w : World) (v : Value) (ps : List Tri) (hv : R3o w v ps) (hl : ps.length ≤ 1048576) :
    Calls Try.prog 44 #[v] w (CopyNote ps w) := by
  obtain ⟨⟨a, cap, rfl⟩, h1⟩ := hv
  have H := Lib.hid h1; clear h1
  have hm : (ps.length : Int) ≤ 1048576 := by omega
  obtain ⟨i0, hi, hz0, hz1, hz2⟩ := infoPartsNote
  go_enter Try.func44, Try.ntmps44
  go_wp2_with (at_make; refine wpList_make_full _ rfl _ _ 41 rfl w.heap.size 48 i0 (.agg #[.int .i64 0, .int .i64 0, .int .i64 0]) 3 Try.underlying41 hi hz0 hz1 .i64 .i64 _ _ ps.length rfl rfl rfl rfl (by rw [hz2]; omega) (by unfold maxLen; omega) (by omega) ?_; intro w1 hown hgrow)
  rw [made_tris] at hown
  have hb1 : Below w.heap.size w w1 := (Below.refl _ _).grown hgrow (Nat.le_refl _) (fun j hj => by cases hj)
  have HO : Hid (TRow 48 w1 w.heap.size (.slice (some ⟨w.heap.size, 0, none⟩) (ps.take 0 ++ List.replicate (ps.length - 0) t0).length ps.length) (ps.take 0 ++ List.replicate (ps.length - 0) t0)) := Lib.hid (by unfold TRow; simpa using hown)
  clear hown hgrow
  go_loopw [4] (fun i wr => ∃ k : Nat, k ≤ ps.length ∧ i = .int .i64 k ∧ Hid (TRow 48 wr w.heap.size (.slice (some ⟨w.heap.size, 0, none⟩) (ps.take k ++ List.replicate (ps.length - k) t0).length ps.length) (ps.take k ++ List.replicate (ps.length - k) t0)) ∧ Below w.heap.size w wr) (fun i _ => ps.length - (intOf i).toNat)
  case atStart => exact ⟨0, Nat.zero_le _, rfl, HO, hb1⟩
  case round =>
    obtain ⟨k, hk, rfl, HK, hb⟩ := hrel
    by_cases hlt : k < ps.length
    · obtain ⟨b, off, c, e, hbb, hc⟩ := H.out (by omega)
      simp only [Value.slice.injEq, true_and] at e
      obtain ⟨rfl, rfl⟩ := e
      obtain ⟨c0, c1, c2⟩ := hc k hlt
      replace c0 := (hb.cell (p := ⟨b, off + k * 3, none⟩) hbb).trans c0
      replace c1 := (hb.cell (p := ⟨b, off + k * 3 + 1, none⟩) hbb).trans c1
      replace c2 := (hb.cell (p := ⟨b, off + k * 3 + 2, none⟩) hbb).trans c2
      clear hc
      obtain ⟨x, hx⟩ : ∃ x, x = ps.getD k t0 := ⟨_, rfl⟩
      rw [← hx] at c0 c1 c2
      have HX := Lib.hid hx; clear hx
      obtain ⟨x0, x1, x2⟩ := x
      simp only at c0 c1 c2
      have hlen : (ps.take k ++ List.replicate (ps.length - k) t0).length = ps.length := by simp; omega
      go_wp2_with fail
      refine (toNote_any (x0, x1, x2) _).mono ?_
      rintro e w2 ⟨rfl, hb2⟩
      have hsz := hb.size
      have HK2 := Lib.hid (HK.out.below hb2 (Nat.le_refl _))
      have hb3 := hb.trans (hb2.mono hsz)
      clear hb2 c0 c1 c2
      obtain ⟨b4, cap4, e4, -, hbl4, -, hc4, hf4⟩ := HK2.out.form (by rw [hlen]; omega)
      simp only [Value.slice.injEq, true_and, Option.some.injEq, Addr.mk.injEq, and_true] at e4
      obtain ⟨rfl, -⟩ := e4
      obtain ⟨d0, d1, d2⟩ := hc4 k (by rw [hlen]; exact hlt)
      have g0 := hf4 (k * 3)
      have g1 := hf4 (k * 3 + 1)
      have g2 := hf4 (k * 3 + 2)
      clear hc4 hf4
      have HS := Lib.hid (HK2.out.store k (by rw [hlen]; exact hlt) x0 x1 x2)
      generalize List.getD (ps.take k ++ List.replicate (ps.length - k) t0) k t0 = y at d0 d1 d2
      go_wp2_with fail
      go_roundw
      case rel =>
        refine ⟨k + 1, by omega, by go_num, ?_, ((hb3.setCell (Nat.le_refl _) _).setCell (Nat.le_refl _) _).setCell (Nat.le_refl _) _⟩
        have := HS.out.1
        rw [HX.out, copy_tri hlt] at this
        exact Lib.hid this
      case measure => simp [intOf]; omega
    · have HO2 := HK
      go_wp2_with fail
      go_ret
      have := HO2.out
      rw [List.take_of_length_le (by omega), show ps.length - k = 0 by omega] at this
      simp only [List.replicate_zero, List.append_nil] at this
      exact ⟨_, rfl, this, ⟨_, rfl⟩, hb⟩
set_option maxHeartbeats 400000 in
theorem eqNote_same (p : Tri) (w : World) :
    Calls Try.prog 80 #[triV p, triV p] w fun e w' => e = .returned (.bool true) ∧ Below w.heap.size w w' := by
  obtain ⟨x, y, z⟩ := p
  have e0 : ∀ x : Int, (x != x) = false := fun x => by simp
  have ex := e0 x
  have ey := e0 y
  have ez := e0 z
  clear e0
  go_enter Try.func80, Try.ntmps80
  go_wp2_with fail
  go_ret
  exact ⟨rfl, ((Below.refl _ _).alloc (Nat.le_refl _) _).alloc (by simp) _⟩
set_option maxRecDepth 8000 in
set_option maxHeartbeats 2000000 in
theorem eqNoteS_same (w : World) (v u : Value) (ps : List Tri) (hv : R3 w v ps) (hu : R3 w u ps) (hl : ps.length ≤ 1048576) :
    Calls Try.prog 46 #[v, u] w fun e w' => e = .returned (.bool true) ∧ Below w.heap.size w w' := by
  obtain ⟨⟨a, cap, rfl⟩, h1⟩ := hv
  obtain ⟨⟨a2, cap2, rfl⟩, h2⟩ := hu
  have H := Lib.hid h1; clear h1
  have H2 := Lib.hid h2; clear h2
  have hm : (ps.length : Int) ≤ 1048576 := by omega
  have hne : ((ps.length : Int) != (ps.length : Int)) = false := by simp
  go_enter Try.func46, Try.ntmps46
  go_wp2_with fail
  go_loopw [5] (fun i wr => ∃ k : Nat, k ≤ ps.length ∧ i = .int .i64 k ∧ Below w.heap.size w wr) (fun i _ => ps.length - (intOf i).toNat)
  case atStart => exact ⟨0, Nat.zero_le _, rfl, Below.refl _ _⟩
  case round =>
    obtain ⟨k, hk, rfl, hb⟩ := hrel
    by_cases hlt : k < ps.length
    · obtain ⟨b, c, e, hbb, hc⟩ := H.out (by omega)
      simp only [Value.slice.injEq, true_and] at e
      obtain ⟨rfl, rfl⟩ := e
      obtain ⟨b2, c2, e2, hbb2, hc2⟩ := H2.out (by omega)
      simp only [Value.slice.injEq, true_and] at e2
      obtain ⟨rfl, rfl⟩ := e2
      obtain ⟨c0, c1, c2⟩ := hc k hlt
      replace c0 := (hb.cell (p := ⟨b, k * 3, none⟩) hbb).trans c0
      replace c1 := (hb.cell (p := ⟨b, k * 3 + 1, none⟩) hbb).trans c1
      replace c2 := (hb.cell (p := ⟨b, k * 3 + 2, none⟩) hbb).trans c2
      obtain ⟨d0, d1, d2⟩ := hc2 k hlt
      replace d0 := (hb.cell (p := ⟨b2, k * 3, none⟩) hbb2).trans d0
      replace d1 := (hb.cell (p := ⟨b2, k * 3 + 1, none⟩) hbb2).trans d1
      replace d2 := (hb.cell (p := ⟨b2, k * 3 + 2, none⟩) hbb2).trans d2
      clear hc hc2
      generalize ps.getD k t0 = x at c0 c1 c2 d0 d1 d2
      obtain ⟨x0, x1, x2⟩ := x
      simp only at c0 c1 c2 d0 d1 d2
      have hE := Lib.hid (eqNote_same (x0, x1, x2))
      go_wp2_with fail
      refine stillTNote 8 (by kernel_rfl) (by kernel_rfl) ?_
      simp only [List.take_succ_cons, List.take_zero, List.drop_succ_cons, List.drop_zero]
      repeat still_step
      refine wpStill_nil ?_
      go_wp2_with fail
      refine (hE.out _).mono ?_
      rintro e w2 ⟨rfl, hb2⟩
      go_wp2_with fail
      go_roundw
      case rel => exact ⟨k + 1, by omega, by go_num, hb.drew.trans (hb2.mono hb.size)⟩
      case measure => simp [intOf]; omega
    · go_wp2_with fail
      go_ret
      exact ⟨rfl, hb⟩
end Go.Proofs.Ytmamnljgkkjkcaa
