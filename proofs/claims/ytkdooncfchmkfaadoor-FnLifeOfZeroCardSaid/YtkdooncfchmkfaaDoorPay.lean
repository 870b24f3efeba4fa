/- The payments behind a day: model and program. -/
import Derived.Test.YtkdooncfchmkfaaDoorZB
import Derived.Lib.SliceRun
namespace Go.Proofs.YtkdooncfchmkfaaDoor
open Go.RowKit
/-- The payments behind a day. -/
noncomputable def aftL (fs : List Flo) (d : Int) : List Flo := fs.filter fun p => decide (d < p.1)
theorem aft_take {fs : List Flo} {i : Nat} {y : Flo} {d : Int} (hi : i < fs.length) (hy : fs.getD i f0 = y) : aftL (fs.take (i + 1)) d = aftL (fs.take i) d ++ (if d < y.1 then [y] else []) := by
  rw [← take_more hi hy]
  unfold aftL
  rw [List.filter_append]
  by_cases c : d < y.1 <;> simp [c]
theorem aft_len (fs : List Flo) (d : Int) : (aftL fs d).length ≤ fs.length := List.length_filter_le _ _
def AftL (fs : List Flo) (d : Int) (w : World) (x : Ending) (w' : World) : Prop := ∃ v, x = .returned v ∧ FRow w' w.heap.size v (aftL fs d) ∧ (v = .slice none 0 0 ↔ fs = []) ∧ Below w.heap.size w w'
set_option maxRecDepth 8000 in
set_option maxHeartbeats 4000000 in
theorem sAfter_any (s e m r d : Int) (w : World) :
    Calls Tryd.prog 39 #[.agg #[.int .i64 s, .int .i64 e, .int .i64 m, .int .i64 r], .int .i64 d] w (AftL (floL s e m r) d w) := by
  have HVB := Lib.hid (sVBond_any s e m r)
  have hlen : (floL s e m r).length ≤ 40 := by rw [floL_len]; exact perL_len s e m r
  have HFW := Lib.hid (sFlows_any s e m r)
  have HB := Lib.hid (((Below.refl w.heap.size w).alloc (Nat.le_refl _) (.cells #[.int .i64 s, .int .i64 e, .int .i64 m, .int .i64 r] 27)).alloc (by simp) (.cells #[] 39))
  have HKB := Lib.hid ((Blk.new w #[.int .i64 s, .int .i64 e, .int .i64 m, .int .i64 r] 27).alloc (.cells #[] 39))
  have HPF := Lib.hid ((pf_new (w.alloc (.cells #[.int .i64 s, .int .i64 e, .int .i64 m, .int .i64 r] 27))))
  have hl := floL_len s e m r
  have hvb : vbB s e m r = decide (0 < (floL s e m r).length) := by rw [hl]; rfl
  have hz' : (floL s e m r).length ≠ 0 → perL s e m r ≠ [] := fun h k => by rw [k] at hl; exact h hl
  obtain ⟨fs, hfs⟩ : ∃ fs, fs = floL s e m r := ⟨_, rfl⟩
  unfold FlowsL at HFW
  rw [← hfs] at hlen hvb hz' HFW ⊢
  clear hfs hl
  obtain ⟨n, hn⟩ : ∃ n, n = fs.length := ⟨_, rfl⟩
  rw [← hn] at hlen hvb hz'
  have HN := Lib.hid hn
  by_cases hz : n = 0
  · have hE : fs = [] := List.eq_nil_of_length_eq_zero (by omega)
    have E := Lib.hid hE
    rw [hvb, decide_eq_false (by omega)] at HVB
    clear hvb hz' hE
    go_enter Tryd.func39, Tryd.ntmps39
    go_wp2_with fail
    refine (HVB.out _).mono ?_
    rintro x w1 ⟨rfl, hb⟩
    have HB1 := Lib.hid (HB.out.trans (hb.mono (by simp <;> omega)))
    clear hb
    go_wp2_with fail
    go_ret
    exact ⟨_, rfl, by rw [E.out]; exact FRow.nil _ _, by simp [E.out], HB1.out⟩
  · have hE : fs ≠ [] := fun h => by rw [h] at hn; exact hz hn
    have E := Lib.hid hE
    rw [hvb, decide_eq_true (by omega)] at HVB
    have HZ := Lib.hid (hz' hz)
    clear hvb hz' hE
    go_enter Tryd.func39, Tryd.ntmps39
    go_wp2_with fail
    refine (HVB.out _).mono ?_
    rintro x w0 ⟨rfl, hb⟩
    obtain ⟨k0, k1, k2, k3⟩ := (HKB.out.below hb (by simp <;> omega)).four
    have HB0 := Lib.hid (HB.out.trans (hb.mono (by simp <;> omega)))
    have HP0 := Lib.hid (HPF.out.below hb)
    clear hb
    go_wp2_with fail
    refine (HFW.out _ HZ.out).mono ?_
    rintro x w1 ⟨v, rfl, hr, hb⟩
    obtain ⟨b, c, rfl, hBb, hbl⟩ := hr.form
    have HC := Lib.hid (fun i (hi : i < n) => (hr.1.at_ rfl (show i < fs.length by omega)).1)
    have HB1 := Lib.hid (HB0.out.trans (hb.mono HB0.out.size))
    have HP1 := Lib.hid (HP0.out.below hb)
    have hob0 : (w.alloc (.cells #[.int .i64 s, .int .i64 e, .int .i64 m, .int .i64 r] 27)).heap.size < w0.heap.size := (World.ownsRow.lt HP0.out.1 _ rfl).2
    clear hb hr k0 k1 k2 k3
    rw [← hn]
    clear hn
    simp only [World.size_alloc] at hob0 HP1
    obtain ⟨i0, hi, hz0, hz1, hz2⟩ := info_parts infoF
    go_wp2_with fail
    go_loopw [5, 7] (fun o x wr => ∃ i ob oc : Nat, i ≤ n ∧ x = .int .i64 i ∧ o = .slice (some ⟨ob, 0, none⟩) (aftL (fs.take i) d).length oc ∧ Hid (FRow wr (w.heap.size + 1) o (aftL (fs.take i) d)) ∧ Hid (∀ j, j < n → wr.cell? ⟨b, j * 2, none⟩ = some (.int .i64 (fs.getD j f0).1) ∧ wr.cell? ⟨b, j * 2 + 1, none⟩ = some (.int .i64 (fs.getD j f0).2)) ∧ Below w.heap.size w wr ∧ (w.heap.size < ob ∧ ob ≠ b ∧ b < wr.heap.size)) (fun _ x _ => n - (intOf x).toNat)
    case atStart => exact ⟨0, w.heap.size + 1, 0, Nat.zero_le _, rfl, rfl, Lib.hid (by simpa [aftL] using HP1.out.1), HC, HB1.out, by omega, by omega, hbl⟩
    case round =>
      obtain ⟨i, ob, oc, hi', rfl, rfl, HF, HCr, hbr, hob, hol, hlr⟩ := hrel
      by_cases hlt : i < n
      · obtain ⟨q0, q1⟩ := HCr.out i hlt
        obtain ⟨y, hy⟩ : ∃ y, y = fs.getD i f0 := ⟨_, rfl⟩
        have HT := Lib.hid (aft_take (d := d) (by rw [← HN.out]; exact hlt) hy.symm)
        rw [← hy] at q0 q1
        clear hy
        obtain ⟨t, C⟩ := y
        simp only at q0 q1
        by_cases hd : d < t
        · have HPw : Hid (PF wr (w.heap.size + 1) (.slice (some ⟨ob, 0, none⟩) (aftL (fs.take i) d).length oc) (aftL (fs.take i) d)) := Lib.hid ⟨HF.out, by simp⟩
          have hla : (aftL (fs.take i) d).length ≤ 40 := by
            have h1 := aft_len (fs.take i) d
            have h2 : (fs.take i).length ≤ i := by rw [List.length_take]; omega
            omega
          rw [if_pos hd] at HT
          have HLA := Lib.hid hla
          have hwsz := hbr.size
          clear hla
          go_wp2_with (at_builtin; refine wpList_pushF _ rfl _ _ rfl (w.heap.size + 1) (.slice (some ⟨ob, 0, none⟩) (aftL (fs.take i) d).length oc) (aftL (fs.take i) d) rfl (HPw.out.alloc _) wr.heap.size _ (t, C) rfl (cell_two wr (t, C) _) (by have := HLA.out; omega) (by simp; omega) ?_; intro v4 w4 hown4 hg4 hv4)
          have HV4 := Lib.hid hv4
          have HO4 := Lib.hid hown4
          have HG4 := Lib.hid hg4
          clear hv4 hown4 hg4
          go_roundw
          case rel =>
            obtain ⟨gg, cap, rfl, hgB, hgl⟩ := HO4.out.form
            have hgg : gg = ob ∨ gg = wr.heap.size + 1 := by have := HV4.out; simpa [Value.ownBlock] using this
            have hsz4 := HG4.out.size
            have hE4 : (aftL (fs.take i) d ++ [(t, C)]).length = (aftL (fs.take (i + 1)) d).length := by rw [HT.out]
            refine ⟨i + 1, gg, cap, by omega, by go_num, by rw [hE4], by rw [HT.out]; exact Lib.hid HO4.out.1, Lib.hid fun j hj => ?_, ?_, by omega, by omega, ?_⟩
            · obtain ⟨z0, z1⟩ := HCr.out j hj
              have hh : ∀ k, w4.cell? ⟨b, k, none⟩ = wr.cell? ⟨b, k, none⟩ := fun k => (HG4.out.cell_far _ (by simp; omega) (by simp [Value.ownBlock]; omega)).trans ((World.grownBy_alloc wr (.cells #[.int .i64 t, .int .i64 C] 39) none).cell_far _ hlr (by simp))
              exact ⟨(hh _).trans z0, (hh _).trans z1⟩
            · exact (hbr.alloc hbr.size _).grown HG4.out (by have := hbr.size; simp; omega) (fun j hj => by simp [Value.ownBlock] at hj; omega)
            · simp at hsz4; omega
          case measure => simp [intOf] <;> omega
        · rw [if_neg hd, List.append_nil] at HT
          go_wp2_with fail
          go_roundw
          case rel => exact ⟨i + 1, ob, oc, by omega, by go_num, by rw [HT.out], by rw [HT.out]; exact HF, HCr, hbr, hob, hol, hlr⟩
          case measure => simp [intOf] <;> omega
      · obtain rfl : i = n := by omega
        have htk : fs.take i = fs := by rw [HN.out]; exact List.take_length
        have HTK := Lib.hid htk
        clear htk
        go_wp2_with fail
        go_ret
        refine ⟨_, rfl, (show FRow wr w.heap.size (.slice (some ⟨ob, 0, none⟩) (aftL (fs.take i) d).length oc) (aftL fs d) from ?_), by simp [E.out], hbr⟩
        have h := HF.out.lower (Nat.le_succ _)
        rwa [HTK.out] at h ⊢
/-- The first one that is not behind the day. -/
def IsF (fs : List Flo) (d x : Int) : Prop := (x = -1 ∧ ∀ i, i < fs.length → d < (fs.getD i f0).1) ∨ ∃ i : Nat, x = i ∧ i < fs.length ∧ (fs.getD i f0).1 ≤ d ∧ ∀ j, j < i → d < (fs.getD j f0).1
set_option maxHeartbeats 400000 in
theorem cloF_any (w : World) (p : Flo) (d : Int) (B : Nat) (hB : w.cell? ⟨B, 0, none⟩ = some (.int .i64 d)) :
    Calls Tryd.prog 59 #[.agg #[.int .i64 p.1, .int .i64 p.2], .pointer (some ⟨B, 0, none⟩)] w fun x w' => x = .returned (.bool (decide (p.1 ≤ d))) ∧ Below w.heap.size w w' := by
  obtain ⟨t, c⟩ := p
  have hlt : B < w.heap.size := World.block_lt_of_cell? w _ hB
  have hc : (w.alloc (.cells #[.int .i64 t, .int .i64 c] 39)).cell? ⟨B, 0, none⟩ = some (.int .i64 d) := by
    rw [World.cell?_alloc_lt _ _ ⟨B, 0, none⟩ hlt]; exact hB
  clear hB
  go_enter Tryd.func59, Tryd.ntmps59
  go_wp2_with fail
  go_ret
  exact ⟨rfl, (Below.refl _ _).alloc (Nat.le_refl _) _⟩
set_option maxHeartbeats 1000000 in
theorem indexF_any (w : World) (v : Value) (fs : List Flo) (d : Int) (B : Nat) (hv : RdF w v fs) (hm : fs.length ≤ 40) (hB : w.cell? ⟨B, 0, none⟩ = some (.int .i64 d)) :
    Calls Tryd.prog 76 #[v, .func (.func 59) #[] #[.pointer (some ⟨B, 0, none⟩)]] w fun e w' => ∃ x, e = .returned (.int .i64 x) ∧ IsF fs d x ∧ Below w.heap.size w w' := by
  have hBl : B < w.heap.size := World.block_lt_of_cell? w _ hB
  have HB := Lib.hid hB; clear hB
  obtain ⟨⟨a, c, rfl⟩, h1⟩ := hv
  have H1 := Lib.hid h1; clear h1
  obtain ⟨n, hn⟩ : ∃ n, n = fs.length := ⟨_, rfl⟩
  rw [← hn] at hm ⊢
  have HN := Lib.hid hn; clear hn
  go_enter Tryd.func76, Tryd.ntmps76
  go_wp2_with fail
  go_loopw [8] (fun x wr => ∃ i : Nat, i ≤ n ∧ x = .int .i64 i ∧ Below w.heap.size w wr ∧ Hid (∀ j, j < i → d < (fs.getD j f0).1)) (fun x _ => n - (intOf x).toNat)
  case atStart => exact ⟨0, Nat.zero_le _, rfl, Below.refl _ _, Lib.hid (fun j hj => by omega)⟩
  case round =>
    obtain ⟨i, hi, rfl, hb, HH⟩ := hrel
    by_cases hlt : i < n
    · obtain ⟨b, d', e, hbl, hc⟩ := H1.out (by rw [← HN.out]; omega)
      rw [← HN.out] at e
      simp only [Value.slice.injEq, true_and] at e
      obtain ⟨rfl, rfl⟩ := e
      obtain ⟨c0, c1⟩ := hc i (by rw [← HN.out]; exact hlt)
      replace c0 := (hb.cell (p := ⟨b, i * 2, none⟩) hbl).trans c0
      replace c1 := (hb.cell (p := ⟨b, i * 2 + 1, none⟩) hbl).trans c1
      clear hc
      have hcl := Lib.hid (cloF_any wr (fs.getD i f0) d B ((hb.cell (p := ⟨B, 0, none⟩) hBl).trans HB.out))
      have hsz := hb.size
      cases hh : decide ((fs.getD i f0).1 ≤ d) with
      | true =>
        have hcl2 := hcl.out
        rw [hh] at hcl2
        have HC := Lib.hid hcl2
        have HF : Hid (IsF fs d i) := Lib.hid (.inr ⟨i, rfl, by rw [← HN.out]; exact hlt, of_decide_eq_true hh, HH.out⟩)
        clear hcl hcl2 hh
        generalize fs.getD i f0 = p at c0 c1 HC
        go_wp2_with fail
        refine HC.out.mono ?_
        rintro x w2 ⟨rfl, hb2⟩
        go_wp2_with fail
        go_ret
        exact ⟨_, rfl, HF.out, hb.trans (hb2.mono hsz)⟩
      | false =>
        have hcl2 := hcl.out
        rw [hh] at hcl2
        have HC := Lib.hid hcl2
        have HF : Hid (d < (fs.getD i f0).1) := Lib.hid (by have := of_decide_eq_false hh; omega)
        clear hcl hcl2 hh
        generalize hp : fs.getD i f0 = p at c0 c1 HC
        clear hp
        go_wp2_with fail
        refine HC.out.mono ?_
        rintro x w2 ⟨rfl, hb2⟩
        go_wp2_with fail
        go_roundw
        case rel =>
          refine ⟨i + 1, by omega, by go_num, hb.trans (hb2.mono hsz), Lib.hid (fun j hj => ?_)⟩
          rcases Nat.lt_or_ge j i with q | q
          · exact HH.out j q
          · obtain rfl : j = i := by omega
            exact HF.out
        case measure => simp [intOf] <;> omega
    · obtain rfl : i = n := by omega
      have HF : Hid (IsF fs d (-1)) := Lib.hid (.inl ⟨rfl, fun j hj => HH.out j (by rw [HN.out]; exact hj)⟩)
      go_wp2_with fail
      go_ret
      exact ⟨_, rfl, HF.out, hb⟩
/-- 'clear(s)': its cells hold the element type's zero value; nothing else turns. -/
theorem run_clear_any {P : Program} (w : World) (t e ty : TypeId) (z : Value) (ht : P.underlying t = some (.slice e)) (hv : ∀ w, (zeroValue e).run P w = .ok z w) (h1 : ∀ v ∈ (Builtin.zeroCells z.cells 1).toList, v.oneCell' = true) (b o n c : Nat) (m : Nat) (hm : z.cells.size = m) (hn : 0 < n)
    (hc : ∀ j, j < n * m → (w.cell? ⟨b, o + j, none⟩).isSome = true) (hf : ∀ j, j < n * m → w.frozen? ⟨b, o + j, none⟩ = false) :
    ∃ vs : List Value, (Builtin.clear_ #[t] ty #[.slice (some ⟨b, o, none⟩) n c]).run P w = .ok (.tuple #[]) (w.setCells b o vs) := by
  subst hm
  refine ⟨(Builtin.zeroCells z.cells n).toList, ?_⟩
  have hl : (Builtin.zeroCells z.cells n).toList.length = n * z.cells.size := by simp [Builtin.zeroCells]
  have hst := run_storeCells_cells (P := P) b o (Builtin.zeroCells z.cells n).toList 0 w (by rw [hl]; simpa using hc) (by rw [hl]; simpa using hf) (by
    intro v hv'
    refine h1 v ?_
    simp only [Builtin.zeroCells, Array.toList_map, List.mem_map, Array.mem_toList_iff, Array.mem_range] at hv' ⊢
    obtain ⟨i, hi, rfl⟩ := hv'
    have hp : 0 < z.cells.size := by
      rcases Nat.eq_zero_or_pos z.cells.size with h | h
      · rw [h] at hi; omega
      · exact h
    exact ⟨i % z.cells.size, by have := Nat.mod_lt i hp; omega, by rw [Nat.mod_mod]⟩)
  simp only [Nat.add_zero] at hst
  obtain ⟨k, rfl⟩ : ∃ k, n = k + 1 := ⟨n - 1, by omega⟩
  simp [Builtin.clear_, run_underlying ht, hv, hst]
theorem FRow.past {B b k cap : Nat} {fs : List Flo} (hk : fs.length = k) : ∀ (vs : List Value) (o : Nat) (w : World), FRow w B (.slice (some ⟨b, 0, none⟩) k cap) fs → k * 2 ≤ o →
    FRow (w.setCells b o vs) B (.slice (some ⟨b, 0, none⟩) k cap) fs ∧ w.grownBy (w.setCells b o vs) (some b)
  | [], _, w, h, _ => ⟨h, ⟨rfl, rfl, rfl, Nat.le_refl _, fun _ _ _ => rfl⟩⟩
  | v :: vs, o, w, h, ho => by
    have h0 : w.ownsRow B 39 2 (.slice (some ⟨b, 0, none⟩) k cap) k (fs.flatMap fc) := by rw [← hk]; rw [← hk] at h; exact h
    have h1 := World.ownsRow.stored h0 o v
    have e : (fs.flatMap fc).set o v = fs.flatMap fc := List.set_eq_of_length_le (by have := h0.1; omega)
    rw [e] at h1
    have ih := FRow.past hk vs (o + 1) _ (show FRow (w.setCell ⟨b, o, none⟩ v) B (.slice (some ⟨b, 0, none⟩) k cap) fs by unfold FRow; rw [hk]; exact h1.1) (by omega)
    exact ⟨ih.1, h1.2.trans ih.2⟩
theorem fflat_cut : ∀ (fs : List Flo) (k : Nat), (fs.flatMap fc).take (k * 2) = (fs.take k).flatMap fc
  | [], k => by simp
  | p :: fs, 0 => by simp
  | p :: fs, k + 1 => by
    have ih := fflat_cut fs k
    rw [List.flatMap_cons, List.take_succ_cons, List.flatMap_cons, ← ih, show (k + 1) * 2 = k * 2 + 1 + 1 by omega]
    show List.take (k * 2 + 1 + 1) (Value.int .i64 p.1 :: .int .i64 p.2 :: fs.flatMap fc) = _
    simp [fc, List.take_succ_cons]
theorem FRow.cut {w : World} {B b n cap : Nat} {fs : List Flo} (h : FRow w B (.slice (some ⟨b, 0, none⟩) n cap) fs) (hn : fs.length = n) {k : Nat} (hk : k ≤ n) :
    FRow w B (.slice (some ⟨b, 0, none⟩) k cap) (fs.take k) := by
  obtain ⟨h1, h2⟩ := h
  have hl : (fs.take k).length = k := by rw [List.length_take]; omega
  rcases h2 with ⟨h3, _⟩ | ⟨g, c, cur, e, hb, hblk, hc1, hc2, hs, ht⟩
  · simp at h3
  · simp only [Value.slice.injEq, Option.some.injEq, Addr.mk.injEq, and_true] at e
    obtain ⟨rfl, -, rfl⟩ := e
    refine ⟨?_, .inr ⟨b, cap, cur, by rw [hl], hb, hblk, by omega, hc2, hs, ?_⟩⟩
    · rw [← fflat_cut, List.length_take, h1, hl]; omega
    · rw [← fflat_cut, ← ht, List.take_take, hl]
      congr 1
      omega
theorem aft_none {fs : List Flo} {d : Int} : ∀ {i : Nat}, i ≤ fs.length → (∀ j, j < i → d < (fs.getD j f0).1) → aftL (fs.take i) d = fs.take i
  | 0, _, _ => by simp [aftL]
  | i + 1, hi, h => by
    have ih := aft_none (fs := fs) (d := d) (i := i) (by omega) (fun j hj => h j (by omega))
    rw [aft_take (by omega) rfl, ih, if_pos (h i (by omega))]
    exact take_more (by omega) rfl
theorem take_put {α : Type} : ∀ (l : List α) (i : Nat) (x : α), i < l.length → (l.set i x).take (i + 1) = l.take i ++ [x]
  | [], i, x, h => by simp at h
  | a :: l, 0, x, _ => by simp
  | a :: l, i + 1, x, h => by
    have ih := take_put l i x (by simpa using h)
    rw [List.set_cons_succ, List.take_succ_cons, ih]
    simp
theorem zeroF (w : World) : (zeroValue 39).run Tryd.prog w = .ok (.agg #[.int .i64 0, .int .i64 0]) w := by kernel_rfl
set_option maxRecDepth 8000 in
set_option maxHeartbeats 4000000 in
theorem del_any (fs : List Flo) (d : Int) (b n c B L : Nat) (w : World) (hv : FRow w L (.slice (some ⟨b, 0, none⟩) n c) fs) (hn : fs.length = n) (hm : n ≤ 40) (hB : w.cell? ⟨B, 0, none⟩ = some (.int .i64 d)) (hbB : b ≠ B) :
    Calls Tryd.prog 57 #[.slice (some ⟨b, 0, none⟩) n c, .func (.func 59) #[] #[.pointer (some ⟨B, 0, none⟩)]] w fun x w' => ∃ k, k ≤ n ∧ x = .returned (.slice (some ⟨b, 0, none⟩) k c) ∧ FRow w' L (.slice (some ⟨b, 0, none⟩) k c) (aftL fs d) ∧ w.grownBy w' (some b) := by
  have hBl : B < w.heap.size := World.block_lt_of_cell? w _ hB
  have hbl : b < w.heap.size := (World.ownsRow.lt hv b rfl).2
  have HIX := Lib.hid (indexF_any w (.slice (some ⟨b, 0, none⟩) n c) fs d B (by have := hv.rd; exact this) (by omega) hB)
  have HV := Lib.hid hv
  have HB := Lib.hid hB
  have HN := Lib.hid hn
  clear hv hB hn
  go_enter Tryd.func57, Tryd.ntmps57
  go_wp2_with fail
  refine HIX.out.mono ?_
  rintro x w1 ⟨x, rfl, hx, hb1⟩
  have HV1 := Lib.hid (HV.out.below hb1 (Nat.le_refl _))
  have HB1 := Lib.hid ((hb1.cell (p := ⟨B, 0, none⟩) hBl).trans HB.out)
  have HBW := Lib.hid hb1
  have hsz1 := hb1.size
  clear hb1
  rcases hx with ⟨rfl, hx⟩ | ⟨i0, rfl, hi0, hh0, hbf⟩
  · have HE : Hid (aftL fs d = fs) := Lib.hid (by
      have := aft_none (fs := fs) (d := d) (i := fs.length) (Nat.le_refl _) hx
      rwa [List.take_length] at this)
    clear hx
    go_wp2_with fail
    go_ret
    exact ⟨n, Nat.le_refl _, rfl, by rw [HE.out]; exact HV1.out, ⟨HBW.out.os, HBW.out.tape, HBW.out.output, HBW.out.size, fun k hk _ => HBW.out.block k hk⟩⟩
  · have HE : Hid (fs.take i0 = aftL (fs.take (i0 + 1)) d) := Lib.hid (by
      rw [aft_take hi0 rfl, aft_none (Nat.le_of_lt hi0) hbf, if_neg (by omega), List.append_nil])
    rw [HN.out] at hi0
    have hne : ((i0 : Int) == -1) = false := by simp
    clear hh0 hbf
    go_wp2_with fail
    go_loopw [5, 6, 7] (fun x y _ wr => ∃ (i j : Nat) (cur : List Flo), i < j ∧ j ≤ n ∧ x = .int .i64 i ∧ y = .int .i64 j ∧ cur.length = n ∧ Hid (FRow wr L (.slice (some ⟨b, 0, none⟩) n c) cur) ∧ Hid (cur.take i = aftL (fs.take j) d) ∧ Hid (∀ k, j ≤ k → cur.getD k f0 = fs.getD k f0) ∧ Hid (wr.cell? ⟨B, 0, none⟩ = some (.int .i64 d)) ∧ w.grownBy wr (some b)) (fun _ y _ _ => n - (intOf y).toNat)
    case atStart => exact ⟨i0, i0 + 1, fs, by omega, by omega, rfl, by go_num, HN.out, HV1, HE, Lib.hid (fun _ _ => rfl), HB1, ⟨HBW.out.os, HBW.out.tape, HBW.out.output, HBW.out.size, fun k hk _ => HBW.out.block k hk⟩⟩
    case round =>
      obtain ⟨i, j, cur, hij, hj, rfl, rfl, hcl, HF, HA, HG, HBr, hgr⟩ := hrel
      by_cases hlt : j < n
      · obtain ⟨⟨q0, q1⟩, -, -⟩ := HF.out.at_ hcl hlt
        have hg := HG.out j (Nat.le_refl _)
        rw [hg] at q0 q1
        have hszr := hgr.size
        have HC := Lib.hid (fun W hW => cloF_any W (fs.getD j f0) d B hW)
        have HAT := Lib.hid (aft_take (fs := fs) (i := j) (y := fs.getD j f0) (d := d) (by rw [HN.out]; exact hlt) rfl)
        clear hg
        generalize fs.getD j f0 = p at q0 q1 HC HAT
        obtain ⟨t, C⟩ := p
        simp only at q0 q1 HC HAT
        have HF2 := Lib.hid (HF.out.alloc (.cells #[.int .i64 t, .int .i64 C] 39))
        have HBr2 := Lib.hid (show (wr.alloc (.cells #[.int .i64 t, .int .i64 C] 39)).cell? ⟨B, 0, none⟩ = some (.int .i64 d) by rw [World.cell?_alloc_lt _ _ ⟨B, 0, none⟩ (Nat.lt_of_lt_of_le hBl hszr)]; exact HBr.out)
        have hKB := Blk.new wr #[.int .i64 t, .int .i64 C] 39
        have HKB := Lib.hid hKB
        clear hKB
        by_cases hd : t ≤ d
        · rw [if_neg (show ¬ d < t by omega), List.append_nil] at HAT
          rw [decide_eq_true hd] at HC
          go_wp2_with fail
          refine (HC.out _ HBr2.out).mono ?_
          rintro x w3 ⟨rfl, hb3⟩
          have hb3s := hb3.size
          go_wp2_with fail
          go_roundw
          case rel => exact ⟨i, j + 1, cur, by omega, by omega, rfl, by go_num, hcl, Lib.hid (HF2.out.below hb3 (Nat.le_refl _)), Lib.hid (by rw [HAT.out]; exact HA.out), Lib.hid (fun k hk => HG.out k (by omega)), Lib.hid ((hb3.cell (p := ⟨B, 0, none⟩) (by simp; omega)).trans HBr2.out), (hgr.trans (World.grownBy_alloc wr (.cells #[.int .i64 t, .int .i64 C] 39) (some b))).trans ⟨hb3.os, hb3.tape, hb3.output, hb3.size, fun k hk _ => hb3.block k hk⟩⟩
          case measure => simp [intOf] <;> omega
        · rw [if_pos (show d < t by omega)] at HAT
          rw [decide_eq_false hd] at HC
          go_wp2_with fail
          refine (HC.out _ HBr2.out).mono ?_
          rintro x w3 ⟨rfl, hb3⟩
          have hb3s := hb3.size
          obtain ⟨e0, e1⟩ := (HKB.out.below hb3 (by simp)).two
          have HF3 := Lib.hid (HF2.out.below hb3 (Nat.le_refl _))
          have HST := Lib.hid (FRow.store (show FRow w3 L (.slice (some ⟨b, 0, none⟩) cur.length c) cur by rw [hcl]; exact HF3.out) i (by omega) t C)
          obtain ⟨⟨v0, v1⟩, z0, z1⟩ := HF3.out.at_ hcl (i := i) (by omega)
          have HB3 := Lib.hid hb3
          have hi1 : (i : Int) < n := by omega
          clear hb3
          go_wp2_with fail
          go_roundw
          case rel =>
            have hst := HST.out
            rw [show (cur.set i (t, C)).length = n by rw [List.length_set]; exact hcl] at hst
            refine ⟨i + 1, j + 1, cur.set i (t, C), by omega, by omega, by go_num, by go_num, by rw [List.length_set]; exact hcl, Lib.hid hst.1, Lib.hid ?_, Lib.hid fun k hk => ?_, Lib.hid ?_, ?_⟩
            · rw [take_put cur i _ (by omega), HA.out, HAT.out]
            · rw [set_at cur i k (t, C) (by omega), if_neg (by omega)]; exact HG.out k (by omega)
            · rw [World.cell?_setCell_other _ _ _ _ (by intro e; injection e; omega), World.cell?_setCell_other _ _ _ _ (by intro e; injection e; omega)]
              exact (HB3.out.cell (p := ⟨B, 0, none⟩) (by simp; omega)).trans HBr2.out
            · exact ((hgr.trans (World.grownBy_alloc wr (.cells #[.int .i64 t, .int .i64 C] 39) (some b))).trans ⟨HB3.out.os, HB3.out.tape, HB3.out.output, HB3.out.size, fun k hk _ => HB3.out.block k hk⟩).trans hst.2
          case measure => simp [intOf] <;> omega
      · obtain rfl : j = n := by omega
        obtain ⟨b', c', e', -, -, hcap, -, hfr⟩ := HF.out.form (by omega)
        simp only [Value.slice.injEq, Option.some.injEq, Addr.mk.injEq, and_true] at e'
        obtain ⟨rfl, -, rfl⟩ := e'
        have hjc : j ≤ c := by omega
        have hci : c ≠ i := by omega
        have HFR := Lib.hid hfr
        clear hcap hfr
        have HCL : Hid (∃ vs : List Value, (Builtin.clear_ #[61] 0 #[.slice (some ⟨b, i * 2, none⟩) (j - i) (c - i)]).run Tryd.prog wr = .ok (.tuple #[]) (wr.setCells b (i * 2) vs)) :=
          Lib.hid (run_clear_any wr _ 39 0 _ Tryd.underlying61 zeroF (of_decide_eq_true (by kernel_rfl)) b (i * 2) (j - i) (c - i) 2 rfl (by omega)
            (fun k hk => by
              have hO : wr.ownsRow L 39 2 (.slice (some ⟨b, 0, none⟩) j c) j (cur.flatMap fc) := by have h := HF.out; unfold FRow at h; rwa [hcl] at h
              have h := World.ownsRow.cellAt hO (i * 2 + k) (by omega)
              have h2 := hO.1
              rw [h, List.getElem?_eq_getElem (by omega)]; rfl)
            (fun k _ => HFR.out _))
        obtain ⟨vs, hvs⟩ := HCL.out
        have HP := Lib.hid (FRow.past (b := b) (cap := c) (fs := cur.take i) (k := i) (by rw [List.length_take]; omega) vs (i * 2) wr (HF.out.cut hcl (Nat.le_of_lt hij)) (Nat.le_refl _))
        have HA2 : Hid (cur.take i = aftL fs d) := Lib.hid (by have h := HA.out; rwa [← HN.out, List.take_length] at h)
        clear HCL
        go_wp2_with fail
        go_ret
        exact ⟨i, Nat.le_of_lt hij, rfl, by have h := HP.out.1; rwa [HA2.out] at h, hgr.trans HP.out.2⟩
theorem del_nil (d : Int) (B : Nat) (w : World) (hB : w.cell? ⟨B, 0, none⟩ = some (.int .i64 d)) :
    Calls Tryd.prog 57 #[.slice none 0 0, .func (.func 59) #[] #[.pointer (some ⟨B, 0, none⟩)]] w fun x w' => x = .returned (.slice none 0 0) ∧ Below w.heap.size w w' := by
  have HIX := Lib.hid (indexF_any w (.slice none 0 0) [] d B ⟨⟨none, 0, rfl⟩, fun h => by simp at h⟩ (by simp) hB)
  clear hB
  go_enter Tryd.func57, Tryd.ntmps57
  go_wp2_with fail
  refine HIX.out.mono ?_
  rintro x w1 ⟨x, rfl, hx, hb1⟩
  have hx' : x = -1 := by
    rcases hx with ⟨h, _⟩ | ⟨i, _, h, _⟩
    · exact h
    · simp at h
  subst hx'
  clear hx
  go_wp2_with fail
  go_ret
  exact ⟨rfl, hb1⟩
set_option maxHeartbeats 2000000 in
theorem after_any (s e m r d : Int) (w : World) (hT : Tab w) :
    Calls Tryd.prog 37 #[.agg #[.int .i64 s, .int .i64 e, .int .i64 m, .int .i64 r], .int .i64 d] w (AftL (floL s e m r) d w) := by
  have hB := ((Below.refl w.heap.size w).alloc (Nat.le_refl _) (.cells #[.int .i64 s, .int .i64 e, .int .i64 m, .int .i64 r] 27)).alloc (by simp) (.cells #[.int .i64 d] 3)
  have HT1 := Lib.hid ((hT.alloc (.cells #[.int .i64 s, .int .i64 e, .int .i64 m, .int .i64 r] 27)).alloc (.cells #[.int .i64 d] 3))
  have hlen : (floL s e m r).length ≤ 40 := by rw [floL_len]; exact perL_len s e m r
  have HFW := Lib.hid (flowsOf_any s e m r)
  clear hT
  generalize floL s e m r = fs at *
  go_enter Tryd.func37, Tryd.ntmps37
  go_wp2_with fail
  refine (HFW.out _ HT1.out).mono ?_
  rintro x w1 ⟨v, rfl, hr, hn, hb⟩
  have hBd : w1.cell? ⟨w.heap.size + 1, 0, none⟩ = some (.int .i64 d) := by
    have k := (Blk.new (w.alloc (.cells #[.int .i64 s, .int .i64 e, .int .i64 m, .int .i64 r] 27)) #[.int .i64 d] 3).below hb (by simp)
    simp only [World.size_alloc] at k
    unfold Blk at k
    simp [World.cell?, k]
  have hsz := hb.size
  simp only [World.size_alloc] at hsz
  have hB1 := hB.trans (hb.mono (by simp <;> omega))
  rcases hr.2 with ⟨rfl, h0⟩ | ⟨b, c, cur, rfl, hBb, hblk, h1, h2, h3, h4⟩
  · have hE : fs = [] := List.eq_nil_of_length_eq_zero h0
    subst hE
    have HD := Lib.hid (del_nil d _ w1 hBd)
    have HB1 := Lib.hid hB1
    clear hr hn hb hB1 hBd h0
    go_wp2_with fail
    refine HD.out.mono ?_
    rintro x w2 ⟨rfl, hb2⟩
    go_wp2_with fail
    go_ret
    exact ⟨_, rfl, FRow.nil _ _, by simp, HB1.out.trans (hb2.mono (by omega))⟩
  · have hE : fs ≠ [] := fun h => by have := hn.2 h; simp at this
    have hBb' : w.heap.size + 1 + 1 ≤ b := by simpa using hBb
    have HD := Lib.hid (del_any fs d b fs.length c (w.heap.size + 1) w.heap.size w1 (hr.lower (by simp <;> omega)) rfl hlen hBd (by omega))
    have HB1 := Lib.hid hB1
    clear hr hn hb hB1 hBd hblk h1 h2 h3 h4
    go_wp2_with fail
    refine HD.out.mono ?_
    rintro x w2 ⟨k, hk, rfl, hf, hg⟩
    go_wp2_with fail
    go_ret
    exact ⟨_, rfl, hf, ⟨fun h => by simp at h, fun h => absurd h hE⟩, HB1.out.grown hg (by omega) (fun j hj => by injection hj with hj; omega)⟩
end Go.Proofs.YtkdooncfchmkfaaDoor
