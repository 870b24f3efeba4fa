/- Lots of all trades: the program. -/
import Derived.Test.YthdoeckoljflpaaLtR
namespace Go.Proofs.Ythdoeckoljflpaa
open Go.RowKit
theorem Lt.put2 {W : World} {b : Nat} {t : TypeId} {x y : Value} (h : Blk W b t #[x, y]) (x' y' : Value) : Blk ((W.setCell ⟨b, 0, none⟩ x').setCell ⟨b, 1, none⟩ y') b t #[x', y'] := by
  unfold Blk at h ⊢
  simp [World.setCell, Array.getElem?_modify, h]
set_option maxRecDepth 8000 in
set_option maxHeartbeats 8000000 in
theorem queueOf_any (w : World) (v : Value) (ps : List Tri) (hv : R3o w v ps) (hl : ps.length ≤ 16) (ht : ∀ i, i < ps.length → Lt.tone (ps.getD i t0)) :
    Calls Try.prog 57 #[v] w fun e w' => (∃ u, e = .returned (.agg #[u, .int .i64 (Lt.st ps).2]) ∧ OffRow w' w.heap.size 31 u (Lt.st ps).1.length ((Lt.st ps).1.flatMap ac2)) ∧ Below w.heap.size w w' := by
  have HGd := Lib.hid (Lt.good ht)
  have HTn := Lib.hid ht
  obtain ⟨⟨a, c, rfl⟩, h1⟩ := hv
  have H1 := Lib.hid h1; clear h1
  have HTk := Lib.hid (fun i (hi : i < ps.length) => take_snocT hi)
  have HE := Lib.hid (show ∀ i, ps.length ≤ i → ps.take i = ps from fun i hi => List.take_of_length_le hi)
  have hb0 := (Below.refl w.heap.size w).alloc (Nat.le_refl _) (.cells #[.slice none 0 0, .int .i64 0] 76)
  have hb1 := hb0.alloc hb0.size (.cells #[.slice none 0 0, .int .i64 0] 76)
  have HB1 := Lib.hid hb1
  have HR1 := Lib.hid ((Blk.new w #[.slice none 0 0, .int .i64 0] 76).alloc (.cells #[.slice none 0 0, .int .i64 0] 76))
  have hq := Blk.new (w.alloc (.cells #[.slice none 0 0, .int .i64 0] 76)) #[.slice none 0 0, .int .i64 0] 76
  rw [show (w.alloc (.cells #[.slice none 0 0, .int .i64 0] 76)).heap.size = w.heap.size + 1 by simp] at hq
  have HQ1 := Lib.hid (show Qs ((w.alloc (.cells #[.slice none 0 0, .int .i64 0] 76)).alloc (.cells #[.slice none 0 0, .int .i64 0] 76)) w.heap.size (w.heap.size + 1) (.slice none 0 0) (Lt.st (ps.take 0)).1 (Lt.st (ps.take 0)).2 from
    ⟨hq, OffRow.nil _ _ _, fun j hj => by simp [Value.ownBlock] at hj, by omega⟩)
  clear hb0 hb1 hq ht
  obtain ⟨n, hn⟩ : ∃ n, n = ps.length := ⟨_, rfl⟩
  rw [← hn] at hl H1 HGd HTn HTk HE ⊢
  have HN := Lib.hid hn; clear hn
  go_enter Try.func57, Try.ntmps57
  go_wp2_with fail
  generalize ((w.alloc (.cells #[.slice none 0 0, .int .i64 0] 76)).alloc (.cells #[.slice none 0 0, .int .i64 0] 76)) = w2 at *
  obtain ⟨bq, hbq⟩ : ∃ bq, bq = w.heap.size + 1 := ⟨_, rfl⟩
  rw [← hbq] at HQ1 ⊢
  have hbq2 : w.heap.size < bq := by omega
  clear hbq
  go_loopw [9] (fun x wx => ∃ (i : Nat) (u : Value), i ≤ n ∧ x = .int .i64 i ∧ Hid (Qs wx w.heap.size bq u (Lt.st (ps.take i)).1 (Lt.st (ps.take i)).2) ∧ Hid (∀ j, u.ownBlock = some j → w.heap.size < j) ∧ Hid (Blk wx w.heap.size 76 #[.slice none 0 0, .int .i64 0]) ∧ Hid (Below w.heap.size w wx)) (fun x _ => n - (intOf x).toNat)
  case atStart => exact ⟨0, _, Nat.zero_le _, rfl, HQ1, Lib.hid (fun j hj => by simp [Value.ownBlock] at hj), HR1, HB1⟩
  case round =>
    obtain ⟨i, u, hi, rfl, HQ, HU, HR, HB⟩ := hrel
    by_cases hlt : i < n
    · obtain ⟨b, off, d', e, hbl, hc⟩ := H1.out (by omega)
      simp only [Value.slice.injEq, true_and] at e
      obtain ⟨rfl, rfl⟩ := e
      obtain ⟨c0, c1, c2⟩ := hc i hlt
      replace c0 := (HB.out.cell (p := ⟨b, off + i * 3, none⟩) hbl).trans c0
      replace c1 := (HB.out.cell (p := ⟨b, off + i * 3 + 1, none⟩) hbl).trans c1
      replace c2 := (HB.out.cell (p := ⟨b, off + i * 3 + 2, none⟩) hbl).trans c2
      clear hc
      have G := HGd.out i hi
      have hgl := G.len
      have hgg := G.gain
      have hlk : (ps.take i).length = i := by rw [List.length_take, ← HN.out]; omega
      rw [hlk] at hgl hgg
      have HG1 := Lib.hid G.one
      have HG2 := Lib.hid G.sign
      have hton := HTn.out i hlt
      have HSt := Lib.hid (show Lt.st (ps.take (i + 1)) = Lt.add (Lt.st (ps.take i)).1 (ps.getD i t0).2.2 (ps.getD i t0).2.1 (Lt.st (ps.take i)).2 by rw [HTk.out i hlt, Lt.st_snoc])
      generalize ps.getD i t0 = p at c0 c1 c2 hton HSt
      obtain ⟨d, m, pr⟩ := p
      simp only at c0 c1 c2 HSt
      obtain ⟨⟨m0, m1, m2⟩, p0, p1⟩ := hton
      simp only at m0 m1 m2 p0 p1
      have hszr := HB.out.size
      have hbA := (Below.refl wr.heap.size wr).alloc (Nat.le_refl _) (.cells #[.int .i64 d, .int .i64 m, .int .i64 pr] 73)
      have AD := Lib.hid (addT_any (wr.alloc (.cells #[.int .i64 d, .int .i64 m, .int .i64 pr] 73)) w.heap.size bq u (Lt.st (ps.take i)).1 (Lt.st (ps.take i)).2 d m pr (HQ.out.below hbA (Nat.le_refl _)) HG1.out HG2.out ⟨m0, m1⟩ ⟨p0, p1⟩ (by omega) (by omega))
      rw [← HSt.out] at AD
      have HBA := Lib.hid (HB.out.alloc hszr (.cells #[.int .i64 d, .int .i64 m, .int .i64 pr] 73))
      have HRA := Lib.hid (HR.out.alloc (.cells #[.int .i64 d, .int .i64 m, .int .i64 pr] 73))
      clear G hlk hbA
      go_wp2_with fail
      refine AD.out.mono ?_
      rintro e w3 ⟨rfl, ⟨u', hQ', hu'⟩, hK', hB'⟩
      have HQ3 := Lib.hid hQ'
      have HU3 := Lib.hid (show ∀ j, u'.ownBlock = some j → w.heap.size < j from fun j hj => by
        rcases hu' j hj with h | h
        · exact HU.out j h
        · have h2 : (wr.alloc (.cells #[.int .i64 d, .int .i64 m, .int .i64 pr] 73)).heap.size ≤ j := h
          simp at h2; omega)
      have HR3 := Lib.hid (show Blk w3 w.heap.size 76 #[.slice none 0 0, .int .i64 0] from (hK' w.heap.size HRA.out.lt (by omega) (fun e => by have := HU.out _ e; omega)).trans HRA.out)
      have HB3 := Lib.hid (HBA.out.trans hB')
      clear hQ' hu' hK' hB'
      go_wp2_with fail
      go_roundw
      case rel => exact ⟨i + 1, u', by omega, by go_num, HQ3, HU3, HR3, HB3⟩
      case measure => simp [intOf]; omega
    · obtain rfl : i = n := by omega
      rw [HE.out i (Nat.le_refl _)] at HQ
      obtain ⟨⟨s0, s1⟩, -, -⟩ := Qs.two HQ.out.s
      obtain ⟨⟨r0, r1⟩, f0, f1⟩ := Qs.two HR.out
      have HRow := Lib.hid HQ.out.r
      obtain ⟨au, cu, rfl⟩ := HQ.out.r.slice
      have HK4 := Lib.hid (fun x y => HRow.out.kept (w' := (wr.setCell ⟨w.heap.size, 0, none⟩ x).setCell ⟨w.heap.size, 1, none⟩ y) (row := some w.heap.size) ⟨rfl, rfl, rfl, by simp, fun k hk hne => by
        have hk2 : k ≠ w.heap.size := fun e => hne (by rw [e])
        exact (heap_setCell_other _ ⟨w.heap.size, 1, none⟩ k y hk2).trans (heap_setCell_other wr ⟨w.heap.size, 0, none⟩ k x hk2)⟩ (fun i j hi hj => by injection hj with hj; have := HU.out i hi; omega))
      have HB4 := Lib.hid (fun x y => (HB.out.setCell (p := ⟨w.heap.size, 0, none⟩) (Nat.le_refl _) x).setCell (p := ⟨w.heap.size, 1, none⟩) (Nat.le_refl _) y)
      have hP := Lt.put2 HR.out (.slice au (Lt.st ps).1.length cu) (.int .i64 (Lt.st ps).2)
      have HK5 := Lib.hid (HK4.out (.slice au (Lt.st ps).1.length cu) (.int .i64 (Lt.st ps).2))
      have HB5 := Lib.hid (HB4.out (.slice au (Lt.st ps).1.length cu) (.int .i64 (Lt.st ps).2))
      have HP := Lib.hid hP
      clear hP
      go_wp2_with fail
      generalize (wr.setCell ⟨w.heap.size, 0, none⟩ (.slice au (Lt.st ps).1.length cu)).setCell ⟨w.heap.size, 1, none⟩ (.int .i64 (Lt.st ps).2) = w9 at *
      obtain ⟨⟨q0, q1⟩, -, -⟩ := Qs.two HP.out
      refine bodyPost_ret (v := .agg #[.slice au (Lt.st ps).1.length cu, .int .i64 (Lt.st ps).2]) (by simp [results, Try.results57, go_sem, q0, q1]) rfl ⟨⟨_, rfl, HK5.out⟩, HB5.out⟩
theorem Lt.field0 (au : Option Addr) (n c : Nat) (g : Int) (w : World) : (Instr.field 76 (.agg #[.slice au n c, .int .i64 g]) 0).run Try.prog w = .ok (.slice au n c) w := by kernel_rfl
theorem Lt.field1 (au : Option Addr) (n c : Nat) (g : Int) (w : World) : (Instr.field 76 (.agg #[.slice au n c, .int .i64 g]) 1).run Try.prog w = .ok (.int .i64 g) w := by kernel_rfl
set_option maxHeartbeats 1000000 in
theorem lots_any (w : World) (v : Value) (ps : List Tri) (hv : R3o w v ps) (hm : ps.length ≤ 9223372036854775807) :
    Calls Try.prog 17 #[v] w fun e w' => (∃ u, e = .returned u ∧ OffRow w' w.heap.size 31 u (Lt.lots ps).length ((Lt.lots ps).flatMap ac2)) ∧ Below w.heap.size w w' := by
  have VT := Lib.hid (vtrades_any w v ps hv hm)
  have HV := Lib.hid hv
  obtain ⟨⟨a, c, rfl⟩, -⟩ := hv
  cases h : Td.ok ps with
  | false =>
    have E := Lib.hid (show Lt.lots ps = [] by unfold Lt.lots; rw [h]; rfl)
    rw [h] at VT
    clear h
    go_enter Try.func17, Try.ntmps17
    go_wp2_with fail
    refine VT.out.mono ?_
    rintro e w1 ⟨rfl, hb1⟩
    go_wp2_with fail
    go_ret
    exact ⟨⟨_, rfl, by rw [E.out]; exact OffRow.nil _ _ _⟩, hb1⟩
  | true =>
    have E := Lib.hid (show Lt.lots ps = (Lt.st ps).1 by unfold Lt.lots; rw [h]; rfl)
    have QO := Lib.hid (fun W (hb : Below w.heap.size w W) => queueOf_any W _ ps (HV.out.below hb (Nat.le_refl _)) (Td.parts h).1 (Lt.tones h))
    rw [h] at VT
    clear h
    go_enter Try.func17, Try.ntmps17
    go_wp2_with fail
    refine VT.out.mono ?_
    rintro e w1 ⟨rfl, hb1⟩
    have HB1 := Lib.hid hb1; clear hb1
    go_wp2_with fail
    refine (QO.out _ HB1.out).mono ?_
    rintro e w2 ⟨⟨u, rfl, hr⟩, hb2⟩
    obtain ⟨au, cu, rfl⟩ := hr.slice
    have HR := Lib.hid (hr.lower HB1.out.size)
    have HB2 := Lib.hid (HB1.out.trans (hb2.mono HB1.out.size))
    have hfd := Lt.field0 au (Lt.st ps).1.length cu (Lt.st ps).2
    clear hr hb2
    go_wp2_with fail
    go_ret
    exact ⟨⟨_, rfl, by rw [E.out]; exact HR.out⟩, HB2.out⟩
set_option maxHeartbeats 1000000 in
theorem gain_any (w : World) (v : Value) (ps : List Tri) (hv : R3o w v ps) (hm : ps.length ≤ 9223372036854775807) :
    Calls Try.prog 20 #[v] w fun e w' => e = .returned (.int .i64 (Lt.gain ps)) ∧ Below w.heap.size w w' := by
  have VT := Lib.hid (vtrades_any w v ps hv hm)
  have HV := Lib.hid hv
  obtain ⟨⟨a, c, rfl⟩, -⟩ := hv
  cases h : Td.ok ps with
  | false =>
    have E := Lib.hid (show Lt.gain ps = 0 by unfold Lt.gain; rw [h]; rfl)
    rw [h] at VT
    clear h
    go_enter Try.func20, Try.ntmps20
    go_wp2_with fail
    refine VT.out.mono ?_
    rintro e w1 ⟨rfl, hb1⟩
    go_wp2_with fail
    go_ret
    exact ⟨ret_int E.out.symm, hb1⟩
  | true =>
    have E := Lib.hid (show Lt.gain ps = (Lt.st ps).2 by unfold Lt.gain; rw [h]; rfl)
    have QO := Lib.hid (fun W (hb : Below w.heap.size w W) => queueOf_any W _ ps (HV.out.below hb (Nat.le_refl _)) (Td.parts h).1 (Lt.tones h))
    rw [h] at VT
    clear h
    go_enter Try.func20, Try.ntmps20
    go_wp2_with fail
    refine VT.out.mono ?_
    rintro e w1 ⟨rfl, hb1⟩
    have HB1 := Lib.hid hb1; clear hb1
    go_wp2_with fail
    refine (QO.out _ HB1.out).mono ?_
    rintro e w2 ⟨⟨u, rfl, hr⟩, hb2⟩
    obtain ⟨au, cu, rfl⟩ := hr.slice
    have HB2 := Lib.hid (HB1.out.trans (hb2.mono HB1.out.size))
    have hfd := Lt.field1 au (Lt.st ps).1.length cu (Lt.st ps).2
    clear hr hb2
    go_wp2_with fail
    go_ret
    exact ⟨ret_int E.out.symm, HB2.out⟩
end Go.Proofs.Ythdoeckoljflpaa
