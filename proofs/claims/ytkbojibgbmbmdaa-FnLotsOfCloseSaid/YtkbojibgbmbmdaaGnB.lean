/- The law of lots that are closed. -/
import Derived.Test.YtkbojibgbmbmdaaGnA
namespace Go.Proofs.Ytkbojibgbmbmdaa
open Go.RowKit
theorem Gn.many_cons (x : Pr) (q : List Pr) : Lt.many (x :: q) = x.1 + Lt.many q := by unfold Lt.many; simp
theorem Gn.many_pos : ∀ {q : List Pr}, (∀ x ∈ q, 0 < x.1) → 0 ≤ Lt.many q
  | [], _ => by simp [Lt.many]
  | x :: q, h => by
    have := Gn.many_pos (q := q) fun y hy => h y (List.mem_cons_of_mem _ hy)
    have := h x List.mem_cons_self
    rw [Gn.many_cons]; omega
theorem Gn.many_neg : ∀ {q : List Pr}, (∀ x ∈ q, x.1 < 0) → Lt.many q ≤ 0
  | [], _ => by simp [Lt.many]
  | x :: q, h => by
    have := Gn.many_neg (q := q) fun y hy => h y (List.mem_cons_of_mem _ hy)
    have := h x List.mem_cons_self
    rw [Gn.many_cons]; omega
/-- Minus the sum closes all lots. -/
theorem Gn.closes (p : Int) : ∀ (q : List Pr) (g : Int), Lt.sign q → ∃ g', Lt.close p q (-Lt.many q) g = ([], 0, g')
  | [], g, _ => ⟨g, by simp [Lt.close, Lt.many]⟩
  | x :: q, g, hs => by
    have hn : Lt.near x.1 (-Lt.many (x :: q)) = x.1 ∧ -Lt.many (x :: q) * x.1 < 0 := by
      rw [Gn.many_cons]
      rcases hs with h | h
      · have h1 := h x List.mem_cons_self
        have h2 := Gn.many_pos (q := q) fun y hy => h y (List.mem_cons_of_mem _ hy)
        refine ⟨?_, Lt.opp_iff.2 (.inl ⟨by omega, h1⟩)⟩
        unfold Lt.near
        rw [if_neg (by omega)]
        omega
      · have h1 := h x List.mem_cons_self
        have h2 := Gn.many_neg (q := q) fun y hy => h y (List.mem_cons_of_mem _ hy)
        refine ⟨?_, Lt.opp_iff.2 (.inr ⟨by omega, h1⟩)⟩
        unfold Lt.near
        rw [if_pos h1]
        omega
    obtain ⟨g', ih⟩ := Gn.closes p q (g + Lt.near x.1 (-Lt.many (x :: q)) * (p - x.2)) (Lt.sign_cons hs)
    refine ⟨g', ?_⟩
    rw [Lt.close_full hn.2 (by rw [hn.1]; omega), ← ih]
    congr 1
    rw [hn.1, Gn.many_cons]; omega
theorem Gn.closed {ps : List Tri} (ho : Td.ok ps = true) (d p : Int) : Lt.lots (ps ++ [(d, -Lt.many (Lt.lots ps), p)]) = [] := by
  have hs := (Lt.good (Lt.tones ho) ps.length (Nat.le_refl _)).sign
  rw [List.take_of_length_le (Nat.le_refl _)] at hs
  have e : Lt.lots ps = (Lt.st ps).1 := if_pos ho
  rw [e]
  unfold Lt.lots
  split
  · rw [Lt.st_snoc]
    show (Lt.add (Lt.st ps).1 p (-Lt.many (Lt.st ps).1) (Lt.st ps).2).1 = []
    obtain ⟨g', h⟩ := Gn.closes p (Lt.st ps).1 (Lt.st ps).2 hs
    unfold Lt.add
    rw [h]
    rfl
  · rfl
theorem Gn.closed2 {ps : List Tri} (d p : Int) (h : Lt.lots ps ≠ []) : Lt.lots (ps ++ [(d, -Lt.many (Lt.lots ps), p)]) = [] := by
  refine Gn.closed ?_ d p
  cases h0 : Td.ok ps with
  | true => rfl
  | false => exact absurd (by unfold Lt.lots; rw [h0]; rfl) h
theorem Gn.ones (ps : List Tri) : ∀ u ∈ ps.flatMap ac, u.oneCell' = true := fun u hu => by
  obtain ⟨x, -, hx⟩ := List.mem_flatMap.1 hu
  exact ac_one x u hx
theorem Gn.sizes {w w6 : World} {o o' : Obj} (h : (w.alloc o).heap.size ≤ w6.heap.size) : w.heap.size ≤ (w6.alloc o').heap.size := by
  simp at h ⊢; omega
theorem Gn.rowOf {w : World} {B g c : Nat} {ps : List Tri} (h : World.ownsRow w B 35 3 (.slice (some ⟨g, 0, none⟩) (0 + ps.length) c) (0 + ps.length) ([] ++ ps.flatMap ac)) (o : Obj) : TRow 35 (w.alloc o) B (.slice (some ⟨g, 0, none⟩) ps.length c) ps := by
  rw [Nat.zero_add, List.nil_append] at h
  exact World.ownsRow.alloc h o
/-- The cells of a row of trades. -/
theorem Gn.cells {w : World} {b c : Nat} {ps : List Tri} (h : R3o w (.slice (some ⟨b, 0, none⟩) ps.length c) ps) : ∀ j u, (ps.flatMap ac)[j]? = some u → w.cell? ((⟨b, 0, none⟩ : Addr).add j) = some u := fun j u hu => by
  have hlen := flat_len 3 ac (fun _ => rfl) ps
  have hj : j < ps.length * 3 := by rw [← hlen]; exact (List.getElem?_eq_some_iff.1 hu).1
  obtain ⟨b1, o1, d1, e1, hbl1, hc1⟩ := h.2 (by omega)
  simp only [Value.slice.injEq, Option.some.injEq, Addr.mk.injEq, and_true, true_and] at e1
  obtain ⟨⟨rfl, rfl⟩, rfl⟩ := e1
  have hr : ∃ k, j = k * 3 ∨ j = k * 3 + 1 ∨ j = k * 3 + 2 := ⟨j / 3, by omega⟩
  obtain ⟨k, hr⟩ := hr
  obtain ⟨c0, c1, c2⟩ := hc1 k (by omega)
  simp only [Nat.zero_add] at c0 c1 c2
  rw [Lt.addA]
  rcases hr with rfl | rfl | rfl
  · have hf := flat_at 3 ac (fun _ => rfl) t0 ps k 0 (by omega) (by omega)
    rw [show 3 * k + 0 = k * 3 by omega, hu] at hf
    simp only [ac, List.getElem?_cons_zero, Option.some.injEq] at hf
    rw [hf]; exact c0
  · have hf := flat_at 3 ac (fun _ => rfl) t0 ps k 1 (by omega) (by omega)
    rw [show 3 * k + 1 = k * 3 + 1 by omega, hu] at hf
    simp only [ac, List.getElem?_cons_zero, List.getElem?_cons_succ, Option.some.injEq] at hf
    rw [hf]; exact c1
  · have hf := flat_at 3 ac (fun _ => rfl) t0 ps k 2 (by omega) (by omega)
    rw [show 3 * k + 2 = k * 3 + 2 by omega, hu] at hf
    simp only [ac, List.getElem?_cons_zero, List.getElem?_cons_succ, Option.some.injEq] at hf
    rw [hf]; exact c2
set_option maxRecDepth 8000 in
set_option maxHeartbeats 8000000 in
theorem lawLotsClose (a : Option Addr) (len cap : Nat) (zs : List Int) (w : World) (h : IsRow .u8 w a len cap zs) :
    Calls Try.prog 9 #[.slice a len cap] w fun e w' => e = .returned (.bool true) ∧ Below w.heap.size w w' := by
  have H := Lib.hid h; clear h
  by_cases hl : 1048576 < (len : Int)
  · go_enter Try.func9, Try.ntmps9
    go_wp2_with fail
    go_ret
    exact ⟨rfl, Below.refl _ _⟩
  · have hl' := decide_eq_false hl
    clear hl
    go_enter Try.func9, Try.ntmps9
    go_wp2_with fail
    refine (drawLO_any _ _ _ _ _ H.out).mono ?_
    rintro e w1 ⟨b, c, ps, rfl, hF, hln, hI, hb1⟩
    have R1 := Lib.hid hF.r3.o
    have HB1 := Lib.hid hb1
    have hm : ps.length ≤ 9223372036854775807 := by omega
    have hll : ((Lt.lots ps).length ≤ ps.length ∧ (Lt.lots ps).length ≤ 16) ∧ (∀ x ∈ Lt.lots ps, Lt.one x) ∧ Lt.sign (Lt.lots ps) := by
      cases h0 : Td.ok ps with
      | false => unfold Lt.lots; rw [h0]; exact ⟨⟨by simp, by simp⟩, fun x hx => by simp at hx, .inl fun x hx => by simp at hx⟩
      | true =>
        have hG := Lt.good (Lt.tones h0) ps.length (Nat.le_refl _)
        rw [List.take_of_length_le (Nat.le_refl _)] at hG
        unfold Lt.lots
        rw [if_pos h0]
        exact ⟨⟨hG.len, Nat.le_trans hG.len (Td.parts h0).1⟩, hG.one, hG.sign⟩
    obtain ⟨⟨hq1, hq16⟩, hq2, hq3⟩ := hll
    have HO := Lib.hid hq2
    have HS := Lib.hid hq3
    clear hF hI hb1 hq2 hq3
    have SLo := Lib.hid (fun W (hW : Below w1.heap.size w1 W) => slots_any W _ ps (R1.out.below hW (Nat.le_refl _)) hm)
    have LO := Lib.hid (lots_any _ _ _ R1.out hm)
    have HCd := Lib.hid (fun h => Gn.closed2 (ps := ps) 36524 10000 h)
    generalize Lt.lots ps = q at *
    go_wp2_with fail
    refine LO.out.mono ?_
    rintro e w2 ⟨⟨u, rfl, hu⟩, hb2⟩
    have HU2 := Lib.hid hu.r2o
    obtain ⟨au, cu, rfl⟩ := hu.slice
    have HB12 := Lib.hid hb2
    clear hu hb2 LO
    go_wp2_with fail
    refine (SLo.out _ HB12.out).mono ?_
    rintro e w3 ⟨⟨u3, rfl, hu3⟩, hb3⟩
    have HU3 := Lib.hid (HU2.out.below hb3 (Nat.le_refl _))
    have HV3 := Lib.hid hu3.r2.o
    have HB13 := Lib.hid (HB12.out.trans (hb3.mono HB12.out.size))
    clear hu3 hb3
    go_wp2_with fail
    refine (eqL_same _ _ _ _ HU3.out HV3.out (by omega)).mono ?_
    rintro e w4 ⟨rfl, hb4⟩
    have HU4 := Lib.hid (HU3.out.below hb4 (Nat.le_refl _))
    have HB14 := Lib.hid (HB13.out.trans (hb4.mono HB13.out.size))
    clear hb4 HU2 HU3 HV3
    have HBr := Lib.hid (HB1.out.trans (HB14.out.mono HB1.out.size))
    by_cases hz : q.length = 0
    · have hz' : ((q.length : Int) == 0) = true := by rw [hz]; rfl
      clear hz
      go_wp2_with fail
      refine (SLo.out _ HB14.out).mono ?_
      rintro e w5 ⟨⟨u5, rfl, hu5⟩, hb5⟩
      have HU5 := Lib.hid (HU4.out.below hb5 (Nat.le_refl _))
      have HV5 := Lib.hid hu5.r2.o
      have HB15 := Lib.hid (HB14.out.trans (hb5.mono HB14.out.size))
      clear hu5 hb5
      go_wp2_with fail
      refine (eqL_same _ _ _ _ HU5.out HV5.out (by omega)).mono ?_
      rintro e w6 ⟨rfl, hb6⟩
      go_wp2_with fail
      go_ret
      exact ⟨rfl, HB1.out.trans ((HB15.out.trans (hb6.mono HB15.out.size)).mono HB1.out.size)⟩
    · have hz' : ((q.length : Int) == 0) = false := by simp only [beq_eq_false_iff_ne, ne_eq]; omega
      obtain ⟨b2, o2, d2, e2, hbl2, hc2⟩ := HU4.out.2 (by omega)
      simp only [Value.slice.injEq, true_and] at e2
      obtain ⟨rfl, rfl⟩ := e2
      have HC := Lib.hid (fun i (hi : i < q.length) => (hc2 i hi).1)
      have HMs := Lib.hid (fun i (hi : i < q.length) => Gn.many_step hi)
      have HMb := Lib.hid (fun i (hi : i ≤ q.length) => (Gn.worth_bd HO.out i hi).2)
      have HE := Lib.hid (show ∀ i, q.length ≤ i → q.take i = q from fun i hi => List.take_of_length_le hi)
      obtain ⟨n, hn⟩ : ∃ n, n = q.length := ⟨_, rfl⟩
      rw [← hn] at hq1 hq16 hz' HC HMs HMb HE HU4 ⊢
      have HN := Lib.hid hn; clear hn hz hc2
      by_cases h16 : ps.length = 16
      · have h16' : ((ps.length : Int) == 16) = true := by rw [h16]; rfl
        rw [HN.out] at hz' HU4
        rw [HN.out]
        clear h16 HC HMs HMb HE HCd
        go_wp2_with fail
        refine (SLo.out _ HB14.out).mono ?_
        rintro e w5 ⟨⟨u5, rfl, hu5⟩, hb5⟩
        have HU5 := Lib.hid (HU4.out.below hb5 (Nat.le_refl _))
        have HV5 := Lib.hid hu5.r2.o
        have HB15 := Lib.hid (HB14.out.trans (hb5.mono HB14.out.size))
        clear hu5 hb5
        go_wp2_with fail
        refine (eqL_same _ _ _ _ HU5.out HV5.out (by rw [← HN.out]; omega)).mono ?_
        rintro e w6 ⟨rfl, hb6⟩
        go_wp2_with fail
        go_ret
        exact ⟨rfl, HB1.out.trans ((HB15.out.trans (hb6.mono HB15.out.size)).mono HB1.out.size)⟩
      · have h16' : ((ps.length : Int) == 16) = false := by simp only [beq_eq_false_iff_ne, ne_eq]; omega
        have hn0 : 0 < n := by
          have h := hz'
          rw [beq_eq_false_iff_ne] at h
          omega
        have HCe := Lib.hid (HCd.out (fun h => by have := HN.out; rw [h] at this; simp at this; omega))
        have hx := HMb.out n (Nat.le_refl _)
        rw [HE.out n (Nat.le_refl _)] at hx
        have R4 := Lib.hid (R1.out.below HB14.out (Nat.le_refl _))
        clear h16 HCd SLo
        go_wp2_with fail
        go_loopw [5, 6] (fun s x wx => ∃ j : Nat, j ≤ n ∧ x = .int .i64 j ∧ s = .int .i64 (Lt.many (q.take j)) ∧ ∃ m, wx = w4.drewN m) (fun _ x _ => n - (intOf x).toNat)
        case atStart => exact ⟨0, Nat.zero_le _, rfl, by simp [Lt.many], 0, rfl⟩
        case round =>
          obtain ⟨j, hj, rfl, rfl, m, rfl⟩ := hrel
          by_cases hlt : j < n
          · have q1 := HC.out j hlt
            have e1 : q.getD j (0, 0) = q.getD j pr0 := rfl
            rw [e1] at q1
            clear e1
            have hms := HMs.out j hlt
            have hmb := HMb.out j (by omega)
            have hmc := HMb.out (j + 1) (by omega)
            rw [hms] at hmc
            have HMS := Lib.hid hms
            clear hms
            generalize (q.getD j pr0).1 = x at q1 hmc HMS
            generalize Lt.many (q.take j) = y at hmb hmc HMS ⊢
            have hj1 : (j : Int) < n := by omega
            have hj0 : (0 : Int) ≤ j := by omega
            have W1 : IntKind.i64.wrap (y + x) = y + x := IntWalk.i64_in _ (by omega)
            go_wp2_with fail
            go_roundw
            case rel => exact ⟨j + 1, by omega, by go_num, by rw [HMS.out], m, rfl⟩
            case measure => simp [intOf]; omega
          · obtain rfl : j = n := by omega
            rw [HE.out j (Nat.le_refl _)]
            have HBw := Lib.hid (belowT HB14.out m)
            have HBv := Lib.hid (HB1.out.trans (HBw.out.mono HB1.out.size))
            have R5 := Lib.hid (R4.out.below (belowT (Below.refl _ w4) m) (Nat.le_refl _))
            generalize w4.drewN m = wr at HBw HBv R5 ⊢
            clear HU4 HB14 R4 HC HMs HMb HE R1 HB1 HB12 HB13
            generalize Lt.many q = s at hx HCe ⊢
            have hk0 : 0 < ps.length := by omega
            have W2 : IntKind.i64.wrap (-s) = -s := IntWalk.i64_in _ (by omega)
            have HT0 := Lib.hid (show TRow 35 (wr.alloc (.cells #[] 35)) wr.heap.size (.slice (some ⟨wr.heap.size, 0, none⟩) 0 0) [] from TRow.new 35 wr)
            have HB0 := Lib.hid ((Below.refl wr.heap.size wr).alloc (Nat.le_refl _) (.cells #[] 35))
            have HCl := Lib.hid (Gn.cells (R5.out.below HB0.out (Nat.le_refl _)))
            obtain ⟨i0, hii, hz0, hz1, hz2⟩ := infoPartsTrade
            go_wp2_with (first | (at_builtin; refine wpList_append_lies _ rfl _ _ 23 rfl wr.heap.size 35 i0 _ 3 24 Try.underlying23 hii hz0 hz1 hz2 rfl (by decide) (.slice (some ⟨wr.heap.size, 0, none⟩) 0 0) 0 [] rfl HT0.out ⟨b, 0, none⟩ ps.length c (ps.flatMap ac) rfl (flat_len 3 ac (fun _ => rfl) ps) HCl.out (Gn.ones ps) hk0 (by unfold maxLen; omega) (by omega) HB0.out.size _ rfl ?_; intro g6 c6 w6 hown6 hg6 hat6 hlt6) | (at_builtin; refine wpList_pushTrade _ rfl _ _ rfl wr.heap.size (.slice (some ⟨g6, 0, none⟩) ps.length c6) ps rfl (Gn.rowOf hown6 _) w6.heap.size _ (36524, -s, 10000) rfl (newTrade_cells w6 (36524, -s, 10000)) (by omega) (Gn.sizes hg6.size) ?_; intro v7 w7 hown7 hne7 hg7 hv7) | fail "WALK")
            have hgl : wr.heap.size ≤ g6 := by
              rcases hat6 with h | h
              · have h2 : some wr.heap.size = some g6 := h
                injection h2 with h2; omega
              · rw [h]; simp
            have HB6 := Lib.hid (HB0.out.grown hg6 HB0.out.size (fun k hk => by have hk2 : some wr.heap.size = some k := hk; injection hk2 with hk2; omega))
            have HB7 := Lib.hid ((HB6.out.alloc HB6.out.size _).grown hg7 (HB6.out.alloc HB6.out.size _).size (fun k hk => by have hk2 : some g6 = some k := hk; injection hk2 with hk2; omega))
            have HR7 := Lib.hid hown7.r3.o
            have hm7 : (ps ++ [(36524, -s, 10000)]).length ≤ 9223372036854775807 := by rw [List.length_append]; simp; omega
            clear hown6 hg6 hat6 hlt6 hown7 hg7 hv7 hne7 HCl HT0 HB0 HB6
            have VT := Lib.hid (vtrades_any _ _ _ HR7.out hm7)
            have LT := Lib.hid (fun W (hW : Below w7.heap.size w7 W) => lots_any W _ _ (HR7.out.below hW (Nat.le_refl _)) hm7)
            rw [HCe.out] at LT
            cases h0 : Td.ok (ps ++ [(36524, -s, 10000)]) with
            | false =>
              rw [h0] at VT
              clear h0
              refine VT.out.mono ?_
              rintro e w8 ⟨rfl, hb8⟩
              go_wp2_with fail
              go_ret
              have h8 := HB7.out.trans (hb8.mono HB7.out.size)
              exact ⟨rfl, HBv.out.trans (h8.mono HBv.out.size)⟩
            | true =>
              rw [h0] at VT
              clear h0
              refine VT.out.mono ?_
              rintro e w8 ⟨rfl, hb8⟩
              have LU := Lib.hid (LT.out _ hb8)
              have h8 := Lib.hid (HB7.out.trans (hb8.mono HB7.out.size))
              clear hb8
              go_wp2_with fail
              refine LU.out.mono ?_
              rintro e w9 ⟨⟨u9, rfl, hu9⟩, hb9⟩
              obtain ⟨a9, c9, rfl⟩ := hu9.slice
              clear hu9
              go_wp2_with fail
              go_ret
              have h9 := h8.out.trans (hb9.mono h8.out.size)
              exact ⟨rfl, HBv.out.trans (h9.mono HBv.out.size)⟩
end Go.Proofs.Ytkbojibgbmbmdaa
