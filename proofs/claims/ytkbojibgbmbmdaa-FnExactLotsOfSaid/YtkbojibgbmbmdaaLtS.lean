/- Lots of all trades: the model. -/
import Derived.Test.YtkbojibgbmbmdaaLtT
import Derived.Laws.AppendOwnNone
namespace Go.Proofs.Ytkbojibgbmbmdaa
open Go.RowKit
set_option maxHeartbeats 400000 in
theorem sdistL_any (n : Int) (w : World) (h0 : -1000000000000000000 ≤ n) (h1 : n ≤ 1000000000000000000) : Calls Try.prog 55 #[.int .i64 n] w fun e w' => e = .returned (.int .i64 (if n < 0 then -n else n)) ∧ w = w' := by
  by_cases h : n < 0
  · rw [if_pos h]
    go_enter Try.func55, Try.ntmps55
    go_wp2_with fail
    go_ret
    exact ⟨rfl, rfl⟩
  · rw [if_neg h]
    go_enter Try.func55, Try.ntmps55
    go_wp2_with fail
    go_ret
    exact ⟨rfl, rfl⟩
theorem Lt.addA (g j : Nat) : (⟨g, 0, none⟩ : Addr).add j = ⟨g, j, none⟩ := by unfold Addr.add; split <;> simp_all
theorem Lt.addO (g o j : Nat) : (⟨g, o, none⟩ : Addr).add j = ⟨g, o + j, none⟩ := by unfold Addr.add; split <;> simp_all
theorem OffRow.news {w : World} {B : Nat} {T : TypeId} {v : Value} {n : Nat} {xs : List Value} (h : OffRow w B T v n xs) (hv : v ≠ .slice none 0 0) : ∃ g o cap, v = .slice (some ⟨g, o, none⟩) n cap ∧ ∀ j u, xs[j]? = some u → w.cell? ((⟨g, o, none⟩ : Addr).add j) = some u := by
  rcases h.2 with ⟨h2, _⟩ | ⟨g, o, cap, cur, rfl, hb, hg, hc, hm, hs, ht⟩
  · exact absurd h2 hv
  · refine ⟨g, o, cap, rfl, fun j u hu => ?_⟩
    rw [Lt.addO, cell_of_row w g (o + j) cur T (0, 0) hg]
    rw [← ht, List.getElem?_take, List.getElem?_drop] at hu
    split at hu
    · simpa using hu
    · cases hu
theorem OffRow.isNil {w : World} {B : Nat} {T : TypeId} {n : Nat} {xs : List Value} {v : Value} (h : OffRow w B T v n xs) (hv : v = .slice none 0 0) : n = 0 ∧ xs = [] := by
  rcases h.2 with ⟨_, h3⟩ | ⟨g, o, cap, cur, h2, _⟩
  · exact ⟨h3, List.eq_nil_of_length_eq_zero (by rw [h.1, h3])⟩
  · rw [hv] at h2; cases h2
theorem ac2_ones (q : List Pr) : ∀ u ∈ q.flatMap ac2, u.oneCell' = true := fun u hu => by
  obtain ⟨x, _, hx⟩ := List.mem_flatMap.1 hu
  exact ac2_one x u hx
theorem OffRow.first {w : World} {B : Nat} {T : TypeId} {v : Value} {x : Pr} {q : List Pr} (h : OffRow w B T v (q.length + 1) ((x :: q).flatMap ac2)) : ∃ b o cap, v = .slice (some ⟨b, o, none⟩) (q.length + 1) cap ∧ (B ≤ b ∧ b < w.heap.size) ∧ (q.length + 1 ≤ cap ∧ cap ≤ maxLen) ∧
    (w.cell? ⟨b, o, none⟩ = some (.int .i64 x.1) ∧ w.cell? ⟨b, o + 1, none⟩ = some (.int .i64 x.2)) ∧ (∀ j, w.frozen? ⟨b, j, none⟩ = false) := by
  obtain ⟨b, o, cap, rfl, hb, hc, h1, h2⟩ := h.form (by omega)
  refine ⟨b, o, cap, rfl, hb, hc, ⟨?_, ?_⟩, h2⟩
  · have := h1 0 (by omega)
    simpa [ac2] using this
  · have := h1 1 (by omega)
    simpa [ac2] using this
theorem OffRow.setX {w : World} {B : Nat} {T : TypeId} {x : Pr} {q : List Pr} {b o cap : Nat} (h : OffRow w B T (.slice (some ⟨b, o, none⟩) (q.length + 1) cap) (q.length + 1) ((x :: q).flatMap ac2)) (y : Int) :
    OffRow (w.setCell ⟨b, o, none⟩ (.int .i64 y)) B T (.slice (some ⟨b, o, none⟩) (q.length + 1) cap) (q.length + 1) (((y, x.2) :: q).flatMap ac2) := by
  have hs := h.stored 0 (by omega) (.int .i64 y)
  have e : ((x :: q).flatMap ac2).set 0 (.int .i64 y) = ((y, x.2) :: q).flatMap ac2 := by simp [ac2]
  rw [e] at hs
  exact hs.1
theorem OffRow.cutX {w : World} {B : Nat} {T : TypeId} {x : Pr} {q : List Pr} {b o cap : Nat} (h : OffRow w B T (.slice (some ⟨b, o, none⟩) (q.length + 1) cap) (q.length + 1) ((x :: q).flatMap ac2)) :
    OffRow w B T (.slice (if cap = 1 then some ⟨b, o, none⟩ else some ⟨b, o + 2, none⟩) q.length (cap - 1)) q.length (q.flatMap ac2) := by
  have ht := h.tail
  have e : ((x :: q).flatMap ac2).drop 2 = q.flatMap ac2 := by simp [ac2]
  rwa [e] at ht
set_option maxRecDepth 8000 in
set_option maxHeartbeats 16000000 in
theorem settle_any (w : World) (v : Value) (ps : List Tri) (hv : R3o w v ps) (hl : ps.length ≤ 16) (ht : ∀ i, i < ps.length → Lt.tone (ps.getD i t0)) :
    Calls Try.prog 43 #[v] w fun e w' => (∃ u, e = .returned (.tuple #[u, .int .i64 (Lt.st ps).2]) ∧ TRow2 33 w' w.heap.size u (Lt.st ps).1 ∧ u ≠ .slice none 0 0) ∧ Below w.heap.size w w' := by
  have HGd := Lib.hid (Lt.good ht)
  have HTn := Lib.hid ht
  obtain ⟨⟨a, c, rfl⟩, h1⟩ := hv
  have H1 := Lib.hid h1; clear h1
  have HTk := Lib.hid (fun i (hi : i < ps.length) => take_snocT hi)
  have HE := Lib.hid (show ∀ i, ps.length ≤ i → ps.take i = ps from fun i hi => List.take_of_length_le hi)
  have hb0 := (Below.refl w.heap.size w).alloc (Nat.le_refl _) (.cells #[] 33)
  have HB1 := Lib.hid hb0
  have HQ1 := Lib.hid (show OffRow (w.alloc (.cells #[] 33)) w.heap.size 33 (.slice (some ⟨w.heap.size, 0, none⟩) 0 0) (Lt.st (ps.take 0)).1.length ((Lt.st (ps.take 0)).1.flatMap ac2) from OffRow.own (World.ownsRow_lit w #[] 0 (Nat.le_refl _) (Nat.zero_le _) (by simp)))
  obtain ⟨i0, hii, hz0, hz1, hz2⟩ := infoPartsLq
  clear hb0 ht
  obtain ⟨n, hn⟩ : ∃ n, n = ps.length := ⟨_, rfl⟩
  rw [← hn] at hl H1 HGd HTn HTk HE ⊢
  have HN := Lib.hid hn; clear hn
  go_enter Try.func43, Try.ntmps43
  go_wp2_with fail
  go_loopw [4, 5, 6] (fun l g x wx => ∃ i : Nat, i ≤ n ∧ x = .int .i64 i ∧ g = .int .i64 (Lt.st (ps.take i)).2 ∧ Hid (OffRow wx w.heap.size 33 l (Lt.st (ps.take i)).1.length ((Lt.st (ps.take i)).1.flatMap ac2)) ∧ Hid (Below w.heap.size w wx)) (fun _ _ x _ => n - (intOf x).toNat)
  case atStart => exact ⟨0, Nat.zero_le _, rfl, rfl, HQ1, HB1⟩
  case round =>
    obtain ⟨i, hi, rfl, rfl, HQ, HB⟩ := hrel
    by_cases hlt : i < n
    · obtain ⟨b, off, d', e, hbl, hc⟩ := H1.out (by omega)
      simp only [Value.slice.injEq, true_and] at e
      obtain ⟨rfl, rfl⟩ := e
      have HCl := Lib.hid (fun W (hW : Below w.heap.size w W) => (show W.cell? ⟨b, off + i * 3 + 1, none⟩ = some (.int .i64 (ps.getD i t0).2.1) ∧ W.cell? ⟨b, off + i * 3 + 2, none⟩ = some (.int .i64 (ps.getD i t0).2.2) from ⟨(hW.cell (p := ⟨b, off + i * 3 + 1, none⟩) hbl).trans (hc i hlt).2.1, (hW.cell (p := ⟨b, off + i * 3 + 2, none⟩) hbl).trans (hc i hlt).2.2⟩))
      clear hc
      have G := HGd.out i hi
      have hgl := G.len
      have hgg := G.gain
      have hlk : (ps.take i).length = i := by rw [List.length_take, ← HN.out]; omega
      rw [hlk] at hgl hgg
      have HO := Lib.hid G.one
      have HS := Lib.hid G.sign
      have hton := HTn.out i hlt
      have HSt := Lib.hid (show Lt.st (ps.take (i + 1)) = Lt.add (Lt.st (ps.take i)).1 (ps.getD i t0).2.2 (ps.getD i t0).2.1 (Lt.st (ps.take i)).2 by rw [HTk.out i hlt, Lt.st_snoc])
      generalize ps.getD i t0 = tr at HCl hton HSt
      obtain ⟨d, m, p⟩ := tr
      simp only at HCl HSt
      obtain ⟨⟨m0, m1, m2⟩, p0, p1⟩ := hton
      simp only at m0 m1 m2 p0 p1
      have hi1 : (i : Int) < n := by omega
      have hi0 : (0 : Int) ≤ i := by omega
      obtain ⟨c1, c2⟩ := HCl.out wr HB.out
      clear G hlk
      generalize (Lt.st (ps.take i)).1 = q at *
      generalize (Lt.st (ps.take i)).2 = g at *
      go_wp2_with fail
      go_loopg [4, 5, 7] (q.length + 1) (fun k l gx s wx => ∃ (q' : List Pr) (r' g' : Int), s = .int .i64 r' ∧ gx = .int .i64 g' ∧ Hid (OffRow wx w.heap.size 33 l q'.length (q'.flatMap ac2)) ∧ Hid (∀ x ∈ q', Lt.one x) ∧ Hid (Lt.sign q') ∧ r'.natAbs ≤ 9999 ∧ g'.natAbs + 50000 * r'.natAbs ≤ 200000000000 ∧ (q'.length + (if r' = 0 then 0 else 1) ≤ k ∧ q'.length ≤ 17) ∧ Hid (Lt.close p q' r' g' = Lt.close p q m g) ∧ Hid (Below w.heap.size w wx))
      case atStart => exact ⟨q, m, g, rfl, rfl, HQ, HO, HS, by omega, by omega, ⟨by split <;> omega, by omega⟩, Lib.hid rfl, HB⟩
      case round =>
        clear c1 c2 HQ HB HO HS
        obtain ⟨q', r', g', rfl, rfl, HQ, HO, HS, hr, hg', ⟨hk, hl'⟩, HC, HB⟩ := hrel
        obtain ⟨c1, c2⟩ := HCl.out wr HB.out
        by_cases ho : ∃ x q'', q' = x :: q'' ∧ r' * x.1 < 0
        · obtain ⟨x, q'', rfl, ho⟩ := ho
          obtain ⟨ho1, hsg, hab, ⟨hms, hln⟩, hcl⟩ := Lt.cut_step HO.out HS.out ho
          have hdb := Lt.prod_bd (k := Lt.near x.1 r') (d := p - x.2) (by have := (HO.out x List.mem_cons_self).2; omega) (by have := (HO.out x List.mem_cons_self).2; omega)
          have hnb := Lt.near_bd ho
          have HO2 := Lib.hid ho1
          have HS2 := Lib.hid hsg
          have HC2 := Lib.hid ((hcl p g').trans HC.out)
          have hx := (HO.out x List.mem_cons_self)
          obtain ⟨bb, oo, cap, rfl, ⟨gb, lb⟩, ⟨hc1, hc2⟩, ⟨x0, x1⟩, hf⟩ := HQ.out.first
          have f0 := hf oo
          have hln0 : (0 : Int) < q''.length + 1 := by omega
          have hr0 : r' ≠ 0 := fun e => by rw [e, Int.zero_mul] at ho; omega
          rw [if_neg hr0, List.length_cons] at hms hk
          rw [List.length_cons] at hl'
          obtain ⟨j, rfl⟩ : ∃ j, gk = j + 1 := ⟨gk - 1, by omega⟩
          unfold maxLen at hc2
          have HCq := Lib.hid (show Lt.cut x q'' r' = if x.1 - Lt.near x.1 r' = 0 then q'' else (x.1 - Lt.near x.1 r', x.2) :: q'' from rfl)
          have HX := Lib.hid (fun d => And.intro (OffRow.setX (w := wr.drewN d) (x := x) (q := q'') HQ.out (x.1 - Lt.near x.1 r')) ((show Below w.heap.size w (wr.drewN d) from belowT HB.out d).setCell (p := ⟨bb, oo, none⟩) gb (.int .i64 (x.1 - Lt.near x.1 r'))))
          have HT1 := Lib.hid (fun W => sdistL_any r' W (by omega) (by omega))
          have HT2 := Lib.hid (fun W => sdistL_any x.1 W (by have := hx.1; omega) (by have := hx.1; omega))
          have hrn : (r' != 0) = true := by simpa using hr0
          clear ho1 hsg hf HO HS hcl ho HQ
          obtain ⟨xm, xc⟩ := x
          obtain ⟨⟨hxa, hxb, hxc⟩, hpa, hpb⟩ := hx
          simp only at x0 x1 hms hln hdb hab HC2 HO2 HS2 hnb HCq HX HT2 hxa hxb hxc hpa hpb
          generalize Lt.near xm r' = kn at *
          generalize Lt.cut (xm, xc) q'' r' = cq at *
          have hkb : -9999 ≤ kn ∧ kn ≤ 9999 := by omega
          obtain ⟨kb0, kb1⟩ := hkb
          have hkd : -499950000 ≤ kn * (p - xc) ∧ kn * (p - xc) ≤ 499950000 := by omega
          obtain ⟨kd0, kd1⟩ := hkd
          rcases hnb with ⟨ra, xa, k1, k2, k3, k4⟩ | ⟨ra, xa, k1, k2, k3, k4⟩
          · have hr1 : ¬ 0 < r' := by omega
            have hd1 : (if r' < 0 then -r' else r') = -r' := if_pos ra
            have hd2 : (if xm < 0 then -xm else xm) = xm := if_neg (by omega)
            rw [hd1] at HT1
            rw [hd2] at HT2
            have fmin : ∀ W : World, (Builtin.min_ #[3, 3] 3 #[.int .i64 (-r'), .int .i64 xm]).run Try.prog W = .ok (.int .i64 kn) W := fun W => by rw [show kn = min (-r') xm by omega]; exact run_min2' _ _ _ _ W
            clear hd1 hd2
            by_cases hk : xm - kn = 0
            · have hz : xm - kn = 0 := by omega
              rw [if_pos hk] at HCq
              rw [hz] at HX
              have HT0 := Lib.hid (fun d => ((HX.out d).1).cutX)
              have HBs := Lib.hid (fun d => (HX.out d).2)
              by_cases hcap : cap = 1
              · subst hcap
                obtain rfl : q'' = [] := List.eq_nil_of_length_eq_zero (by omega)
                have HT3 := HT0
                simp only [if_true] at HT3
                go_wp2_with fail
                go_quiet ((first | (go_at_call 55; with_reducible exact quietT (HT1.out _)) | (go_at_call 55; with_reducible exact quietT (HT2.out _))))
                go_wp2_with fail
                go_quiet (fail)
                go_wp2_with fail
                go_roundg j
                case measure => omega
                case rel => exact ⟨cq, r' + kn, g' + kn * (p - xc), rfl, rfl, Lib.hid (by rw [HCq.out]; exact HT3.out _), HO2, HS2, by omega, by omega, ⟨by omega, by omega⟩, HC2, Lib.hid (HBs.out _)⟩
              · have HT3 := HT0
                simp only [if_neg hcap] at HT3
                go_wp2_with fail
                go_quiet ((first | (go_at_call 55; with_reducible exact quietT (HT1.out _)) | (go_at_call 55; with_reducible exact quietT (HT2.out _))))
                go_wp2_with fail
                go_quiet (fail)
                go_wp2_with fail
                go_roundg j
                case measure => omega
                case rel => exact ⟨cq, r' + kn, g' + kn * (p - xc), rfl, rfl, Lib.hid (by rw [HCq.out]; exact HT3.out _), HO2, HS2, by omega, by omega, ⟨by omega, by omega⟩, HC2, Lib.hid (HBs.out _)⟩
            · rw [if_neg hk] at HCq
              have hzb : (xm - kn == 0) = false := by simp only [beq_eq_false_iff_ne, ne_eq]; omega
              have HBs := Lib.hid (fun d => (HX.out d).2)
              go_wp2_with fail
              go_quiet ((first | (go_at_call 55; with_reducible exact quietT (HT1.out _)) | (go_at_call 55; with_reducible exact quietT (HT2.out _))))
              go_wp2_with fail
              go_quiet (fail)
              go_wp2_with fail
              go_roundg j
              case measure => omega
              case rel => exact ⟨cq, r' + kn, g' + kn * (p - xc), rfl, rfl, Lib.hid (by rw [HCq.out]; exact (HX.out _).1), HO2, HS2, by omega, by omega, ⟨by omega, by omega⟩, HC2, Lib.hid (HBs.out _)⟩
          · have hr2 : ¬ r' < 0 := by omega
            have hxn : ¬ 0 < xm := by omega
            obtain ⟨nn, hnn⟩ : ∃ nn, nn = -kn := ⟨_, rfl⟩
            have hd1 : (if r' < 0 then -r' else r') = r' := if_neg (by omega)
            have hd2 : (if xm < 0 then -xm else xm) = -xm := if_pos xa
            rw [hd1] at HT1
            rw [hd2] at HT2
            have fmin : ∀ W : World, (Builtin.min_ #[3, 3] 3 #[.int .i64 r', .int .i64 (-xm)]).run Try.prog W = .ok (.int .i64 nn) W := fun W => by rw [show nn = min r' (-xm) by omega]; exact run_min2' _ _ _ _ W
            have HEg := Lib.hid (show g' + nn * (xc - p) = g' + kn * (p - xc) by rw [hnn, Int.neg_mul, ← Int.mul_neg, Int.neg_sub])
            have HEr := Lib.hid (show r' - nn = r' + kn by omega)
            have hxe : xm + nn = xm - kn := by omega
            have hkd3 : nn * (xc - p) = kn * (p - xc) := by rw [hnn, Int.neg_mul, ← Int.mul_neg, Int.neg_sub]
            have hkd4 : -499950000 ≤ nn * (xc - p) ∧ nn * (xc - p) ≤ 499950000 := by rw [hkd3]; exact ⟨kd0, kd1⟩
            obtain ⟨kd2, kd3⟩ := hkd4
            have hnb : -9999 ≤ nn ∧ nn ≤ 9999 := by omega
            obtain ⟨nb0, nb1⟩ := hnb
            rw [← hxe] at HX
            clear hnn hkd3
            clear hd1 hd2
            by_cases hk : xm - kn = 0
            · have hz : xm + nn = 0 := by omega
              rw [if_pos hk] at HCq
              rw [hz] at HX
              have HT0 := Lib.hid (fun d => ((HX.out d).1).cutX)
              have HBs := Lib.hid (fun d => (HX.out d).2)
              by_cases hcap : cap = 1
              · subst hcap
                obtain rfl : q'' = [] := List.eq_nil_of_length_eq_zero (by omega)
                have HT3 := HT0
                simp only [if_true] at HT3
                go_wp2_with fail
                go_quiet ((first | (go_at_call 55; with_reducible exact quietT (HT1.out _)) | (go_at_call 55; with_reducible exact quietT (HT2.out _))))
                go_wp2_with fail
                go_quiet (fail)
                go_wp2_with fail
                go_roundg j
                case measure => omega
                case rel => exact ⟨cq, r' + kn, g' + kn * (p - xc), by rw [HEr.out], by rw [HEg.out], Lib.hid (by rw [HCq.out]; exact HT3.out _), HO2, HS2, by omega, by omega, ⟨by omega, by omega⟩, HC2, Lib.hid (HBs.out _)⟩
              · have HT3 := HT0
                simp only [if_neg hcap] at HT3
                go_wp2_with fail
                go_quiet ((first | (go_at_call 55; with_reducible exact quietT (HT1.out _)) | (go_at_call 55; with_reducible exact quietT (HT2.out _))))
                go_wp2_with fail
                go_quiet (fail)
                go_wp2_with fail
                go_roundg j
                case measure => omega
                case rel => exact ⟨cq, r' + kn, g' + kn * (p - xc), by rw [HEr.out], by rw [HEg.out], Lib.hid (by rw [HCq.out]; exact HT3.out _), HO2, HS2, by omega, by omega, ⟨by omega, by omega⟩, HC2, Lib.hid (HBs.out _)⟩
            · rw [if_neg hk] at HCq
              have hzb : (xm + nn == 0) = false := by simp only [beq_eq_false_iff_ne, ne_eq]; omega
              have HBs := Lib.hid (fun d => (HX.out d).2)
              go_wp2_with fail
              go_quiet ((first | (go_at_call 55; with_reducible exact quietT (HT1.out _)) | (go_at_call 55; with_reducible exact quietT (HT2.out _))))
              go_wp2_with fail
              go_quiet (fail)
              go_wp2_with fail
              go_roundg j
              case measure => omega
              case rel => exact ⟨cq, r' + kn, g' + kn * (p - xc), by rw [HEr.out], by rw [HEg.out], Lib.hid (by rw [HCq.out, ← hxe]; exact (HX.out _).1), HO2, HS2, by omega, by omega, ⟨by omega, by omega⟩, HC2, Lib.hid (by rw [← hxe]; exact HBs.out _)⟩
        · have hstop : Lt.close p q' r' g' = (q', r', g') := by
            cases q' with
            | nil => rfl
            | cons x q'' => exact Lt.close_stop (fun h => ho ⟨x, q'', rfl, h⟩)
          have HSt2 := Lib.hid (show Lt.st (ps.take (i + 1)) = (if r' = 0 then q' else q' ++ [(r', p)], g') by rw [HSt.out]; unfold Lt.add; rw [← HC.out, hstop])
          obtain ⟨au, cu, rfl⟩ := HQ.out.slice
          clear hstop HC HSt
          cases q' with
          | nil =>
            clear ho
            by_cases hr0 : r' = 0
            · have HS3 := Lib.hid (show Lt.st (ps.take (i + 1)) = ([], g') from HSt2.out.trans (by rw [if_pos hr0]))
              subst hr0
              go_wp2_with fail
              go_roundw
              case rel => exact ⟨i + 1, by omega, by go_num, by rw [HS3.out], by rw [HS3.out]; exact HQ, HB⟩
              case measure => simp [intOf]; omega
            · have hrn : (r' != 0) = true := by simpa using hr0
              have HS3 := Lib.hid (show Lt.st (ps.take (i + 1)) = ([] ++ [(r', p)], g') from HSt2.out.trans (by rw [if_neg hr0]))
              have hnb := Blk.new wr #[.int .i64 r', .int .i64 p] 33
              have hadd : ∀ j, (⟨wr.heap.size, 0, none⟩ : Addr).add j = ⟨wr.heap.size, j, none⟩ := fun j => Lt.addA _ j
              have HAx := Lib.hid (show (wr.alloc (.cells #[.int .i64 r', .int .i64 p] 33)).cell? ((⟨wr.heap.size, 0, none⟩ : Addr).add 0) = some (.int .i64 r') by rw [hadd]; exact (Qs.two hnb).1.1)
              have HAy := Lib.hid (show (wr.alloc (.cells #[.int .i64 r', .int .i64 p] 33)).cell? ((⟨wr.heap.size, 0, none⟩ : Addr).add 1) = some (.int .i64 p) by rw [hadd]; exact (Qs.two hnb).1.2)
              have HAd := Lib.hid (show OffRow (wr.alloc (.cells #[.int .i64 r', .int .i64 p] 33)) w.heap.size 33 (.slice au 0 cu) (0) (([] : List Pr).flatMap ac2) from HQ.out.alloc _)
              have hszr := HB.out.size
              have HBA := Lib.hid (HB.out.alloc hszr (.cells #[.int .i64 r', .int .i64 p] 33))
              have HRlt := Lib.hid HQ.out.lt
              have hlen6 : (([] : List Pr) ++ [(r', p)]).length = 0 + 1 := by simp
              have HL6 := Lib.hid hlen6
              clear hnb hadd hlen6
              go_wp2_with (at_builtin; refine wpList_append_off _ rfl _ _ 30 rfl i0 _ Try.underlying30 hii hz0 hz1 hz2 rfl (.slice au 0 cu) (0) (([] : List Pr).flatMap ac2) rfl HAd.out ⟨wr.heap.size, 0, none⟩ 1 (.int .i64 r') (.int .i64 p) rfl HAx.out HAy.out rfl rfl (by omega) HBA.out.size ?_; intro g6 o6 c6 w6 hown6 hg6 hat6; replace hown6 := Lib.hid hown6; replace hg6 := Lib.hid hg6; clear hat6)
              have HB6 := Lib.hid (HBA.out.grown hg6.out HBA.out.size (fun j hj => (HRlt.out j hj).1))
              go_roundw
              case rel => exact ⟨i + 1, by omega, by go_num, by rw [HS3.out], by rw [HS3.out]; exact Lib.hid (by rw [HL6.out, Lt.flat_snoc]; exact hown6.out), HB6⟩
              case measure => simp [intOf]; omega
          | cons x q'' =>
            have hng : ¬ r' * x.1 < 0 := fun h => ho ⟨x, q'', rfl, h⟩
            have hnp : ¬ ((r' < 0 ∧ 0 < x.1) ∨ (0 < r' ∧ x.1 < 0)) := fun h => hng (Lt.opp_iff.2 h)
            obtain ⟨bb, oo, cap, e1, -, ⟨hc1, hc2⟩, ⟨x0, -⟩, -⟩ := OffRow.first HQ.out
            simp only [List.length_cons] at e1 hl'
            simp only [Value.slice.injEq, true_and] at e1
            obtain ⟨rfl, rfl⟩ := e1
            have hx := (HO.out x List.mem_cons_self).1
            have hln0 : (0 : Int) < q''.length + 1 := by omega
            unfold maxLen at hc2
            clear ho hng
            by_cases hr0 : r' = 0
            · have HS3 := Lib.hid (show Lt.st (ps.take (i + 1)) = (x :: q'', g') from HSt2.out.trans (by rw [if_pos hr0]))
              subst hr0
              go_wp2_with fail
              go_roundw
              case rel => exact ⟨i + 1, by omega, by go_num, by rw [HS3.out], by rw [HS3.out]; exact HQ, HB⟩
              case measure => simp [intOf]; omega
            · rcases Int.lt_or_gt_of_ne hr0 with hs | hs
              · have hxs : ¬ 0 < x.1 := by omega
                have hrs : ¬ 0 < r' := by omega
                have hrn : (r' != 0) = true := by simpa using hr0
                have HS3 := Lib.hid (show Lt.st (ps.take (i + 1)) = ((x :: q'') ++ [(r', p)], g') from HSt2.out.trans (by rw [if_neg hr0]))
                have hnb := Blk.new wr #[.int .i64 r', .int .i64 p] 33
                have hadd : ∀ j, (⟨wr.heap.size, 0, none⟩ : Addr).add j = ⟨wr.heap.size, j, none⟩ := fun j => Lt.addA _ j
                have HAx := Lib.hid (show (wr.alloc (.cells #[.int .i64 r', .int .i64 p] 33)).cell? ((⟨wr.heap.size, 0, none⟩ : Addr).add 0) = some (.int .i64 r') by rw [hadd]; exact (Qs.two hnb).1.1)
                have HAy := Lib.hid (show (wr.alloc (.cells #[.int .i64 r', .int .i64 p] 33)).cell? ((⟨wr.heap.size, 0, none⟩ : Addr).add 1) = some (.int .i64 p) by rw [hadd]; exact (Qs.two hnb).1.2)
                have HAd := Lib.hid (show OffRow (wr.alloc (.cells #[.int .i64 r', .int .i64 p] 33)) w.heap.size 33 (.slice (some ⟨bb, oo, none⟩) (q''.length + 1) cu) (q''.length + 1) (((x :: q'') : List Pr).flatMap ac2) from HQ.out.alloc _)
                have hszr := HB.out.size
                have HBA := Lib.hid (HB.out.alloc hszr (.cells #[.int .i64 r', .int .i64 p] 33))
                have HRlt := Lib.hid HQ.out.lt
                have hlen6 : (((x :: q'') : List Pr) ++ [(r', p)]).length = q''.length + 1 + 1 := by simp
                have HL6 := Lib.hid hlen6
                clear hnb hadd hlen6
                go_wp2_with (at_builtin; refine wpList_append_off _ rfl _ _ 30 rfl i0 _ Try.underlying30 hii hz0 hz1 hz2 rfl (.slice (some ⟨bb, oo, none⟩) (q''.length + 1) cu) (q''.length + 1) (((x :: q'') : List Pr).flatMap ac2) rfl HAd.out ⟨wr.heap.size, 0, none⟩ 1 (.int .i64 r') (.int .i64 p) rfl HAx.out HAy.out rfl rfl (by omega) HBA.out.size ?_; intro g6 o6 c6 w6 hown6 hg6 hat6; replace hown6 := Lib.hid hown6; replace hg6 := Lib.hid hg6; clear hat6)
                have HB6 := Lib.hid (HBA.out.grown hg6.out HBA.out.size (fun j hj => (HRlt.out j hj).1))
                go_roundw
                case rel => exact ⟨i + 1, by omega, by go_num, by rw [HS3.out], by rw [HS3.out]; exact Lib.hid (by rw [HL6.out, Lt.flat_snoc]; exact hown6.out), HB6⟩
                case measure => simp [intOf]; omega
              · have hxs : 0 < x.1 := by omega
                have hrn : (r' != 0) = true := by simpa using hr0
                have HS3 := Lib.hid (show Lt.st (ps.take (i + 1)) = ((x :: q'') ++ [(r', p)], g') from HSt2.out.trans (by rw [if_neg hr0]))
                have hnb := Blk.new wr #[.int .i64 r', .int .i64 p] 33
                have hadd : ∀ j, (⟨wr.heap.size, 0, none⟩ : Addr).add j = ⟨wr.heap.size, j, none⟩ := fun j => Lt.addA _ j
                have HAx := Lib.hid (show (wr.alloc (.cells #[.int .i64 r', .int .i64 p] 33)).cell? ((⟨wr.heap.size, 0, none⟩ : Addr).add 0) = some (.int .i64 r') by rw [hadd]; exact (Qs.two hnb).1.1)
                have HAy := Lib.hid (show (wr.alloc (.cells #[.int .i64 r', .int .i64 p] 33)).cell? ((⟨wr.heap.size, 0, none⟩ : Addr).add 1) = some (.int .i64 p) by rw [hadd]; exact (Qs.two hnb).1.2)
                have HAd := Lib.hid (show OffRow (wr.alloc (.cells #[.int .i64 r', .int .i64 p] 33)) w.heap.size 33 (.slice (some ⟨bb, oo, none⟩) (q''.length + 1) cu) (q''.length + 1) (((x :: q'') : List Pr).flatMap ac2) from HQ.out.alloc _)
                have hszr := HB.out.size
                have HBA := Lib.hid (HB.out.alloc hszr (.cells #[.int .i64 r', .int .i64 p] 33))
                have HRlt := Lib.hid HQ.out.lt
                have hlen6 : (((x :: q'') : List Pr) ++ [(r', p)]).length = q''.length + 1 + 1 := by simp
                have HL6 := Lib.hid hlen6
                clear hnb hadd hlen6
                go_wp2_with (at_builtin; refine wpList_append_off _ rfl _ _ 30 rfl i0 _ Try.underlying30 hii hz0 hz1 hz2 rfl (.slice (some ⟨bb, oo, none⟩) (q''.length + 1) cu) (q''.length + 1) (((x :: q'') : List Pr).flatMap ac2) rfl HAd.out ⟨wr.heap.size, 0, none⟩ 1 (.int .i64 r') (.int .i64 p) rfl HAx.out HAy.out rfl rfl (by omega) HBA.out.size ?_; intro g6 o6 c6 w6 hown6 hg6 hat6; replace hown6 := Lib.hid hown6; replace hg6 := Lib.hid hg6; clear hat6)
                have HB6 := Lib.hid (HBA.out.grown hg6.out HBA.out.size (fun j hj => (HRlt.out j hj).1))
                go_roundw
                case rel => exact ⟨i + 1, by omega, by go_num, by rw [HS3.out], by rw [HS3.out]; exact Lib.hid (by rw [HL6.out, Lt.flat_snoc]; exact hown6.out), HB6⟩
                case measure => simp [intOf]; omega
    · obtain rfl : i = n := by omega
      rw [HE.out i (Nat.le_refl _)]
      rw [HE.out i (Nat.le_refl _)] at HQ
      have HGn := HGd.out i (Nat.le_refl _)
      rw [HE.out i (Nat.le_refl _)] at HGn
      have hgl := HGn.len
      rw [← HN.out] at hgl
      clear HGn
      have HOw := Lib.hid (show World.ownsRow (wr.alloc (.cells #[] 33)) w.heap.size 33 2 (.slice (some ⟨wr.heap.size, 0, none⟩) 0 0) 0 [] from World.ownsRow_lit wr #[] 0 HB.out.size (Nat.zero_le _) (by simp))
      have HBA := Lib.hid (HB.out.alloc HB.out.size (.cells #[] 33))
      have HQA := Lib.hid (HQ.out.alloc (.cells #[] 33))
      have HqE := Lib.hid (show ∃ q, (Lt.st ps).1 = q from ⟨_, rfl⟩)
      obtain ⟨q, hqe⟩ := HqE.out
      rw [hqe] at HQ HQA hgl
      have Hq2 := Lib.hid hqe
      clear hqe HqE
      by_cases hnil : u4 = .slice none 0 0
      · rw [hnil]
        obtain ⟨hq0, hq1⟩ := HQ.out.isNil hnil
        obtain rfl : q = [] := List.eq_nil_of_length_eq_zero hq0
        clear hnil hq0 hq1
        go_wp2_with (at_builtin; refine wpList_append_own_none rfl _ _ 30 rfl w.heap.size 33 i0 2 Try.underlying30 hii (.slice (some ⟨wr.heap.size, 0, none⟩) 0 0) 0 [] rfl HOw.out rfl ?_)
        refine bodyPost_ret (v := .tuple #[.slice (some ⟨wr.heap.size, 0, none⟩) 0 0, .int .i64 (Lt.st ps).2]) (by simp [results, Try.results43, go_sem]) rfl ⟨⟨_, rfl, by rw [Hq2.out]; exact HOw.out, by simp⟩, HBA.out⟩
      · obtain ⟨g9, o9, c9, e9, hn9⟩ := HQA.out.news hnil
        have HN9 := Lib.hid hn9
        rw [e9]
        clear hnil hn9
        go_wp2_with (at_builtin; refine wpList_append_own _ rfl _ _ 30 rfl w.heap.size 33 i0 _ 2 16 Try.underlying30 hii hz0 hz1 hz2 rfl (by decide) (.slice (some ⟨wr.heap.size, 0, none⟩) 0 0) 0 [] rfl HOw.out ⟨g9, o9, none⟩ q.length c9 (q.flatMap ac2) rfl (HQA.out.1) HN9.out (ac2_ones q) (by unfold maxLen; omega) (by omega) HBA.out.size ?_; intro v6 w6 hown6 hg6 hv6)
        have hne6 : v6 ≠ .slice none 0 0 := fun e => by have := (hv6.1 e).1; cases this
        have HB6 := Lib.hid (HBA.out.grown hg6 HBA.out.size (fun j hj => by have hj2 : some wr.heap.size = some j := hj; injection hj2 with hj2; have := HB.out.size; omega))
        have HR6 := Lib.hid (show TRow2 33 w6 w.heap.size v6 q by
          have h := hown6
          rw [Nat.zero_add, List.nil_append] at h
          exact h)
        refine bodyPost_ret (v := .tuple #[v6, .int .i64 (Lt.st ps).2]) (by simp [results, Try.results43, go_sem]) rfl ⟨⟨_, rfl, by rw [Hq2.out]; exact HR6.out, hne6⟩, HB6.out⟩
end Go.Proofs.Ytkbojibgbmbmdaa
