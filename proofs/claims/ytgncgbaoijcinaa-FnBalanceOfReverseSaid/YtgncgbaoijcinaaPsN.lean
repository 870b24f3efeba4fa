/- The laws of postings that are reversed. -/
import Derived.Test.YtgncgbaoijcinaaPsV
import Derived.Test.YtgncgbaoijcinaaPsL
import Derived.Deep.AppendLies
import Derived.Deep.RegionHeldLaw
namespace Go.Proofs.Ytgncgbaoijcinaa
open Go.RowKit
set_option maxRecDepth 8000 in
set_option maxHeartbeats 4000000 in
theorem lawValidPosts (a : Option Addr) (len cap : Nat) (zs : List Int) (w : World) (h : IsRow .u8 w a len cap zs) :
    Calls Try.prog 3 #[.slice a len cap] w fun e w' => e = .returned (.bool true) ∧ Below w.heap.size w w' := by
  have H := Lib.hid h; clear h
  by_cases hl : 1048576 < (len : Int)
  · go_enter Try.func3, Try.ntmps3
    go_wp2_with fail
    go_ret
    exact ⟨rfl, Below.refl _ _⟩
  · have hl' := decide_eq_false hl
    clear hl
    go_enter Try.func3, Try.ntmps3
    go_wp2_with fail
    refine (drawVP_any _ _ _ _ _ H.out).mono ?_
    rintro e w1 ⟨v, ps, rfl, hF, hl, hI, ⟨b, c, rfl⟩, hb1⟩
    have HL1 := Lib.hid hF.r3.o
    have HB1 := Lib.hid hb1
    have hbl1 : b < w1.heap.size := (World.ownsRow.lt hF b rfl).2
    have hm : ps.length ≤ 9223372036854775807 := by omega
    have hne : (Ps.ok ps != Ps.ok ps) = false := by simp
    clear hF hI hb1
    go_wp2_with fail
    refine (vposts_any _ _ _ HL1.out hm).mono ?_
    rintro e w2 ⟨rfl, hb2⟩
    have HL2 := Lib.hid (HL1.out.below hb2 (Nat.le_refl _))
    have HB2 := Lib.hid (HB1.out.trans (hb2.mono HB1.out.size))
    clear hb2
    go_wp2_with fail
    refine (sVPosts_any _ _ _ HL2.out hm).mono ?_
    rintro e w3 ⟨rfl, hb3⟩
    have HL3 := Lib.hid (HL2.out.below hb3 (Nat.le_refl _))
    have HB3 := Lib.hid (HB2.out.trans (hb3.mono HB2.out.size))
    clear hb3
    go_wp2_with fail
    go_loopw [5, 6] (fun o y wx => ∃ (k ob oc : Nat), k ≤ ps.length ∧ y = .int .i64 k ∧ o = .slice (some ⟨ob, 0, none⟩) k oc ∧ Hid (TRow 27 wx w3.heap.size o ((ps.take k).map rev)) ∧ Hid (Below w3.heap.size w3 wx)) (fun _ y _ => ps.length - (intOf y).toNat)
    case atStart => exact ⟨0, w3.heap.size, 0, Nat.zero_le _, rfl, rfl, Lib.hid (by simpa using TRow.new 27 w3), Lib.hid ((Below.refl _ _).alloc (Nat.le_refl _) _)⟩
    case round =>
      obtain ⟨k, ob, oc, hk, rfl, rfl, HF, HB⟩ := hrel
      by_cases hlt : k < ps.length
      · obtain ⟨b', off', c', e', hbb, hc⟩ := HL3.out.2 (by omega)
        simp only [Value.slice.injEq, true_and, Option.some.injEq, Addr.mk.injEq, and_true] at e'
        obtain ⟨⟨rfl, rfl⟩, rfl⟩ := e'
        obtain ⟨c0, c1, c2⟩ := hc k hlt
        simp only [Nat.zero_add] at c0 c1 c2
        clear hc
        obtain ⟨p, hp⟩ : ∃ p, p = ps.getD k t0 := ⟨_, rfl⟩
        rw [← hp] at c0 c1 c2
        have HT := Lib.hid (rev_take hlt hp)
        clear hp
        obtain ⟨f, t, u⟩ := p
        simp only at c0 c1 c2
        have hlk : ((ps.take k).map rev).length = k := by rw [List.length_map, List.length_take]; omega
        have HLK := Lib.hid hlk
        clear hlk
        obtain ⟨i0, hii, hz0, hz1, hz2⟩ := infoPartsPost
        have HKw := Lib.hid (fun W (hW : Below w3.heap.size w3 W) => (show W.cell? ⟨b, k * 3, none⟩ = some (.int .i64 f) ∧ W.cell? ⟨b, k * 3 + 1, none⟩ = some (.int .i64 t) ∧ W.cell? ⟨b, k * 3 + 2, none⟩ = some (.int .i64 u) from ⟨(hW.cell (p := ⟨b, k * 3, none⟩) hbb).trans c0, (hW.cell (p := ⟨b, k * 3 + 1, none⟩) hbb).trans c1, (hW.cell (p := ⟨b, k * 3 + 2, none⟩) hbb).trans c2⟩))
        have hsz := HB.out.size
        have HBA := Lib.hid ((HB.out.alloc hsz (.cells #[.int .i64 t, .int .i64 f, .int .i64 u] 27)).drew)
        have K1 := HKw.out wr.drew HB.out.drew
        have K2 := HKw.out (wr.drew.alloc (.cells #[.int .i64 t, .int .i64 f, .int .i64 u] 27)) HBA.out
        have K3 : (wr.alloc (.cells #[.int .i64 t, .int .i64 f, .int .i64 u] 27)).drew.cell? ⟨b, k * 3, none⟩ = some (.int .i64 f) ∧ (wr.alloc (.cells #[.int .i64 t, .int .i64 f, .int .i64 u] 27)).drew.cell? ⟨b, k * 3 + 1, none⟩ = some (.int .i64 t) ∧ (wr.alloc (.cells #[.int .i64 t, .int .i64 f, .int .i64 u] 27)).drew.cell? ⟨b, k * 3 + 2, none⟩ = some (.int .i64 u) := K2
        have HAd := Lib.hid (show World.ownsRow (wr.alloc (.cells #[.int .i64 t, .int .i64 f, .int .i64 u] 27)).drew w3.heap.size 27 3 (.slice (some ⟨ob, 0, none⟩) k oc) k (((ps.take k).map rev).flatMap ac) by
          have h := HF.out.alloc (.cells #[.int .i64 t, .int .i64 f, .int .i64 u] 27)
          unfold TRow at h
          rw [HLK.out] at h
          exact h)
        have HNew := Lib.hid (show ∀ j v, (ac (t, f, u))[j]? = some v → (wr.alloc (.cells #[.int .i64 t, .int .i64 f, .int .i64 u] 27)).drew.cell? ((⟨wr.heap.size, 0, none⟩ : Addr).add j) = some v from newPost_cells wr (t, f, u))
        have HobB := Lib.hid (World.ownsRow.lt HF.out ob rfl)
        have HK6 := Lib.hid (fun (W6 : World) (hg : (wr.alloc (.cells #[.int .i64 t, .int .i64 f, .int .i64 u] 27)).drew.grownBy W6 (some ob)) => HKw.out W6 (HBA.out.grown hg HBA.out.size (fun k hk => by injection hk with hk; have := HobB.out.1; omega)))
        have hi1 : (k : Int) < ps.length := by omega
        have hi0 : (0 : Int) ≤ k := by omega
        clear c0 c1 c2
        go_wp2_with fail
        first | (go_region_held_law (fun W => W.cell? ⟨b, k * 3, none⟩ = some (.int .i64 f) ∧ W.cell? ⟨b, k * 3 + 1, none⟩ = some (.int .i64 t) ∧ W.cell? ⟨b, k * 3 + 2, none⟩ = some (.int .i64 u)) (first | with_reducible exact K1 | with_reducible exact K2 | with_reducible exact K3 | with_reducible exact K6 | fail "nokeep") (first | (refine step_append_lies _ rfl _ _ 23 rfl w3.heap.size 27 i0 _ 3 24 Try.underlying23 hii hz0 hz1 hz2 rfl (by decide) (.slice (some ⟨ob, 0, none⟩) k oc) k (((ps.take k).map rev).flatMap ac) rfl HAd.out ⟨wr.heap.size, 0, none⟩ 1 1 (ac (t, f, u)) rfl rfl HNew.out (ac_one _) (by decide) (by unfold maxLen; omega) (by omega) HBA.out.size _ rfl ?_; intro g6 c6 w6 hown6 hg6 hat6 hlt6; have K6 := HK6.out w6 hg6))) | fail "WALK"
        have HB6 := Lib.hid (HBA.out.grown hg6 HBA.out.size (fun k hk => by have hk2 : some ob = some k := hk; injection hk2 with hk2; have := HobB.out.1; omega))
        have HT6 := Lib.hid (show TRow 27 w6 w3.heap.size (.slice (some ⟨g6, 0, none⟩) (k + 1) c6) ((ps.take (k + 1)).map rev) by
          have h := hown6
          unfold TRow
          rw [HT.out, List.length_append, HLK.out, List.flatMap_append]
          simpa [rev] using h)
        clear hown6 hg6 hat6 hlt6 K1 K2 K3 K6
        go_wp2_with fail
        go_roundw
        case rel => exact ⟨k + 1, g6, c6, by omega, by go_num, rfl, HT6, HB6⟩
        case measure => simp [intOf]; omega
      · obtain rfl : k = ps.length := by omega
        rw [List.take_of_length_le (Nat.le_refl _)] at HF
        have HVB := Lib.hid HF.out.r3.o
        have HLn := Lib.hid (show (ps.map rev).length = ps.length from List.length_map _)
        have HB9 := Lib.hid (HB3.out.trans (HB.out.mono HB3.out.size))
        have hbq : (Ps.ok ps == Ps.ok ps) = true := by simp
        go_wp2_with fail
        refine (vposts_any _ _ _ HVB.out (by rw [HLn.out]; omega)).mono ?_
        rw [rev_ok]
        rintro e w5 ⟨rfl, hb5⟩
        go_wp2_with fail
        go_ret
        exact ⟨ret_bool (by simp), HB9.out.trans (hb5.mono HB9.out.size)⟩
set_option maxRecDepth 8000 in
set_option maxHeartbeats 4000000 in
theorem lawBalanceReverse (a : Option Addr) (len cap : Nat) (zs : List Int) (w : World) (h : IsRow .u8 w a len cap zs) :
    Calls Try.prog 4 #[.slice a len cap] w fun e w' => e = .returned (.bool true) ∧ Below w.heap.size w w' := by
  have H := Lib.hid h; clear h
  by_cases hl : 1048576 < (len : Int)
  · go_enter Try.func4, Try.ntmps4
    go_wp2_with fail
    go_ret
    exact ⟨rfl, Below.refl _ _⟩
  · have hl' := decide_eq_false hl
    clear hl
    go_enter Try.func4, Try.ntmps4
    go_wp2_with fail
    refine (drawBO_any _ _ _ _ _ H.out).mono ?_
    rintro e w1 ⟨v, ps, x, rfl, hF, hl, hI, ⟨b, c, rfl⟩, ⟨x0, x1⟩, hb1⟩
    have HL1 := Lib.hid hF.r3.o
    have HB1 := Lib.hid hb1
    have hm : ps.length ≤ 9223372036854775807 := by omega
    have HX := Lib.hid (wf_i64 (x := x) (by omega) (by omega))
    have hne : (Bl.val ps x != Bl.val ps x) = false := by simp
    obtain ⟨v0, v1⟩ := Bl.val_bd ps x
    clear hF hI hb1
    go_wp2_with fail
    refine (balOf_any _ _ _ _ HL1.out hm HX.out).mono ?_
    rintro e w2 ⟨rfl, hb2⟩
    have HL2 := Lib.hid (HL1.out.below hb2 (Nat.le_refl _))
    have HB2 := Lib.hid (HB1.out.trans (hb2.mono HB1.out.size))
    clear hb2
    go_wp2_with fail
    refine (sbalOf_any _ _ _ _ HL2.out hm).mono ?_
    rintro e w3 ⟨rfl, hb3⟩
    have HL3 := Lib.hid (HL2.out.below hb3 (Nat.le_refl _))
    have HB3 := Lib.hid (HB2.out.trans (hb3.mono HB2.out.size))
    clear hb3
    go_wp2_with fail
    go_loopw [6, 7] (fun o y wx => ∃ (k ob oc : Nat), k ≤ ps.length ∧ y = .int .i64 k ∧ o = .slice (some ⟨ob, 0, none⟩) k oc ∧ Hid (TRow 27 wx w3.heap.size o ((ps.take k).map rev)) ∧ Hid (Below w3.heap.size w3 wx)) (fun _ y _ => ps.length - (intOf y).toNat)
    case atStart => exact ⟨0, w3.heap.size, 0, Nat.zero_le _, rfl, rfl, Lib.hid (by simpa using TRow.new 27 w3), Lib.hid ((Below.refl _ _).alloc (Nat.le_refl _) _)⟩
    case round =>
      obtain ⟨k, ob, oc, hk, rfl, rfl, HF, HB⟩ := hrel
      by_cases hlt : k < ps.length
      · obtain ⟨b', off', c', e', hbb, hc⟩ := HL3.out.2 (by omega)
        simp only [Value.slice.injEq, true_and, Option.some.injEq, Addr.mk.injEq, and_true] at e'
        obtain ⟨⟨rfl, rfl⟩, rfl⟩ := e'
        obtain ⟨c0, c1, c2⟩ := hc k hlt
        simp only [Nat.zero_add] at c0 c1 c2
        clear hc
        obtain ⟨p, hp⟩ : ∃ p, p = ps.getD k t0 := ⟨_, rfl⟩
        rw [← hp] at c0 c1 c2
        have HT := Lib.hid (rev_take hlt hp)
        clear hp
        obtain ⟨f, t, u⟩ := p
        simp only at c0 c1 c2
        have hlk : ((ps.take k).map rev).length = k := by rw [List.length_map, List.length_take]; omega
        have HLK := Lib.hid hlk
        clear hlk
        obtain ⟨i0, hii, hz0, hz1, hz2⟩ := infoPartsPost
        have HKw := Lib.hid (fun W (hW : Below w3.heap.size w3 W) => (show W.cell? ⟨b, k * 3, none⟩ = some (.int .i64 f) ∧ W.cell? ⟨b, k * 3 + 1, none⟩ = some (.int .i64 t) ∧ W.cell? ⟨b, k * 3 + 2, none⟩ = some (.int .i64 u) from ⟨(hW.cell (p := ⟨b, k * 3, none⟩) hbb).trans c0, (hW.cell (p := ⟨b, k * 3 + 1, none⟩) hbb).trans c1, (hW.cell (p := ⟨b, k * 3 + 2, none⟩) hbb).trans c2⟩))
        have hsz := HB.out.size
        have HBA := Lib.hid ((HB.out.alloc hsz (.cells #[.int .i64 t, .int .i64 f, .int .i64 u] 27)).drew)
        have K1 := HKw.out wr.drew HB.out.drew
        have K2 := HKw.out (wr.drew.alloc (.cells #[.int .i64 t, .int .i64 f, .int .i64 u] 27)) HBA.out
        have K3 : (wr.alloc (.cells #[.int .i64 t, .int .i64 f, .int .i64 u] 27)).drew.cell? ⟨b, k * 3, none⟩ = some (.int .i64 f) ∧ (wr.alloc (.cells #[.int .i64 t, .int .i64 f, .int .i64 u] 27)).drew.cell? ⟨b, k * 3 + 1, none⟩ = some (.int .i64 t) ∧ (wr.alloc (.cells #[.int .i64 t, .int .i64 f, .int .i64 u] 27)).drew.cell? ⟨b, k * 3 + 2, none⟩ = some (.int .i64 u) := K2
        have HAd := Lib.hid (show World.ownsRow (wr.alloc (.cells #[.int .i64 t, .int .i64 f, .int .i64 u] 27)).drew w3.heap.size 27 3 (.slice (some ⟨ob, 0, none⟩) k oc) k (((ps.take k).map rev).flatMap ac) by
          have h := HF.out.alloc (.cells #[.int .i64 t, .int .i64 f, .int .i64 u] 27)
          unfold TRow at h
          rw [HLK.out] at h
          exact h)
        have HNew := Lib.hid (show ∀ j v, (ac (t, f, u))[j]? = some v → (wr.alloc (.cells #[.int .i64 t, .int .i64 f, .int .i64 u] 27)).drew.cell? ((⟨wr.heap.size, 0, none⟩ : Addr).add j) = some v from newPost_cells wr (t, f, u))
        have HobB := Lib.hid (World.ownsRow.lt HF.out ob rfl)
        have HK6 := Lib.hid (fun (W6 : World) (hg : (wr.alloc (.cells #[.int .i64 t, .int .i64 f, .int .i64 u] 27)).drew.grownBy W6 (some ob)) => HKw.out W6 (HBA.out.grown hg HBA.out.size (fun k hk => by injection hk with hk; have := HobB.out.1; omega)))
        have hi1 : (k : Int) < ps.length := by omega
        have hi0 : (0 : Int) ≤ k := by omega
        clear c0 c1 c2
        go_wp2_with fail
        first | (go_region_held_law (fun W => W.cell? ⟨b, k * 3, none⟩ = some (.int .i64 f) ∧ W.cell? ⟨b, k * 3 + 1, none⟩ = some (.int .i64 t) ∧ W.cell? ⟨b, k * 3 + 2, none⟩ = some (.int .i64 u)) (first | with_reducible exact K1 | with_reducible exact K2 | with_reducible exact K3 | with_reducible exact K6 | fail "nokeep") (first | (refine step_append_lies _ rfl _ _ 23 rfl w3.heap.size 27 i0 _ 3 24 Try.underlying23 hii hz0 hz1 hz2 rfl (by decide) (.slice (some ⟨ob, 0, none⟩) k oc) k (((ps.take k).map rev).flatMap ac) rfl HAd.out ⟨wr.heap.size, 0, none⟩ 1 1 (ac (t, f, u)) rfl rfl HNew.out (ac_one _) (by decide) (by unfold maxLen; omega) (by omega) HBA.out.size _ rfl ?_; intro g6 c6 w6 hown6 hg6 hat6 hlt6; have K6 := HK6.out w6 hg6))) | fail "WALK"
        have HB6 := Lib.hid (HBA.out.grown hg6 HBA.out.size (fun k hk => by have hk2 : some ob = some k := hk; injection hk2 with hk2; have := HobB.out.1; omega))
        have HT6 := Lib.hid (show TRow 27 w6 w3.heap.size (.slice (some ⟨g6, 0, none⟩) (k + 1) c6) ((ps.take (k + 1)).map rev) by
          have h := hown6
          unfold TRow
          rw [HT.out, List.length_append, HLK.out, List.flatMap_append]
          simpa [rev] using h)
        clear hown6 hg6 hat6 hlt6 K1 K2 K3 K6
        go_wp2_with fail
        go_roundw
        case rel => exact ⟨k + 1, g6, c6, by omega, by go_num, rfl, HT6, HB6⟩
        case measure => simp [intOf]; omega
      · obtain rfl : k = ps.length := by omega
        rw [List.take_of_length_le (Nat.le_refl _)] at HF
        have HVB := Lib.hid HF.out.r3.o
        have HLn := Lib.hid (show (ps.map rev).length = ps.length from List.length_map _)
        have HB9 := Lib.hid (HB3.out.trans (HB.out.mono HB3.out.size))
        have hbq : (-Bl.val ps x == -Bl.val ps x) = true := by simp
        go_wp2_with fail
        refine (balOf_any _ _ _ _ HVB.out (by rw [HLn.out]; omega) HX.out).mono ?_
        rw [rev_val]
        rintro e w5 ⟨rfl, hb5⟩
        go_wp2_with fail
        go_ret
        exact ⟨ret_bool (by simp), HB9.out.trans (hb5.mono HB9.out.size)⟩
end Go.Proofs.Ytgncgbaoijcinaa
