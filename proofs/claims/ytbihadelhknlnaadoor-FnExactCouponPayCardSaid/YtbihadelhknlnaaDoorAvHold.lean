/- Lists of int that are all valid, by impl.validHoldings$1. -/
import Derived.Test.YtbihadelhknlnaaDoorZD
import Derived.Laws.EntriesVeiled
namespace Go.Proofs.YtbihadelhknlnaaDoor
open Go.RowKit
set_option maxHeartbeats 400000 in
theorem avC_Hold (p : Int) (q : Nat) (w : World) (hq : w.cell? ⟨q, 0, none⟩ = some (.func (.func 34) #[] #[])) (hql : q < w.heap.size) :
    Calls Tryd.prog 49 #[(.int .i64 p), .pointer (some ⟨q, 0, none⟩)] w fun e w' => e = .returned (.bool (!holdB p)) ∧ Below w.heap.size w w' := by
  have hbA := Below.refl w.heap.size w
  have hq2 := (hbA.cell (p := ⟨q, 0, none⟩) hql).trans hq
  clear hq
  go_enter Tryd.func49, Tryd.ntmps49
  go_wp2_with fail
  refine (hold1_any p _).mono ?_
  rintro e w1 ⟨rfl, hb1⟩
  go_wp2_with fail
  go_ret
  exact ⟨rfl, hbA.trans (hb1.mono hbA.size)⟩
set_option maxHeartbeats 1000000 in
theorem avI_Hold (w : World) (v : Value) (ps : List Int) (q : Nat) (hv : R1o w v ps) (hm : ps.length ≤ 9223372036854775807) (hq : w.cell? ⟨q, 0, none⟩ = some (.func (.func 34) #[] #[])) (hql : q < w.heap.size) :
    Calls Tryd.prog 60 #[v, (.func (.func 49) #[] #[.pointer (some ⟨q, 0, none⟩)])] w fun x w' => (∃ k : Int, x = .returned (.int .i64 k) ∧ ((k = -1 ∧ ps.all holdB = true) ∨ (0 ≤ k ∧ ps.all holdB = false))) ∧ Below w.heap.size w w' := by
  obtain ⟨⟨a, c, rfl⟩, h1⟩ := hv
  have H1 := Lib.hid h1; clear h1
  have HQ := Lib.hid hq; clear hq
  obtain ⟨n, hn⟩ : ∃ n, n = ps.length := ⟨_, rfl⟩
  rw [← hn] at hm ⊢
  have HN := Lib.hid hn; clear hn
  go_enter Tryd.func60, Tryd.ntmps60
  go_wp2_with fail
  go_loopw [8] (fun x wr => ∃ i : Nat, i ≤ n ∧ x = .int .i64 i ∧ Below w.heap.size w wr ∧ Hid (∀ j, j < i → holdB (ps.getD j 0) = true)) (fun x _ => n - (intOf x).toNat)
  case atStart => exact ⟨0, Nat.zero_le _, rfl, Below.refl _ _, Lib.hid (fun j hj => by omega)⟩
  case round =>
    obtain ⟨i, hi, rfl, hb, HH⟩ := hrel
    by_cases hlt : i < n
    · obtain ⟨b, off, d', e, hbl, hc⟩ := H1.out (by rw [← HN.out]; omega)
      rw [← HN.out] at e
      simp only [Value.slice.injEq, true_and] at e
      obtain ⟨rfl, rfl⟩ := e
      have c0 := hc i (by rw [← HN.out]; exact hlt)
      replace c0 := (hb.cell (p := ⟨b, off + i, none⟩) hbl).trans c0
      clear hc
      have hcl := avC_Hold (ps.getD i 0) q wr ((hb.cell (p := ⟨q, 0, none⟩) hql).trans HQ.out) (Nat.lt_of_lt_of_le hql hb.size)
      have hsz := hb.size
      cases hh : holdB (ps.getD i 0) with
      | false =>
        rw [hh] at hcl
        have HC := Lib.hid hcl
        have HF := Lib.hid (allB_bad holdB 0 (by rw [← HN.out]; exact hlt) hh)
        clear hcl hh
        generalize ps.getD i 0 = p at c0 HC
        go_wp2_with fail
        refine HC.out.mono ?_
        rintro x w2 ⟨rfl, hb2⟩
        go_wp2_with fail
        go_ret
        exact ⟨⟨_, rfl, .inr ⟨by omega, HF.out⟩⟩, hb.trans (hb2.mono hsz)⟩
      | true =>
        rw [hh] at hcl
        have HC := Lib.hid hcl
        have HF := Lib.hid hh
        clear hcl hh
        generalize hp : ps.getD i 0 = p at c0 HC
        clear hp
        go_wp2_with fail
        refine HC.out.mono ?_
        rintro x w2 ⟨rfl, hb2⟩
        go_wp2_with fail
        go_roundw
        case rel =>
          refine ⟨i + 1, by omega, by go_num, hb.trans (hb2.mono hsz), Lib.hid (fun j hj => ?_)⟩
          rcases Nat.lt_or_ge j i with r | r
          · exact HH.out j r
          · obtain rfl : j = i := by omega
            exact HF.out
        case measure => simp [intOf] <;> omega
    · obtain rfl : i = n := by omega
      have HF := Lib.hid (allB_take holdB 0 HH.out HN.out)
      go_wp2_with fail
      go_ret
      exact ⟨⟨_, rfl, .inl ⟨rfl, HF.out⟩⟩, hb⟩
set_option maxHeartbeats 400000 in
theorem avX_Hold (w : World) (v : Value) (ps : List Int) (q : Nat) (hv : R1o w v ps) (hm : ps.length ≤ 9223372036854775807) (hq : w.cell? ⟨q, 0, none⟩ = some (.func (.func 34) #[] #[])) (hql : q < w.heap.size) :
    Calls Tryd.prog 50 #[v, (.func (.func 49) #[] #[.pointer (some ⟨q, 0, none⟩)])] w fun x w' => x = .returned (.bool (!ps.all holdB)) ∧ Below w.heap.size w w' := by
  have HI := Lib.hid (avI_Hold w v ps q hv hm hq hql)
  clear hv hq
  go_enter Tryd.func50, Tryd.ntmps50
  go_wp2_with fail
  refine HI.out.mono ?_
  rintro x w1 ⟨⟨k, rfl, hk⟩, hb⟩
  rcases hk with ⟨rfl, hk⟩ | ⟨hk0, hk⟩
  · have E := Lib.hid hk; clear hk
    go_wp2_with fail
    go_ret
    exact ⟨ret_bool (by rw [E.out]; rfl), hb⟩
  · have E := Lib.hid hk; clear hk
    go_wp2_with fail
    go_ret
    exact ⟨ret_bool (by rw [E.out]; simp), hb⟩
set_option maxHeartbeats 400000 in
theorem av_Hold (w : World) (v : Value) (ps : List Int) (lo hi : Int) (hv : R1o w v ps) (hm : ps.length ≤ 9223372036854775807) :
    Calls Tryd.prog 33 #[v, .int .i64 lo, .int .i64 hi, (.func (.func 34) #[] #[])] w fun x w' => x = .returned (.bool (btw ps.length lo hi && ps.all holdB)) ∧ Below w.heap.size w w' := by
  have hbA := (Below.refl w.heap.size w).alloc (Nat.le_refl _) (.cells #[(.func (.func 34) #[] #[])] 61)
  have HX := Lib.hid (avX_Hold (w.alloc (.cells #[(.func (.func 34) #[] #[])] 61)) v ps w.heap.size (hv.below hbA (Nat.le_refl _)) hm ((Blk.new w #[(.func (.func 34) #[] #[])] 61).one0) (Blk.new w #[(.func (.func 34) #[] #[])] 61).lt)
  obtain ⟨⟨a, c, rfl⟩, h1⟩ := hv
  clear h1
  have HB := Lib.hid hbA; clear hbA
  cases h0 : btw ps.length lo hi with
  | false =>
    have E := Lib.hid h0
    go_enter Tryd.func33, Tryd.ntmps33
    go_wp2_with fail
    refine (between_any _ _ _ _).mono ?_
    rintro e w1 ⟨rfl, rfl⟩
    rw [h0]
    go_wp2_with fail
    go_ret
    exact ⟨ret_bool (by rfl), HB.out⟩
  | true =>
    go_enter Tryd.func33, Tryd.ntmps33
    go_wp2_with fail
    refine (between_any _ _ _ _).mono ?_
    rintro e w1 ⟨rfl, rfl⟩
    rw [h0]
    go_wp2_with fail
    refine HX.out.mono ?_
    rintro e w1 ⟨rfl, hb1⟩
    go_wp2_with fail
    go_ret
    exact ⟨ret_bool (by simp), HB.out.trans (hb1.mono HB.out.size)⟩
end Go.Proofs.YtbihadelhknlnaaDoor
