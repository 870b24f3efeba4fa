/- Lists of int that are all valid, by impl.validDay. -/
import Derived.Test.YtdmamojidefdaaaHolV
import Derived.Laws.EntriesVeiled
namespace Go.Proofs.Ytdmamojidefdaaa
open Go.RowKit
set_option maxHeartbeats 400000 in
theorem avC_HDay (p : Int) (q : Nat) (w : World) (hq : w.cell? ⟨q, 0, none⟩ = some (.func (.func 15) #[] #[])) (hql : q < w.heap.size) :
    Calls Try.prog 36 #[(.int .i64 p), .pointer (some ⟨q, 0, none⟩)] w fun e w' => e = .returned (.bool (!hdayB p)) ∧ Below w.heap.size w w' := by
  have hbA := Below.refl w.heap.size w
  have hq2 := (hbA.cell (p := ⟨q, 0, none⟩) hql).trans hq
  clear hq
  go_enter Try.func36, Try.ntmps36
  go_wp2_with fail
  refine (hvday_any p _).mono ?_
  rintro e w1 ⟨rfl, hb1⟩
  go_wp2_with fail
  go_ret
  exact ⟨rfl, hbA.trans (hb1.mono hbA.size)⟩
set_option maxHeartbeats 1000000 in
theorem avI_HDay (w : World) (v : Value) (ps : List Int) (q : Nat) (hv : R1o w v ps) (hm : ps.length ≤ 9223372036854775807) (hq : w.cell? ⟨q, 0, none⟩ = some (.func (.func 15) #[] #[])) (hql : q < w.heap.size) :
    Calls Try.prog 38 #[v, (.func (.func 36) #[] #[.pointer (some ⟨q, 0, none⟩)])] w fun x w' => (∃ k : Int, x = .returned (.int .i64 k) ∧ ((k = -1 ∧ ps.all hdayB = true) ∨ (0 ≤ k ∧ ps.all hdayB = false))) ∧ Below w.heap.size w w' := by
  obtain ⟨⟨a, c, rfl⟩, h1⟩ := hv
  have H1 := Lib.hid h1; clear h1
  have HQ := Lib.hid hq; clear hq
  obtain ⟨n, hn⟩ : ∃ n, n = ps.length := ⟨_, rfl⟩
  rw [← hn] at hm ⊢
  have HN := Lib.hid hn; clear hn
  go_enter Try.func38, Try.ntmps38
  go_wp2_with fail
  go_loopw [8] (fun x wr => ∃ i : Nat, i ≤ n ∧ x = .int .i64 i ∧ Below w.heap.size w wr ∧ Hid (∀ j, j < i → hdayB (ps.getD j 0) = true)) (fun x _ => n - (intOf x).toNat)
  case atStart => exact ⟨0, Nat.zero_le _, rfl, Below.refl _ _, Lib.hid (fun j hj => by omega)⟩
  case round =>
    obtain ⟨i, hi, rfl, hb, HH⟩ := hrel
    by_cases hlt : i < n
    · obtain ⟨b, off, d', e, hbl, hc⟩ := H1.out (by rw [← HN.out]; omega)
      rw [← HN.out] at e
      simp only [Value.slice.injEq, true_and] at e
      obtain ⟨rfl, rfl⟩ := e
      have c0 := hc i (by rw [← HN.out]; exact hlt)
      replace c0 := (hb.cell (p := ⟨b, off + i, none⟩) hbl).trans c0
      clear hc
      have hcl := avC_HDay (ps.getD i 0) q wr ((hb.cell (p := ⟨q, 0, none⟩) hql).trans HQ.out) (Nat.lt_of_lt_of_le hql hb.size)
      have hsz := hb.size
      cases hh : hdayB (ps.getD i 0) with
      | false =>
        rw [hh] at hcl
        have HC := Lib.hid hcl
        have HF := Lib.hid (allB_bad hdayB 0 (by rw [← HN.out]; exact hlt) hh)
        clear hcl hh
        generalize ps.getD i 0 = p at c0 HC
        go_wp2_with fail
        refine HC.out.mono ?_
        rintro x w2 ⟨rfl, hb2⟩
        go_wp2_with fail
        go_ret
        exact ⟨⟨_, rfl, .inr ⟨by omega, HF.out⟩⟩, hb.trans (hb2.mono hsz)⟩
      | true =>
        rw [hh] at hcl
        have HC := Lib.hid hcl
        have HF := Lib.hid hh
        clear hcl hh
        generalize hp : ps.getD i 0 = p at c0 HC
        clear hp
        go_wp2_with fail
        refine HC.out.mono ?_
        rintro x w2 ⟨rfl, hb2⟩
        go_wp2_with fail
        go_roundw
        case rel =>
          refine ⟨i + 1, by omega, by go_num, hb.trans (hb2.mono hsz), Lib.hid (fun j hj => ?_)⟩
          rcases Nat.lt_or_ge j i with r | r
          · exact HH.out j r
          · obtain rfl : j = i := by omega
            exact HF.out
        case measure => simp [intOf] <;> omega
    · obtain rfl : i = n := by omega
      have HF := Lib.hid (allB_take hdayB 0 HH.out HN.out)
      go_wp2_with fail
      go_ret
      exact ⟨⟨_, rfl, .inl ⟨rfl, HF.out⟩⟩, hb⟩
set_option maxHeartbeats 400000 in
theorem avX_HDay (w : World) (v : Value) (ps : List Int) (q : Nat) (hv : R1o w v ps) (hm : ps.length ≤ 9223372036854775807) (hq : w.cell? ⟨q, 0, none⟩ = some (.func (.func 15) #[] #[])) (hql : q < w.heap.size) :
    Calls Try.prog 37 #[v, (.func (.func 36) #[] #[.pointer (some ⟨q, 0, none⟩)])] w fun x w' => x = .returned (.bool (!ps.all hdayB)) ∧ Below w.heap.size w w' := by
  have HI := Lib.hid (avI_HDay w v ps q hv hm hq hql)
  clear hv hq
  go_enter Try.func37, Try.ntmps37
  go_wp2_with fail
  refine HI.out.mono ?_
  rintro x w1 ⟨⟨k, rfl, hk⟩, hb⟩
  rcases hk with ⟨rfl, hk⟩ | ⟨hk0, hk⟩
  · have E := Lib.hid hk; clear hk
    go_wp2_with fail
    go_ret
    exact ⟨ret_bool (by rw [E.out]; rfl), hb⟩
  · have E := Lib.hid hk; clear hk
    go_wp2_with fail
    go_ret
    exact ⟨ret_bool (by rw [E.out]; simp), hb⟩
set_option maxHeartbeats 400000 in
theorem av_HDay (w : World) (v : Value) (ps : List Int) (lo hi : Int) (hv : R1o w v ps) (hm : ps.length ≤ 9223372036854775807) :
    Calls Try.prog 33 #[v, .int .i64 lo, .int .i64 hi, (.func (.func 15) #[] #[])] w fun x w' => x = .returned (.bool (btw ps.length lo hi && ps.all hdayB)) ∧ Below w.heap.size w w' := by
  have hbA := (Below.refl w.heap.size w).alloc (Nat.le_refl _) (.cells #[(.func (.func 15) #[] #[])] 36)
  have HX := Lib.hid (avX_HDay (w.alloc (.cells #[(.func (.func 15) #[] #[])] 36)) v ps w.heap.size (hv.below hbA (Nat.le_refl _)) hm ((Blk.new w #[(.func (.func 15) #[] #[])] 36).one0) (Blk.new w #[(.func (.func 15) #[] #[])] 36).lt)
  obtain ⟨⟨a, c, rfl⟩, h1⟩ := hv
  clear h1
  have HB := Lib.hid hbA; clear hbA
  cases h0 : btw ps.length lo hi with
  | false =>
    have E := Lib.hid h0
    go_enter Try.func33, Try.ntmps33
    go_wp2_with fail
    refine (between_any _ _ _ _).mono ?_
    rintro e w1 ⟨rfl, rfl⟩
    rw [h0]
    go_wp2_with fail
    go_ret
    exact ⟨ret_bool (by rfl), HB.out⟩
  | true =>
    go_enter Try.func33, Try.ntmps33
    go_wp2_with fail
    refine (between_any _ _ _ _).mono ?_
    rintro e w1 ⟨rfl, rfl⟩
    rw [h0]
    go_wp2_with fail
    refine HX.out.mono ?_
    rintro e w1 ⟨rfl, hb1⟩
    go_wp2_with fail
    go_ret
    exact ⟨ret_bool (by simp), HB.out.trans (hb1.mono HB.out.size)⟩
end Go.Proofs.Ytdmamojidefdaaa
