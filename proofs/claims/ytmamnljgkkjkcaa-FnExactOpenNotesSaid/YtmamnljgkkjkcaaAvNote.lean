/- Lists of impl.Note that are all valid, by (impl.Note).valid. -/
import Derived.Test.YtmamnljgkkjkcaaAvB
import Derived.Test.YtmamnljgkkjkcaaMnV
import Derived.Laws.EntriesVeiled
namespace Go.Proofs.Ytmamnljgkkjkcaa
open Go.RowKit
set_option maxHeartbeats 400000 in
theorem avC_Note (p : Tri) (q : Nat) (w : World) (hq : w.cell? ⟨q, 0, none⟩ = some (.func (.func 92) #[] #[])) (hql : q < w.heap.size) :
    Calls Try.prog 104 #[(triV p), .pointer (some ⟨q, 0, none⟩)] w fun e w' => e = .returned (.bool (!Mn.one p)) ∧ Below w.heap.size w w' := by
  have hbA := (Below.refl w.heap.size w).alloc (Nat.le_refl _) (.cells #[.int .i64 p.1, .int .i64 p.2.1, .int .i64 p.2.2] 48)
  have hq2 := (hbA.cell (p := ⟨q, 0, none⟩) hql).trans hq
  clear hq
  go_enter Try.func104, Try.ntmps104
  go_wp2_with fail
  refine (nvalid_any p _).mono ?_
  rintro e w1 ⟨rfl, hb1⟩
  go_wp2_with fail
  go_ret
  exact ⟨rfl, hbA.trans (hb1.mono hbA.size)⟩
set_option maxHeartbeats 1000000 in
theorem avI_Note (w : World) (v : Value) (ps : List Tri) (q : Nat) (hv : R3o w v ps) (hm : ps.length ≤ 9223372036854775807) (hq : w.cell? ⟨q, 0, none⟩ = some (.func (.func 92) #[] #[])) (hql : q < w.heap.size) :
    Calls Try.prog 108 #[v, (.func (.func 104) #[] #[.pointer (some ⟨q, 0, none⟩)])] w fun x w' => (∃ k : Int, x = .returned (.int .i64 k) ∧ ((k = -1 ∧ ps.all Mn.one = true) ∨ (0 ≤ k ∧ ps.all Mn.one = false))) ∧ Below w.heap.size w w' := by
  obtain ⟨⟨a, c, rfl⟩, h1⟩ := hv
  have H1 := Lib.hid h1; clear h1
  have HQ := Lib.hid hq; clear hq
  obtain ⟨n, hn⟩ : ∃ n, n = ps.length := ⟨_, rfl⟩
  rw [← hn] at hm ⊢
  have HN := Lib.hid hn; clear hn
  go_enter Try.func108, Try.ntmps108
  go_wp2_with fail
  go_loopw [8] (fun x wr => ∃ i : Nat, i ≤ n ∧ x = .int .i64 i ∧ Below w.heap.size w wr ∧ Hid (∀ j, j < i → Mn.one (ps.getD j t0) = true)) (fun x _ => n - (intOf x).toNat)
  case atStart => exact ⟨0, Nat.zero_le _, rfl, Below.refl _ _, Lib.hid (fun j hj => by omega)⟩
  case round =>
    obtain ⟨i, hi, rfl, hb, HH⟩ := hrel
    by_cases hlt : i < n
    · obtain ⟨b, off, d', e, hbl, hc⟩ := H1.out (by rw [← HN.out]; omega)
      rw [← HN.out] at e
      simp only [Value.slice.injEq, true_and] at e
      obtain ⟨rfl, rfl⟩ := e
      obtain ⟨c0, c1, c2⟩ := hc i (by rw [← HN.out]; exact hlt)
      replace c0 := (hb.cell (p := ⟨b, off + i * 3, none⟩) hbl).trans c0
      replace c1 := (hb.cell (p := ⟨b, off + i * 3 + 1, none⟩) hbl).trans c1
      replace c2 := (hb.cell (p := ⟨b, off + i * 3 + 2, none⟩) hbl).trans c2
      clear hc
      have hcl := avC_Note (ps.getD i t0) q wr ((hb.cell (p := ⟨q, 0, none⟩) hql).trans HQ.out) (Nat.lt_of_lt_of_le hql hb.size)
      have hsz := hb.size
      cases hh : Mn.one (ps.getD i t0) with
      | false =>
        rw [hh] at hcl
        have HC := Lib.hid hcl
        have HF := Lib.hid (allB_bad Mn.one t0 (by rw [← HN.out]; exact hlt) hh)
        clear hcl hh
        generalize ps.getD i t0 = p at c0 c1 c2 HC
        go_wp2_with fail
        refine HC.out.mono ?_
        rintro x w2 ⟨rfl, hb2⟩
        go_wp2_with fail
        go_ret
        exact ⟨⟨_, rfl, .inr ⟨by omega, HF.out⟩⟩, hb.trans (hb2.mono hsz)⟩
      | true =>
        rw [hh] at hcl
        have HC := Lib.hid hcl
        have HF := Lib.hid hh
        clear hcl hh
        generalize hp : ps.getD i t0 = p at c0 c1 c2 HC
        clear hp
        go_wp2_with fail
        refine HC.out.mono ?_
        rintro x w2 ⟨rfl, hb2⟩
        go_wp2_with fail
        go_roundw
        case rel =>
          refine ⟨i + 1, by omega, by go_num, hb.trans (hb2.mono hsz), Lib.hid (fun j hj => ?_)⟩
          rcases Nat.lt_or_ge j i with r | r
          · exact HH.out j r
          · obtain rfl : j = i := by omega
            exact HF.out
        case measure => simp [intOf] <;> omega
    · obtain rfl : i = n := by omega
      have HF := Lib.hid (allB_take Mn.one t0 HH.out HN.out)
      go_wp2_with fail
      go_ret
      exact ⟨⟨_, rfl, .inl ⟨rfl, HF.out⟩⟩, hb⟩
set_option maxHeartbeats 400000 in
theorem avX_Note (w : World) (v : Value) (ps : List Tri) (q : Nat) (hv : R3o w v ps) (hm : ps.length ≤ 9223372036854775807) (hq : w.cell? ⟨q, 0, none⟩ = some (.func (.func 92) #[] #[])) (hql : q < w.heap.size) :
    Calls Try.prog 105 #[v, (.func (.func 104) #[] #[.pointer (some ⟨q, 0, none⟩)])] w fun x w' => x = .returned (.bool (!ps.all Mn.one)) ∧ Below w.heap.size w w' := by
  have HI := Lib.hid (avI_Note w v ps q hv hm hq hql)
  clear hv hq
  go_enter Try.func105, Try.ntmps105
  go_wp2_with fail
  refine HI.out.mono ?_
  rintro x w1 ⟨⟨k, rfl, hk⟩, hb⟩
  rcases hk with ⟨rfl, hk⟩ | ⟨hk0, hk⟩
  · have E := Lib.hid hk; clear hk
    go_wp2_with fail
    go_ret
    exact ⟨ret_bool (by rw [E.out]; rfl), hb⟩
  · have E := Lib.hid hk; clear hk
    go_wp2_with fail
    go_ret
    exact ⟨ret_bool (by rw [E.out]; simp), hb⟩
set_option maxHeartbeats 400000 in
theorem av_Note (w : World) (v : Value) (ps : List Tri) (lo hi : Int) (hv : R3o w v ps) (hm : ps.length ≤ 9223372036854775807) :
    Calls Try.prog 91 #[v, .int .i64 lo, .int .i64 hi, (.func (.func 92) #[] #[])] w fun x w' => x = .returned (.bool (btw ps.length lo hi && ps.all Mn.one)) ∧ Below w.heap.size w w' := by
  have hbA := (Below.refl w.heap.size w).alloc (Nat.le_refl _) (.cells #[(.func (.func 92) #[] #[])] 117)
  have HX := Lib.hid (avX_Note (w.alloc (.cells #[(.func (.func 92) #[] #[])] 117)) v ps w.heap.size (hv.below hbA (Nat.le_refl _)) hm ((Blk.new w #[(.func (.func 92) #[] #[])] 117).one0) (Blk.new w #[(.func (.func 92) #[] #[])] 117).lt)
  obtain ⟨⟨a, c, rfl⟩, h1⟩ := hv
  clear h1
  have HB := Lib.hid hbA; clear hbA
  cases h0 : btw ps.length lo hi with
  | false =>
    have E := Lib.hid h0
    go_enter Try.func91, Try.ntmps91
    go_wp2_with fail
    refine (between_any _ _ _ _).mono ?_
    rintro e w1 ⟨rfl, rfl⟩
    rw [h0]
    go_wp2_with fail
    go_ret
    exact ⟨ret_bool (by rfl), HB.out⟩
  | true =>
    go_enter Try.func91, Try.ntmps91
    go_wp2_with fail
    refine (between_any _ _ _ _).mono ?_
    rintro e w1 ⟨rfl, rfl⟩
    rw [h0]
    go_wp2_with fail
    refine HX.out.mono ?_
    rintro e w1 ⟨rfl, hb1⟩
    go_wp2_with fail
    go_ret
    exact ⟨ret_bool (by simp), HB.out.trans (hb1.mono HB.out.size)⟩
end Go.Proofs.Ytmamnljgkkjkcaa
