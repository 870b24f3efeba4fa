/- The laws of postings and of balances. -/
import Derived.Test.YtcakdjmmlcjkbaaPsD
import Derived.Test.YtcakdjmmlcjkbaaBalX
namespace Go.Proofs.Ytcakdjmmlcjkbaa
open Go.RowKit
/-- Postings drawn out of a law's input. -/
def DPs (w : World) (e : Ending) (w' : World) : Prop :=
  ∃ v ps, e = .returned v ∧ TRow 50 w' w.heap.size v ps ∧ ps.length ≤ 41 ∧ (∀ q ∈ ps, PsIn q) ∧ (∃ b c, v = .slice (some ⟨b, 0, none⟩) ps.length c) ∧ Below w.heap.size w w'
def DPsA (w : World) (e : Ending) (w' : World) : Prop :=
  ∃ v ps, ∃ x : Int, e = .returned (.tuple #[v, .int .i64 x]) ∧ TRow 50 w' w.heap.size v ps ∧ ps.length ≤ 41 ∧ (∀ q ∈ ps, PsIn q) ∧ (∃ b c, v = .slice (some ⟨b, 0, none⟩) ps.length c) ∧ (-1 ≤ x ∧ x ≤ 6) ∧ Below w.heap.size w w'
theorem TRow.drew {T : TypeId} {w : World} {B : Nat} {v : Value} {ps : List Tri} (h : TRow T w B v ps) : TRow T w.drew B v ps := h
theorem TRow.slice {T : TypeId} {w : World} {B : Nat} {v : Value} {ps : List Tri} (h : TRow T w B v ps) (hn : v ≠ .slice none 0 0) : ∃ b c, v = .slice (some ⟨b, 0, none⟩) ps.length c := by
  rcases h.2 with ⟨h, _⟩ | ⟨b, cap, cur, h, _⟩
  · exact absurd h hn
  · exact ⟨b, cap, h⟩
set_option maxHeartbeats 1000000 in
theorem drawVP_any (w : World) (a : Option Addr) (len cap : Nat) (zs : List Int) (h : IsRow .u8 w a len cap zs) :
    Calls Try.prog 28 #[.slice a len cap] w (DPs w) := by
  have H := Lib.hid h; clear h
  go_enter Try.func28, Try.ntmps28
  go_wp2_with fail
  refine (newReader_any _ _ _ _ _ H.out).mono ?_
  rintro e w1 ⟨g, rfl, hg, hr, hb⟩
  go_wp2_with fail
  refine (anyPosts_any _ _ _ hr (by omega)).mono ?_
  rintro e w2 ⟨v, ps, rfl, hF, hl, hI, hn, hr2, hg2⟩
  obtain ⟨b, c, rfl⟩ := hF.slice hn
  have HF := Lib.hid (hF.lower hb.size)
  have HI := Lib.hid hI
  clear hF hI hn
  go_wp2_with fail
  go_ret
  exact ⟨_, ps, rfl, HF.out, hl, HI.out, ⟨_, _, rfl⟩, below_grown hb hg2 (by omega)⟩
set_option maxHeartbeats 1000000 in
theorem drawBO_any (w : World) (a : Option Addr) (len cap : Nat) (zs : List Int) (h : IsRow .u8 w a len cap zs) :
    Calls Try.prog 20 #[.slice a len cap] w (DPsA w) := by
  have H := Lib.hid h; clear h
  go_enter Try.func20, Try.ntmps20
  go_wp2_with fail
  refine (newReader_any _ _ _ _ _ H.out).mono ?_
  rintro e w1 ⟨g, rfl, hg, hr, hb⟩
  go_wp2_with fail
  refine (anyPosts_any _ _ _ hr (by omega)).mono ?_
  rintro e w2 ⟨v, ps, rfl, hF, hl, hI, hn, hr2, hg2⟩
  obtain ⟨b, c, rfl⟩ := hF.slice hn
  have HF := Lib.hid hF
  have HI := Lib.hid hI
  have hgl : g < w1.heap.size := hr.lt
  have hb2 := below_grown hb hg2 (by omega)
  clear hF hI hn
  go_wp2_with fail
  refine (pick_any _ _ _ _ hr2 (by omega) (by omega) (by omega)).mono ?_
  rintro e w3 ⟨x, rfl, ⟨hx, -⟩, hr3, hg3⟩
  obtain ⟨x0, x1⟩ := hx (by omega)
  have HF3 := Lib.hid ((HF.out.grown hg3 hgl).lower hb.size)
  have hb3 := below_grown hb2 hg3 (by omega)
  clear hx
  go_wp2_with fail
  refine bodyPost_ret (v := .tuple #[.slice (some ⟨b, 0, none⟩) ps.length c, .int .i64 (x - 1)]) (by simp [results, Try.results20, go_sem]) rfl ⟨_, ps, _, rfl, HF3.out, hl, HI.out, ⟨_, _, rfl⟩, by omega, hb3⟩
/-- The reverse -/
def rev (p : Tri) : Tri := (p.2.1, p.1, p.2.2)
theorem rev_one (p : Tri) : Ps.one (rev p) = Ps.one p := by
  obtain ⟨f, t, u⟩ := p
  unfold Ps.one rev
  simp only
  have e : (t != f) = (f != t) := by by_cases h : f = t <;> simp [h, bne_comm]
  rw [e]
  cases btw f 0 5 <;> cases btw t 0 5 <;> simp
theorem rev_ok (ps : List Tri) : Ps.ok (ps.map rev) = Ps.ok ps := by
  unfold Ps.ok
  rw [List.length_map, List.all_map]
  have : (Ps.one ∘ rev) = Ps.one := funext rev_one
  rw [this]
theorem rev_bal (p : Tri) (x : Int) : Bl.one (rev p) x = - Bl.one p x := by
  unfold Bl.one rev
  simp only
  split <;> split <;> omega
theorem rev_sum (ps : List Tri) (x : Int) : Bl.sum (ps.map rev) x = - Bl.sum ps x := by
  unfold Bl.sum
  induction ps with
  | nil => rfl
  | cons p ps ih =>
    simp only [List.map_cons, List.sum_cons, rev_bal] at ih ⊢
    omega
theorem rev_val (ps : List Tri) (x : Int) : Bl.val (ps.map rev) x = - Bl.val ps x := by
  unfold Bl.val
  rw [rev_ok, rev_sum]
  split <;> omega
theorem rev_take {ps : List Tri} {k : Nat} (hk : k < ps.length) {p : Tri} (hp : p = ps.getD k t0) : (ps.take (k + 1)).map rev = (ps.take k).map rev ++ [rev p] := by
  have : ps.take (k + 1) = ps.take k ++ [ps.getD k t0] := by
    rw [List.take_add_one, List.getD_eq_getElem?_getD, List.getElem?_eq_getElem hk]; rfl
  rw [this, hp]; simp
set_option maxRecDepth 8000 in
set_option maxHeartbeats 4000000 in
theorem lawBalanceOf (a : Option Addr) (len cap : Nat) (zs : List Int) (w : World) (h : IsRow .u8 w a len cap zs) :
    Calls Try.prog 8 #[.slice a len cap] w fun e w' => e = .returned (.bool true) ∧ Below w.heap.size w w' := by
  have H := Lib.hid h; clear h
  by_cases hl : 1048576 < (len : Int)
  · go_enter Try.func8, Try.ntmps8
    go_wp2_with fail
    go_ret
    exact ⟨rfl, Below.refl _ _⟩
  · have hl' := decide_eq_false hl
    clear hl
    go_enter Try.func8, Try.ntmps8
    go_wp2_with fail
    refine (drawBO_any _ _ _ _ _ H.out).mono ?_
    rintro e w1 ⟨v, ps, x, rfl, hF, hl, hI, ⟨b, c, rfl⟩, ⟨x0, x1⟩, hb1⟩
    have HL1 := Lib.hid hF.r3.o
    have HB1 := Lib.hid hb1
    have hm : ps.length ≤ 9223372036854775807 := by omega
    have HX := Lib.hid (wf_i64 (x := x) (by omega) (by omega))
    have hne : (Bl.val ps x != Bl.val ps x) = false := by simp
    clear hF hI hb1
    go_wp2_with fail
    refine (balOf_any _ _ _ _ HL1.out hm HX.out).mono ?_
    rintro e w2 ⟨rfl, hb2⟩
    have HL2 := Lib.hid (HL1.out.below hb2 (Nat.le_refl _))
    have HB2 := Lib.hid (HB1.out.trans (hb2.mono HB1.out.size))
    clear hb2
    go_wp2_with fail
    refine (sbalOf_any _ _ _ _ HL2.out hm).mono ?_
    rintro e w3 ⟨rfl, hb3⟩
    have HL3 := Lib.hid (HL2.out.below hb3 (Nat.le_refl _))
    have HB3 := Lib.hid (HB2.out.trans (hb3.mono HB2.out.size))
    clear hb3
    go_wp2_with fail
    go_loopw [6, 7] (fun o y wr => ∃ k : Nat, k ≤ 6 ∧ y = .int .i64 k ∧ o = .int .i64 (Bl.part ps k) ∧ Hid (R3o wr (.slice (some ⟨b, 0, none⟩) ps.length c) ps) ∧ Hid (Below w.heap.size w wr)) (fun _ y _ => 6 - (intOf y).toNat)
    case atStart => exact ⟨0, by omega, rfl, rfl, HL3, HB3⟩
    case round =>
      obtain ⟨k, hk, rfl, rfl, HR, HB⟩ := hrel
      by_cases hlt : k < 6
      · have hk5 : (k : Int) ≤ 5 := by omega
        obtain ⟨s0, s1⟩ := Bl.part_bd ps k (by omega)
        obtain ⟨v0, v1⟩ := Bl.val_bd ps k
        have HS := Lib.hid (show Bl.part ps (k + 1) = Bl.part ps k + Bl.val ps k from rfl)
        have HC := Lib.hid (fun W hr => balOf_any W (.slice (some ⟨b, 0, none⟩) ps.length c) ps k hr hm (wf_i64 (by omega) (by omega)))
        generalize Bl.part ps k = S at *
        generalize Bl.val ps k = V at *
        go_wp2_with fail
        refine (HC.out _ HR.out).mono ?_
        rintro e w4 ⟨rfl, hb4⟩
        go_wp2_with fail
        go_roundw
        case rel => exact ⟨k + 1, by omega, by go_num, by rw [HS.out], Lib.hid (HR.out.below hb4 (Nat.le_refl _)), Lib.hid (HB.out.trans (hb4.mono HB.out.size))⟩
        case measure => simp [intOf]; omega
      · obtain rfl : k = 6 := by omega
        have h6 := Bl.part_six ps
        have hout := fun h => Bl.val_out ps (x := x) h
        generalize Bl.part ps 6 = S at *
        generalize Bl.val ps x = V at *
        subst h6
        by_cases h1 : 0 ≤ x
        · by_cases h2 : x ≤ 5
          · clear hout
            go_wp2_with fail
            go_ret
            exact ⟨rfl, HB.out⟩
          · have hV := hout (.inr (by omega))
            subst hV
            clear hout
            go_wp2_with fail
            go_ret
            exact ⟨rfl, HB.out⟩
        · have hV := hout (.inl (by omega))
          subst hV
          clear hout
          go_wp2_with fail
          go_ret
          exact ⟨rfl, HB.out⟩
end Go.Proofs.Ytcakdjmmlcjkbaa
