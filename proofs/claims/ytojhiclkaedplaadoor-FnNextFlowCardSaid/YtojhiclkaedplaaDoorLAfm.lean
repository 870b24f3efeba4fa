/- The laws of the payments behind a day: draws, what the model leaves. -/
import Derived.Test.YtojhiclkaedplaaDoorPay
import Derived.Test.YtojhiclkaedplaaDoorDrawDay
import Derived.Test.YtojhiclkaedplaaDoorLFlow
namespace Go.Proofs.YtojhiclkaedplaaDoor
open Go.RowKit
theorem aft_tail (d : Int) : ∀ (fs : List Flo), (∀ i, 0 < i → i < fs.length → (fs.getD (i - 1) f0).1 < (fs.getD i f0).1) →
    ∃ k, k ≤ fs.length ∧ aftL fs d = fs.drop k ∧ (∀ i, i < k → (fs.getD i f0).1 ≤ d) ∧ (∀ i, k ≤ i → i < fs.length → d < (fs.getD i f0).1)
  | [], _ => ⟨0, by simp, by simp [aftL], by intro i h; omega, by intro i _ h; simp at h⟩
  | p :: fs, hs => by
    obtain ⟨k, h1, h2, h3, h4⟩ := aft_tail d fs (fun i i0 hi => by
      have := hs (i + 1) (by omega) (by simpa using hi)
      obtain ⟨j, rfl⟩ : ∃ j, i = j + 1 := ⟨i - 1, by omega⟩
      simpa using this)
    by_cases c : d < p.1
    · have hk : k = 0 := by
        rcases Nat.eq_zero_or_pos k with h | h
        · exact h
        · have q := h3 0 h
          have q2 := hs 1 (by omega) (by simp; omega)
          simp only [List.getD_cons_succ, Nat.sub_self, List.getD_cons_zero] at q2
          omega
      subst hk
      refine ⟨0, by simp, ?_, fun i h => by omega, fun i _ hi => ?_⟩
      · unfold aftL at h2 ⊢
        rw [List.filter_cons, if_pos (by simpa using c), h2]; rfl
      · rcases i with _ | i
        · simpa using c
        · simpa using h4 i (by omega) (by simpa using hi)
    · refine ⟨k + 1, by simpa using h1, ?_, fun i h => ?_, fun i hk hi => ?_⟩
      · unfold aftL at h2 ⊢
        rw [List.filter_cons, if_neg (by simpa using c), h2]; rfl
      · rcases i with _ | i
        · simpa using c
        · simpa using h3 i (by omega)
      · rcases i with _ | i
        · omega
        · simpa using h4 i (by omega) (by simpa using hi)
theorem flo_from {s e m r : Int} (n : Nat) (hn : n = (floL s e m r).length) (h1 : 1 ≤ n) : s < ((floL s e m r).getD 0 f0).1 := by
  have hl := floL_len s e m r
  have hz : perL s e m r ≠ [] := fun h => by rw [h] at hl; have hl0 : (floL s e m r).length = 0 := hl; omega
  have hp : perL s e m r = Sc.sch s e m := by
    unfold perL at hz ⊢
    by_cases c : btw r 0 3000 = true
    · rw [if_pos c]
    · rw [if_neg c] at hz; exact absurd rfl hz
  have hz2 := hz
  rw [hp] at hz2
  obtain ⟨ok, hN, hall⟩ := Sc.sch_pos hz2
  have hlen : (perL s e m r).length = Sc.N s e m := by rw [hp, hall, Sc.all_len]
  have hf := fun i hi => @Sc.all_facts s e m ok hN i hi
  rw [← hall, ← hp] at hf
  rw [flo_day s e m r (by omega)]
  obtain ⟨f, t, b, hg, hlt, -, -, -, h0, -⟩ := hf 0 (by omega)
  rw [show (perL s e m r).getD 0 p0 = (f, t, b) from hg]
  have := h0 rfl
  show s < t
  omega
/-- Sorted days. -/
theorem flo_sorted {s e m r : Int} (i : Nat) (i0 : 0 < i) (hi : i < (floL s e m r).length) : ((floL s e m r).getD (i - 1) f0).1 < ((floL s e m r).getD i f0).1 := (flo_order _ rfl (by omega)).1 i i0 hi
theorem flo_le {s e m r : Int} : ∀ (i : Nat), i < (floL s e m r).length → s < ((floL s e m r).getD i f0).1
  | 0, h => flo_from _ rfl (by omega)
  | i + 1, h => by
    have h1 := flo_le (s := s) (e := e) (m := m) (r := r) i (by omega)
    have h2 := flo_sorted (i + 1) (by omega) h
    simp only [Nat.add_sub_cancel] at h2
    omega
theorem flo_ge {s e m r : Int} : ∀ (j : Nat), j < (floL s e m r).length → ((floL s e m r).getD ((floL s e m r).length - 1 - j) f0).1 ≤ e
  | 0, h => by have := (flo_order (s := s) (e := e) (m := m) (r := r) _ rfl (by omega)).2.1; simp only [Nat.sub_zero]; omega
  | j + 1, h => by
    have h1 := flo_ge (s := s) (e := e) (m := m) (r := r) j (by omega)
    have h2 := flo_sorted (s := s) (e := e) (m := m) (r := r) ((floL s e m r).length - 1 - j) (by omega) (by omega)
    rw [show (floL s e m r).length - 1 - j - 1 = (floL s e m r).length - 1 - (j + 1) by omega] at h2
    omega
theorem aft_end (s e m r : Int) : aftL (floL s e m r) e = [] := by
  unfold aftL
  rw [List.filter_eq_nil_iff]
  intro p hp
  obtain ⟨i, hi, rfl⟩ := List.getElem_of_mem hp
  have h := flo_ge (s := s) (e := e) (m := m) (r := r) ((floL s e m r).length - 1 - i) (by omega)
  rw [show (floL s e m r).length - 1 - ((floL s e m r).length - 1 - i) = i by omega, List.getD_eq_getElem?_getD, List.getElem?_eq_getElem hi] at h
  simpa using h
theorem aft_start (s e m r : Int) : aftL (floL s e m r) (s - 1) = floL s e m r := by
  unfold aftL
  rw [List.filter_eq_self]
  intro p hp
  obtain ⟨i, hi, rfl⟩ := List.getElem_of_mem hp
  have h := flo_le (s := s) (e := e) (m := m) (r := r) i hi
  rw [List.getD_eq_getElem?_getD, List.getElem?_eq_getElem hi] at h
  simp at h ⊢
  omega
set_option maxRecDepth 8000 in
set_option maxHeartbeats 1000000 in
theorem eqF_off (w : World) (u : Value) (fs : List Flo) (a : Option Addr) (c : Nat) (h1 : 0 < fs.length → ∃ b o, a = some ⟨b, o, none⟩ ∧ b < w.heap.size ∧ ∀ i, i < fs.length → w.cell? ⟨b, o + i * 2, none⟩ = some (.int .i64 (fs.getD i f0).1) ∧ w.cell? ⟨b, o + i * 2 + 1, none⟩ = some (.int .i64 (fs.getD i f0).2)) (hu : RdF w u fs) (hm : fs.length ≤ 1000) :
    Calls Tryd.prog 10 #[.slice a fs.length c, u] w fun e w' => e = .returned (.bool true) ∧ Below w.heap.size w w' := by
  obtain ⟨⟨a', c', rfl⟩, h2⟩ := hu
  have H1 := Lib.hid h1; clear h1
  have H2 := Lib.hid h2; clear h2
  obtain ⟨n, hn⟩ : ∃ n, n = fs.length := ⟨_, rfl⟩
  rw [← hn] at hm ⊢
  have HN := Lib.hid hn; clear hn
  go_enter Tryd.func10, Tryd.ntmps10
  go_wp2_with fail
  go_loopw [5] (fun x wr => ∃ i : Nat, i ≤ n ∧ x = .int .i64 i ∧ Below w.heap.size w wr) (fun x _ => n - (intOf x).toNat)
  case atStart => exact ⟨0, Nat.zero_le _, rfl, Below.refl _ _⟩
  case round =>
    obtain ⟨i, hi, rfl, hb⟩ := hrel
    by_cases hlt : i < n
    · obtain ⟨b, o, e, hbl, hc⟩ := H1.out (by rw [← HN.out]; omega)
      obtain ⟨b', d', e', hbl', hc'⟩ := H2.out (by rw [← HN.out]; omega)
      rw [← HN.out] at e'
      simp only [Value.slice.injEq, true_and] at e'
      subst e
      obtain ⟨rfl, rfl⟩ := e'
      obtain ⟨c0, c1⟩ := hc i (by rw [← HN.out]; exact hlt)
      obtain ⟨g0, g1⟩ := hc' i (by rw [← HN.out]; exact hlt)
      replace c0 := (hb.cell (p := ⟨b, o + i * 2, none⟩) hbl).trans c0
      replace c1 := (hb.cell (p := ⟨b, o + i * 2 + 1, none⟩) hbl).trans c1
      replace g0 := (hb.cell (p := ⟨b', i * 2, none⟩) hbl').trans g0
      replace g1 := (hb.cell (p := ⟨b', i * 2 + 1, none⟩) hbl').trans g1
      clear hc hc'
      obtain ⟨p, hp⟩ : ∃ p, p = fs.getD i f0 := ⟨_, rfl⟩
      rw [← hp] at c0 c1 g0 g1
      clear hp
      obtain ⟨p1, p2⟩ := p
      dsimp only at c0 c1 g0 g1
      go_wp2_with fail
      go_quiet (fail)
      go_wp2_with fail
      go_roundw
      case rel => exact ⟨i + 1, by omega, by go_num, below_drewN hb _⟩
      case measure => simp [intOf]; omega
    · obtain rfl : i = n := by omega
      go_wp2_with fail
      go_ret
      exact ⟨rfl, hb⟩
set_option maxRecDepth 8000 in
set_option maxHeartbeats 2000000 in
theorem drawAfter_any (w : World) (a : Option Addr) (len cap : Nat) (zs : List Int) (h : IsRow .u8 w a len cap zs) :
    Calls Tryd.prog 8 #[.slice a len cap] w (DDay w) := by
  have H := Lib.hid h; clear h
  have HB0 := Lib.hid ((Below.refl w.heap.size w).alloc (Nat.le_refl _) (.cells #[.int .i64 0, .int .i64 0, .int .i64 0, .int .i64 0] 24))
  have KR0 := Lib.hid (Blk.new w #[.int .i64 0, .int .i64 0, .int .i64 0, .int .i64 0] 24)
  have H1 := Lib.hid (isRow_below' H.out HB0.out)
  go_enter Tryd.func8, Tryd.ntmps8
  go_wp2_with fail
  refine (newReader_any _ _ _ _ _ H1.out).mono ?_
  rintro x w1 ⟨g, rfl, hg, hr, hb⟩
  have KR1 := Lib.hid (KR0.out.below hb KR0.out.lt)
  have HB1 := Lib.hid (HB0.out.trans (hb.mono HB0.out.size))
  have hg0 : w.heap.size < g := Nat.lt_of_lt_of_le KR0.out.lt hg
  clear hb
  go_wp2_with fail
  refine (bondDay_any _ _ _ hr (by omega)).mono ?_
  rintro x w2 ⟨s, e, m, r, d, rfl, hs, he, hm, hr', hd, hrd, hg2⟩
  have KR2 := Lib.hid (KR1.out.grown hg2 (by omega))
  have HB2 := Lib.hid (HB1.out.grown hg2 HB1.out.size (fun j hj => by injection hj with hj; omega))
  obtain ⟨x0, x1, x2, x3⟩ := KR2.out.four
  obtain ⟨z0, z1, z2, z3⟩ := fourFz KR2.out
  clear hg2
  go_wp2_with fail
  have k2 := put4_blk KR2.out s e m r
  obtain ⟨r0', r1', r2', r3'⟩ := k2.four
  unfold put4 at r0' r1' r2' r3'
  refine bodyPost_ret (v := .tuple #[boV s e m r, .int .i64 d]) (by simp [results, Tryd.results8, go_sem, r0', r1', r2', r3']) rfl ⟨s, e, m, r, d, rfl, hs, he, hm, hr', hd, ?_⟩
  repeat (refine Below.setCell ?_ (by simp) _)
  exact HB2.out
set_option maxRecDepth 8000 in
set_option maxHeartbeats 2000000 in
theorem drawNext_any (w : World) (a : Option Addr) (len cap : Nat) (zs : List Int) (h : IsRow .u8 w a len cap zs) :
    Calls Tryd.prog 18 #[.slice a len cap] w (DDay w) := by
  have H := Lib.hid h; clear h
  have HB0 := Lib.hid ((Below.refl w.heap.size w).alloc (Nat.le_refl _) (.cells #[.int .i64 0, .int .i64 0, .int .i64 0, .int .i64 0] 24))
  have KR0 := Lib.hid (Blk.new w #[.int .i64 0, .int .i64 0, .int .i64 0, .int .i64 0] 24)
  have H1 := Lib.hid (isRow_below' H.out HB0.out)
  go_enter Tryd.func18, Tryd.ntmps18
  go_wp2_with fail
  refine (newReader_any _ _ _ _ _ H1.out).mono ?_
  rintro x w1 ⟨g, rfl, hg, hr, hb⟩
  have KR1 := Lib.hid (KR0.out.below hb KR0.out.lt)
  have HB1 := Lib.hid (HB0.out.trans (hb.mono HB0.out.size))
  have hg0 : w.heap.size < g := Nat.lt_of_lt_of_le KR0.out.lt hg
  clear hb
  go_wp2_with fail
  refine (bondDay_any _ _ _ hr (by omega)).mono ?_
  rintro x w2 ⟨s, e, m, r, d, rfl, hs, he, hm, hr', hd, hrd, hg2⟩
  have KR2 := Lib.hid (KR1.out.grown hg2 (by omega))
  have HB2 := Lib.hid (HB1.out.grown hg2 HB1.out.size (fun j hj => by injection hj with hj; omega))
  obtain ⟨x0, x1, x2, x3⟩ := KR2.out.four
  obtain ⟨z0, z1, z2, z3⟩ := fourFz KR2.out
  clear hg2
  go_wp2_with fail
  have k2 := put4_blk KR2.out s e m r
  obtain ⟨r0', r1', r2', r3'⟩ := k2.four
  unfold put4 at r0' r1' r2' r3'
  refine bodyPost_ret (v := .tuple #[boV s e m r, .int .i64 d]) (by simp [results, Tryd.results18, go_sem, r0', r1', r2', r3']) rfl ⟨s, e, m, r, d, rfl, hs, he, hm, hr', hd, ?_⟩
  repeat (refine Below.setCell ?_ (by simp) _)
  exact HB2.out
end Go.Proofs.YtojhiclkaedplaaDoor
