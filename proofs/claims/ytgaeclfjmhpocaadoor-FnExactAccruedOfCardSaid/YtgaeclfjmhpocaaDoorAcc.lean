/- The period that runs, by search. -/
import Derived.Test.YtgaeclfjmhpocaaDoorBnd
import Derived.Test.YtgaeclfjmhpocaaDoorSchD
import Derived.OwnWalk
import Derived.Outline
namespace Go.Proofs.YtgaeclfjmhpocaaDoor
open Go.RowKit
set_option maxHeartbeats 400000 in
theorem clo2_any (w : World) (i n cap b BD BL : Nat) (d t : Int) (hi : i < n) (hD : w.cell? ⟨BD, 0, none⟩ = some (.int .i64 d)) (hL : w.cell? ⟨BL, 0, none⟩ = some (.slice (some ⟨b, 0, none⟩) n cap))
    (ht : w.cell? ⟨b, i * 3 + 1, none⟩ = some (.int .i64 t)) :
    Calls Tryd.prog 78 #[.int .i64 i, .pointer (some ⟨BD, 0, none⟩), .pointer (some ⟨BL, 0, none⟩)] w fun x w' => x = .returned (.bool (decide (d < t))) ∧ ∃ q, w' = w.drewN q := by
  have hin : (i : Int) < n := by omega
  go_enter Tryd.func78, Tryd.ntmps78
  go_wp2_with fail
  go_quiet (fail)
  go_wp2_with fail
  go_ret
  exact ⟨rfl, _, rfl⟩
/-- The search for the first period that ends behind a day. -/
def IsK (ps : List Per) (d : Int) (k : Nat) : Prop := k ≤ ps.length ∧ ∀ h, h < ps.length → (d < (ps.getD h p0).2.1 ↔ k ≤ h)
set_option maxRecDepth 8000 in
set_option maxHeartbeats 1000000 in
theorem search_any (w : World) (b cap BD BL k : Nat) (d : Int) (ps : List Per) (hm : ps.length ≤ 40) (hk : IsK ps d k) (hD : w.cell? ⟨BD, 0, none⟩ = some (.int .i64 d)) (hL : w.cell? ⟨BL, 0, none⟩ = some (.slice (some ⟨b, 0, none⟩) ps.length cap))
    (hc : ∀ i, i < ps.length → w.cell? ⟨b, i * 3 + 1, none⟩ = some (.int .i64 (ps.getD i p0).2.1)) :
    Calls Tryd.prog 77 #[.int .i64 ps.length, .func (.func 78) #[] #[.pointer (some ⟨BD, 0, none⟩), .pointer (some ⟨BL, 0, none⟩)]] w fun x w' => x = .returned (.int .i64 k) ∧ ∃ q, w' = w.drewN q := by
  obtain ⟨n, hn⟩ : ∃ n, n = ps.length := ⟨_, rfl⟩
  have hkk := hk
  obtain ⟨k1, k2⟩ := hk
  rw [← hn] at hm hL hc k1 k2 ⊢
  have HK := Lib.hid k2
  have HC := Lib.hid hc
  have HD := Lib.hid hD
  have HL := Lib.hid hL
  clear hc k2 hkk hn hD hL
  go_enter Tryd.func77, Tryd.ntmps77
  go_wp2_with fail
  go_loopw [5, 6] (fun x y wr => ∃ i j : Nat, i ≤ k ∧ k ≤ j ∧ j ≤ n ∧ x = .int .i64 i ∧ y = .int .i64 j ∧ ∃ q, wr = w.drewN q) (fun x y _ => (intOf y - intOf x).toNat)
  case atStart => exact ⟨0, n, by omega, k1, Nat.le_refl _, rfl, rfl, 0, rfl⟩
  case round =>
    obtain ⟨i, j, hi, hj, hjn, rfl, rfl, q, rfl⟩ := hrel
    by_cases hlt : i < j
    · obtain ⟨h, eh, h1, h2⟩ : ∃ h : Nat, ((i : Int) + (j : Int)) / 2 = (h : Int) ∧ i ≤ h ∧ h < j := ⟨(i + j) / 2, by omega, by omega, by omega⟩
      have hq := HK.out h (by omega)
      have hto := HC.out h (by omega)
      have CL := Lib.hid (clo2_any (w.drewN q) h n cap b BD BL d (ps.getD h p0).2.1 (by omega) (by exact HD.out) (by exact HL.out) (by exact hto))
      clear hto
      generalize (ps.getD h p0).2.1 = t at CL hq
      by_cases c : d < t
      · have hkh := hq.1 c
        have CL2 := CL.out
        rw [decide_eq_true c] at CL2
        have CL3 := Lib.hid CL2
        clear CL2 CL c hq
        go_wp2_with fail
        refine CL3.out.mono ?_
        rintro x w1 ⟨rfl, q2, rfl⟩
        go_wp2_with fail
        go_roundw
        case rel => exact ⟨i, h, hi, hkh, by omega, rfl, rfl, ⟨_, rfl⟩⟩
        case measure => simp [intOf]; omega
      · have hkh : h < k := by
          rcases Nat.lt_or_ge h k with z | z
          · exact z
          · exact absurd (hq.2 z) c
        have CL2 := CL.out
        rw [decide_eq_false c] at CL2
        have CL3 := Lib.hid CL2
        clear CL2 CL c hq
        go_wp2_with fail
        refine CL3.out.mono ?_
        rintro x w1 ⟨rfl, q2, rfl⟩
        go_wp2_with fail
        go_roundw
        case rel => exact ⟨h + 1, j, by omega, hj, hjn, by simp, rfl, ⟨_, rfl⟩⟩
        case measure => simp [intOf]; omega
    · have hd : decide ((i : Int) < (j : Int)) = false := decide_eq_false (by omega)
      obtain rfl : i = k := by omega
      go_wp2_with fail
      go_ret
      exact ⟨rfl, q, rfl⟩
/-- The period of a bond that runs at a day. -/
noncomputable def runB (s e m r d : Int) : Bool := decide (0 < (perL s e m r).length ∧ s ≤ d ∧ d < e)
theorem runB_iff {s e m r d : Int} : runB s e m r d = true ↔ 0 < (perL s e m r).length ∧ s ≤ d ∧ d < e := by unfold runB; simp
/-- What is known of the period that runs. -/
theorem run_facts {s e m r d : Int} (h : runB s e m r d = true) : ∃ k : Nat, k < (perL s e m r).length ∧ IsK (perL s e m r) d k ∧ ((perL s e m r).getD k p0).1 ≤ d ∧ d < ((perL s e m r).getD k p0).2.1 ∧
    (∀ j, j < k → ¬ (((perL s e m r).getD j p0).1 ≤ d ∧ d < ((perL s e m r).getD j p0).2.1)) := by
  obtain ⟨h0, h1, h2⟩ := runB_iff.1 h
  have hne : perL s e m r ≠ [] := fun k => by rw [k] at h0; simp at h0
  have hp : perL s e m r = Sc.sch s e m := by
    unfold perL at hne ⊢
    split
    · rfl
    · rename_i c; rw [if_neg c] at hne; exact absurd rfl hne
  rw [hp] at hne h0 ⊢
  obtain ⟨ok, hN, hall⟩ := Sc.sch_pos hne
  have hlen : (Sc.sch s e m).length = Sc.N s e m := by rw [hall, Sc.all_len]
  rw [hlen] at h0 ⊢
  have hf : ∀ i, i < Sc.N s e m → ∃ f t : Int, ∃ b : Bool, (Sc.sch s e m).getD i p0 = (f, t, b) ∧ f < t ∧ (i = 0 → f = s) ∧ (i + 1 = Sc.N s e m → t = e) ∧ (0 < i → f = ((Sc.sch s e m).getD (i - 1) p0).2.1) := fun i hi => by
    obtain ⟨f, t, b, hg, hlt, -, -, -, q0, q1, q2⟩ := Sc.all_facts ok hN hi
    rw [hall]
    exact ⟨f, t, b, hg, hlt, q0, q1, fun q => (q2 q).2⟩
  have he : d < ((Sc.sch s e m).getD (Sc.N s e m - 1) p0).2.1 := by
    obtain ⟨f, t, b, hg, -, -, q, -⟩ := hf (Sc.N s e m - 1) (by omega)
    rw [hg]
    have := q (by omega)
    dsimp only
    omega
  unfold IsK
  rw [hlen]
  generalize Sc.N s e m = n at *
  generalize Sc.sch s e m = ps at *
  have lt : ∀ i, i < n → (ps.getD i p0).1 < (ps.getD i p0).2.1 := fun i hi => by
    obtain ⟨f, t, b, hg, q, -⟩ := hf i hi
    rw [hg]; exact q
  have co : ∀ i, i + 1 < n → (ps.getD (i + 1) p0).1 = (ps.getD i p0).2.1 := fun i hi => by
    obtain ⟨f, t, b, hg, -, -, -, q⟩ := hf (i + 1) hi
    have := q (by omega)
    rw [hg]; exact this
  have k0 : (ps.getD 0 p0).1 = s := by
    obtain ⟨f, t, b, hg, -, q, -⟩ := hf 0 h0
    rw [hg]; exact q rfl
  have up : ∀ j i, i ≤ j → j < n → (ps.getD i p0).2.1 ≤ (ps.getD j p0).2.1 := by
    intro j
    induction j with
    | zero => intro i a b; obtain rfl : i = 0 := by omega
              omega
    | succ j ih =>
      intro i a b
      rcases Nat.lt_or_ge i (j + 1) with c | c
      · have := ih i (by omega) (by omega)
        have := co j b
        have := lt (j + 1) b
        omega
      · obtain rfl : i = j + 1 := by omega
        omega
  have ex : ∀ j, j < n → d < (ps.getD j p0).2.1 → ∃ k, k ≤ j ∧ d < (ps.getD k p0).2.1 ∧ ∀ i, i < k → ¬ d < (ps.getD i p0).2.1 := by
    intro j
    induction j with
    | zero => intro _ c; exact ⟨0, Nat.le_refl _, c, fun i hi => by omega⟩
    | succ j ih =>
      intro hj c
      by_cases z : d < (ps.getD j p0).2.1
      · obtain ⟨k, a, b, c'⟩ := ih (by omega) z
        exact ⟨k, by omega, b, c'⟩
      · refine ⟨j + 1, Nat.le_refl _, c, fun i hi hz => z ?_⟩
        have := up j i (by omega) (by omega)
        omega
  obtain ⟨k, hk, hd, hb⟩ := ex (n - 1) (by omega) he
  refine ⟨k, by omega, ⟨by omega, fun h hh => ⟨fun c => ?_, fun c => ?_⟩⟩, ?_, hd, fun j hj c => hb j hj c.2⟩
  · rcases Nat.lt_or_ge h k with z | z
    · exact absurd c (hb h z)
    · exact z
  · have := up h k c hh
    omega
  · rcases Nat.eq_zero_or_pos k with z | z
    · rw [z, k0]; exact h1
    · have a := co (k - 1) (by omega)
      rw [show k - 1 + 1 = k by omega] at a
      have b := hb (k - 1) (by omega)
      omega
/-- Its index. -/
noncomputable def runK (s e m r d : Int) : Nat := if h : runB s e m r d = true then Classical.choose (run_facts h) else 0
theorem runK_facts {s e m r d : Int} (h : runB s e m r d = true) : runK s e m r d < (perL s e m r).length ∧ IsK (perL s e m r) d (runK s e m r d) ∧ ((perL s e m r).getD (runK s e m r d) p0).1 ≤ d ∧ d < ((perL s e m r).getD (runK s e m r d) p0).2.1 ∧
    (∀ j, j < runK s e m r d → ¬ (((perL s e m r).getD j p0).1 ≤ d ∧ d < ((perL s e m r).getD j p0).2.1)) := by
  unfold runK
  rw [dif_pos h]
  exact Classical.choose_spec (run_facts h)
end Go.Proofs.YtgaeclfjmhpocaaDoor
