/- The exact law of payments. -/
import Derived.Test.YtojhiclkaedplaaDoorFlowS
namespace Go.Proofs.YtojhiclkaedplaaDoor
open Go.RowKit
set_option maxRecDepth 8000 in
set_option maxHeartbeats 400000 in
theorem eqFlow_same (p : Flo) (w : World) :
    Calls Tryd.prog 21 #[.agg #[.int .i64 p.1, .int .i64 p.2], .agg #[.int .i64 p.1, .int .i64 p.2]] w fun e w' => e = .returned (.bool true) ∧ Below w.heap.size w w' := by
  obtain ⟨x, y⟩ := p
  have e1 : (x != x) = false := by simp
  have e2 : (y != y) = false := by simp
  go_enter Tryd.func21, Tryd.ntmps21
  go_wp2_with fail
  go_ret
  exact ⟨rfl, ((Below.refl _ _).alloc (Nat.le_refl _) _).alloc (by simp) _⟩
set_option maxRecDepth 8000 in
set_option maxHeartbeats 1000000 in
theorem eqFS_same (w : World) (v u : Value) (fs : List Flo) (hv : RdF w v fs) (hu : RdF w u fs) (hm : fs.length ≤ 1000) :
    Calls Tryd.prog 15 #[v, u] w fun e w' => e = .returned (.bool true) ∧ Below w.heap.size w w' := by
  obtain ⟨⟨a, c, rfl⟩, h1⟩ := hv
  obtain ⟨⟨a', c', rfl⟩, h2⟩ := hu
  have H1 := Lib.hid h1; clear h1
  have H2 := Lib.hid h2; clear h2
  obtain ⟨n, hn⟩ : ∃ n, n = fs.length := ⟨_, rfl⟩
  rw [← hn] at hm ⊢
  have HN := Lib.hid hn; clear hn
  go_enter Tryd.func15, Tryd.ntmps15
  go_wp2_with fail
  go_loopw [5] (fun x wr => ∃ i : Nat, i ≤ n ∧ x = .int .i64 i ∧ Below w.heap.size w wr) (fun x _ => n - (intOf x).toNat)
  case atStart => exact ⟨0, Nat.zero_le _, rfl, Below.refl _ _⟩
  case round =>
    obtain ⟨i, hi, rfl, hb⟩ := hrel
    by_cases hlt : i < n
    · obtain ⟨b, d, e, hbl, hc⟩ := H1.out (by rw [← HN.out]; omega)
      obtain ⟨b', d', e', hbl', hc'⟩ := H2.out (by rw [← HN.out]; omega)
      rw [← HN.out] at e e'
      simp only [Value.slice.injEq, true_and] at e e'
      obtain ⟨rfl, rfl⟩ := e
      obtain ⟨rfl, rfl⟩ := e'
      obtain ⟨c0, c1⟩ := hc i (by rw [← HN.out]; exact hlt)
      obtain ⟨g0, g1⟩ := hc' i (by rw [← HN.out]; exact hlt)
      replace c0 := (hb.cell (p := ⟨b, i * 2, none⟩) hbl).trans c0
      replace c1 := (hb.cell (p := ⟨b, i * 2 + 1, none⟩) hbl).trans c1
      replace g0 := (hb.cell (p := ⟨b', i * 2, none⟩) hbl').trans g0
      replace g1 := (hb.cell (p := ⟨b', i * 2 + 1, none⟩) hbl').trans g1
      clear hc hc'
      obtain ⟨p, hp⟩ : ∃ p, p = fs.getD i f0 := ⟨_, rfl⟩
      rw [← hp] at c0 c1 g0 g1
      clear hp
      have hE := Lib.hid (eqFlow_same p)
      have hsz := hb.size
      go_wp2_with fail
      refine still_tail 8 (by kernel_rfl) (by kernel_rfl) ?_
      simp only [List.take_succ_cons, List.take_zero, List.drop_succ_cons, List.drop_zero]
      repeat still_step
      refine wpStill_nil ?_
      go_wp2_with fail
      refine (hE.out _).mono ?_
      rintro e w2 ⟨rfl, hb2⟩
      go_wp2_with fail
      go_roundw
      case rel => exact ⟨i + 1, by omega, by go_num, hb.drew.trans (hb2.mono hsz)⟩
      case measure => simp [intOf]; omega
    · obtain rfl : i = n := by omega
      go_wp2_with fail
      go_ret
      exact ⟨rfl, hb⟩
def mkF (i : Nat) : Flo := (1 + 2 * i, 1 + 2 * i + 1)
def MkF (fs qs : List Flo) (i : Nat) : Prop := qs.length = fs.length ∧ ∀ t, t < i → qs.getD t f0 = mkF t
theorem mkF_step {fs qs : List Flo} {i : Nat} (h : MkF fs qs i) (hi : i < fs.length) : MkF fs (qs.set i (mkF i)) (i + 1) := by
  refine ⟨by rw [List.length_set]; exact h.1, fun t ht => ?_⟩
  rw [set_at qs i t _ (by rw [h.1]; exact hi)]
  by_cases c : t = i
  · rw [if_pos c, c]
  · rw [if_neg c]; exact h.2 t (by omega)
def MarkedF (w : World) (B b n cap : Nat) (x : Ending) (w' : World) : Prop := ∃ qs : List Flo, x = .returned (.int .i64 (2 * n + 1)) ∧ qs.length = n ∧ (∀ t, t < n → qs.getD t f0 = mkF t) ∧ FRow w' B (.slice (some ⟨b, 0, none⟩) n cap) qs ∧ w.grownBy w' (some b)
set_option maxRecDepth 8000 in
set_option maxHeartbeats 1000000 in
theorem markF_any (w : World) (B b n cap : Nat) (fs : List Flo) (h : FRow w B (.slice (some ⟨b, 0, none⟩) n cap) fs) (hn : fs.length = n) (hm : n ≤ 1000) :
    Calls Tryd.prog 16 #[.slice (some ⟨b, 0, none⟩) n cap, .int .i64 1] w (MarkedF w B b n cap) := by
  have H := Lib.hid h; clear h
  have HN := Lib.hid hn; clear hn
  go_enter Tryd.func16, Tryd.ntmps16
  go_wp2_with fail
  go_loopw [5, 1] (fun x k wr => ∃ (i : Nat) (qs : List Flo), i ≤ n ∧ x = .int .i64 i ∧ k = .int .i64 (2 * i + 1) ∧ Hid (MkF fs qs i) ∧ Hid (FRow wr B (.slice (some ⟨b, 0, none⟩) n cap) qs) ∧ w.grownBy wr (some b)) (fun x _ _ => n - (intOf x).toNat)
  case atStart => exact ⟨0, fs, by omega, rfl, by simp, Lib.hid ⟨rfl, fun t ht => by omega⟩, Lib.hid H.out, ⟨rfl, rfl, rfl, Nat.le_refl _, fun _ _ _ => rfl⟩⟩
  case round =>
    obtain ⟨i, qs, hi, rfl, rfl, HR, HQ, hg⟩ := hrel
    by_cases hlt : i < n
    · have hql : qs.length = n := HR.out.1.trans HN.out
      obtain ⟨⟨a0, a1⟩, fz0, fz1⟩ := HQ.out.at_ hql hlt
      have hst := FRow.store (show FRow wr B (.slice (some ⟨b, 0, none⟩) qs.length cap) qs by rw [hql]; exact HQ.out) i (by omega) (2 * i + 1) (2 * i + 1 + 1)
      have e5 : ((2 * (i : Int) + 1), (2 * (i : Int) + 1 + 1)) = mkF i := by
        unfold mkF
        exact Prod.ext (by show 2 * (i : Int) + 1 = 1 + 2 * (i : Int); omega) (by show 2 * (i : Int) + 1 + 1 = 1 + 2 * (i : Int) + 1; omega)
      rw [e5] at hst
      have HS := Lib.hid hst
      have HQL := Lib.hid hql
      clear hst e5 hql
      go_wp2_with fail
      go_roundw
      case rel =>
        refine ⟨i + 1, qs.set i (mkF i), by omega, by go_num, by congr 1 <;> omega, Lib.hid (mkF_step HR.out (by rw [HN.out]; exact hlt)), Lib.hid ?_, hg.trans HS.out.2⟩
        have := HS.out.1
        rw [List.length_set, HQL.out] at this
        exact this
      case measure => simp [intOf] <;> omega
    · obtain rfl : i = n := by omega
      go_wp2_with fail
      go_ret
      exact ⟨qs, rfl, HR.out.1.trans HN.out, HR.out.2, HQ.out, hg⟩
set_option maxRecDepth 8000 in
set_option maxHeartbeats 1000000 in
theorem heldF_any (w : World) (B b n cap : Nat) (qs : List Flo) (h : FRow w B (.slice (some ⟨b, 0, none⟩) n cap) qs) (hn : qs.length = n) (hm : n ≤ 1000) (hq : ∀ t, t < n → qs.getD t f0 = mkF t) :
    Calls Tryd.prog 17 #[.slice (some ⟨b, 0, none⟩) n cap, .int .i64 1] w fun x w' => x = .returned (.int .i64 (2 * n + 1)) ∧ w = w' := by
  have H := Lib.hid h; clear h
  have HN := Lib.hid hn; clear hn
  have HQ := Lib.hid hq; clear hq
  go_enter Tryd.func17, Tryd.ntmps17
  go_wp2_with fail
  go_loop [5, 1] (fun x k => ∃ i : Nat, i ≤ n ∧ x = .int .i64 i ∧ k = .int .i64 (2 * i + 1)) (fun x _ => n - (intOf x).toNat)
  case atStart => exact ⟨0, by omega, rfl, by simp⟩
  case round =>
    obtain ⟨i, hi, rfl, rfl⟩ := hrel
    by_cases hlt : i < n
    · obtain ⟨⟨a0, a1⟩, -, -⟩ := H.out.at_ HN.out hlt
      rw [HQ.out i hlt] at a0 a1
      have e0 : (mkF i).1 = 2 * i + 1 := by show 1 + 2 * (i : Int) = _; omega
      have e1 : (mkF i).2 = 2 * i + 1 + 1 := by show 1 + 2 * (i : Int) + 1 = _; omega
      rw [e0] at a0
      rw [e1] at a1
      clear e0 e1
      go_wp2_with fail
      go_round
      case rel => exact ⟨i + 1, by omega, by go_num, by congr 1 <;> omega⟩
      case measure => simp [intOf] <;> omega
    · obtain rfl : i = n := by omega
      go_wp2_with fail
      go_ret
      exact ⟨rfl, rfl⟩
set_option maxRecDepth 8000 in
set_option maxHeartbeats 400000 in
theorem markF_nil (w : World) : Calls Tryd.prog 16 #[.slice none 0 0, .int .i64 1] w fun x w' => x = .returned (.int .i64 1) ∧ w = w' := by
  go_enter Tryd.func16, Tryd.ntmps16
  go_wp2_with fail
  go_loop [5, 1] (fun x k => x = .int .i64 0 ∧ k = .int .i64 1) (fun _ _ => 0)
  case atStart => exact ⟨rfl, rfl⟩
  case round =>
    obtain ⟨rfl, rfl⟩ := hrel
    go_wp2_with fail
    go_ret
    exact ⟨rfl, rfl⟩
set_option maxRecDepth 8000 in
set_option maxHeartbeats 400000 in
theorem heldF_nil (w : World) : Calls Tryd.prog 17 #[.slice none 0 0, .int .i64 1] w fun x w' => x = .returned (.int .i64 1) ∧ w = w' := by
  go_enter Tryd.func17, Tryd.ntmps17
  go_wp2_with fail
  go_loop [5, 1] (fun x k => x = .int .i64 0 ∧ k = .int .i64 1) (fun _ _ => 0)
  case atStart => exact ⟨rfl, rfl⟩
  case round =>
    obtain ⟨rfl, rfl⟩ := hrel
    go_wp2_with fail
    go_ret
    exact ⟨rfl, rfl⟩
theorem below_of_grownF {w w' : World} {b B : Nat} (hg : w.grownBy w' (some b)) (hB : B ≤ b) (hs : B ≤ w.heap.size) : Below B w w' :=
  ⟨hg.os, hg.tape, hg.output, hg.size, fun k hk => hg.block k (by omega) (fun e => by injection e; omega)⟩
end Go.Proofs.YtojhiclkaedplaaDoor
