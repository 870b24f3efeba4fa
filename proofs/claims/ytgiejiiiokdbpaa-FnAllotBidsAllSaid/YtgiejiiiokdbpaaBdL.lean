/- The laws of bids and of the yields at which auctions stop. -/
import Derived.Test.YtgiejiiiokdbpaaBdD
import Derived.Test.YtgiejiiiokdbpaaSrB5
namespace Go.Proofs.Ytgiejiiiokdbpaa
open Go.RowKit
theorem bneq_selfD (x : Bool) : (x != x) = false := by simp
theorem beq_selfD (x : Bool) : (x == x) = true := by simp
theorem R2o.cut {w : World} {a : Option Addr} {c n k : Nat} {ps : List Pr} (h : R2o w (.slice a n c) ps) (hn : n = ps.length) (hk : k ≤ n) : R2o w (.slice a k c) (ps.take k) := by
  have hl : (ps.take k).length = k := by rw [List.length_take]; omega
  refine ⟨⟨a, c, by rw [hl]⟩, fun h0 => ?_⟩
  obtain ⟨b, off, c', e, hb, hc⟩ := h.2 (by omega)
  simp only [Value.slice.injEq] at e
  obtain ⟨rfl, -, rfl⟩ := e
  refine ⟨b, off, c, by rw [hl], hb, fun i hi => ?_⟩
  have := hc i (by omega)
  rw [show (ps.take k).getD i (0, 0) = ps.getD i (0, 0) by rw [List.getD_eq_getElem?_getD, List.getElem?_take, if_pos (by omega), List.getD_eq_getElem?_getD]]
  exact this
theorem Bd.ok_take {ps : List Pr} (h : Bd.ok ps = true) (k : Nat) : Bd.ok (ps.take k) = true := by
  obtain ⟨hl, ha⟩ := Bd.parts h
  unfold Bd.ok
  rw [Bool.and_eq_true, btw_iff, List.length_take]
  exact ⟨by omega, List.all_eq_true.2 fun p hp => List.all_eq_true.1 ha p (List.mem_of_mem_take hp)⟩
theorem Bd.below_pred {ps : List Pr} {z : Int} : ∀ qs : List Pr, (∀ p ∈ qs, p.1 ≠ z) → Bd.below qs z = Bd.below qs (z - 1)
  | [], _ => rfl
  | q :: qs, h => by
    have ih := Bd.below_pred (ps := ps) qs (fun p hp => h p (List.mem_cons_of_mem _ hp))
    have h1 := h q (List.mem_cons_self ..)
    unfold Bd.below at *
    simp only [List.map_cons, List.sum_cons, ih]
    unfold Bd.add
    split <;> split <;> omega
/-- Whatever is bid up to a yield is bid up to the yield of one of the bids. -/
theorem Bd.below_some {ps : List Pr} (h0 : ∀ p ∈ ps, 0 ≤ p.1) : ∀ k : Nat, 1 ≤ Bd.below ps k → ∃ p ∈ ps, p.1 ≤ k ∧ Bd.below ps p.1 = Bd.below ps k
  | 0, h => by
    by_cases c : ∃ p ∈ ps, p.1 = ((0 : Nat) : Int)
    · obtain ⟨p, hp, e⟩ := c
      exact ⟨p, hp, by omega, by rw [e]⟩
    · have e := Bd.below_none (y := ((0 : Nat) : Int)) ps (fun p hp => by
        have := h0 p hp
        rcases Int.lt_or_le ((0 : Nat) : Int) p.1 with d | d
        · exact d
        · exact absurd ⟨p, hp, by omega⟩ c)
      omega
  | k + 1, h => by
    by_cases c : ∃ p ∈ ps, p.1 = ((k + 1 : Nat) : Int)
    · obtain ⟨p, hp, e⟩ := c
      exact ⟨p, hp, by omega, by rw [e]⟩
    · have e := Bd.below_pred (ps := ps) (z := ((k + 1 : Nat) : Int)) ps (fun p hp q => c ⟨p, hp, q⟩)
      rw [show ((k + 1 : Nat) : Int) - 1 = (k : Int) by omega] at e
      obtain ⟨p, hp, h1, h2⟩ := Bd.below_some h0 k (by omega)
      exact ⟨p, hp, by omega, by rw [h2, e]⟩
/-- Below the yield at which an auction stops there is not enough. -/
theorem Bd.stop_less {ps : List Pr} (h0 : ∀ p ∈ ps, 0 ≤ p.1) {n : Int} (hn : 1 ≤ n) (hs : 0 ≤ Bd.stop ps n) : n ≤ Bd.below ps (Bd.stop ps n) ∧ Bd.below ps (Bd.stop ps n - 1) < n := by
  rcases Bd.stop_is h0 n with ⟨e, _⟩ | ⟨_, _, a2, a3⟩
  · omega
  · refine ⟨a2, ?_⟩
    rcases Int.lt_or_le (Bd.below ps (Bd.stop ps n - 1)) n with c | c
    · exact c
    · exfalso
      rcases Int.lt_or_le (Bd.stop ps n - 1) 0 with d | d
      · rw [Bd.below_none ps (fun p hp => by have := h0 p hp; omega)] at c; omega
      · obtain ⟨k, hk⟩ : ∃ k : Nat, Bd.stop ps n - 1 = (k : Int) := ⟨(Bd.stop ps n - 1).toNat, by omega⟩
        rw [hk] at c
        obtain ⟨p, hp, h1, h2⟩ := Bd.below_some h0 k (by omega)
        have := a3 p hp (by omega)
        omega
theorem Bd.stop_more {ps : List Pr} (h0 : ∀ p ∈ ps, 0 ≤ p.1) (n : Int) : Bd.stop ps (n + 1) < 0 ∨ Bd.stop ps n ≤ Bd.stop ps (n + 1) := by
  rcases Bd.stop_is h0 (n + 1) with ⟨e, _⟩ | ⟨b0, ⟨p, hp, hpe⟩, b2, b3⟩
  · omega
  · rcases Bd.stop_is h0 n with ⟨e, _⟩ | ⟨a0, _, a2, a3⟩
    · omega
    · have := a3 p hp (by rw [hpe]; omega)
      omega
end Go.Proofs.Ytgiejiiiokdbpaa
