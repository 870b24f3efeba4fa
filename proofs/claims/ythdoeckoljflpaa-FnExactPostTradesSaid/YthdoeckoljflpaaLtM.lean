/- Lots: mathematics. -/
import Derived.Test.YthdoeckoljflpaaPos
import Derived.Test.YthdoeckoljflpaaTq
namespace Go.Proofs.Ythdoeckoljflpaa
open Go.RowKit
theorem Lt.opp_iff {r m : Int} : r * m < 0 ↔ (r < 0 ∧ 0 < m) ∨ (0 < r ∧ m < 0) := by
  constructor
  · intro h
    rcases Int.lt_trichotomy r 0 with a | a | a
    · rcases Int.lt_trichotomy m 0 with b | b | b
      · have := Int.mul_pos_of_neg_of_neg a b; omega
      · subst b; rw [Int.mul_zero] at h; omega
      · exact .inl ⟨a, b⟩
    · subst a; rw [Int.zero_mul] at h; omega
    · rcases Int.lt_trichotomy m 0 with b | b | b
      · exact .inr ⟨a, b⟩
      · subst b; rw [Int.mul_zero] at h; omega
      · have := Int.mul_pos a b; omega
  · rintro (⟨a, b⟩ | ⟨a, b⟩)
    · exact Int.mul_neg_of_neg_of_pos a b
    · exact Int.mul_neg_of_pos_of_neg a b
/-- How much of a lot of m a trade of r closes. -/
def Lt.near (m r : Int) : Int := if m < 0 then max m (-r) else min m (-r)
theorem Lt.near_bd {r m : Int} (h : r * m < 0) : (r < 0 ∧ 0 < m ∧ 1 ≤ Lt.near m r ∧ Lt.near m r ≤ m ∧ Lt.near m r ≤ -r ∧ (Lt.near m r = m ∨ Lt.near m r = -r)) ∨ (0 < r ∧ m < 0 ∧ Lt.near m r ≤ -1 ∧ m ≤ Lt.near m r ∧ -r ≤ Lt.near m r ∧ (Lt.near m r = m ∨ Lt.near m r = -r)) := by
  unfold Lt.near
  rcases Lt.opp_iff.1 h with ⟨a, b⟩ | ⟨a, b⟩
  · left; rw [if_neg (by omega)]; omega
  · right; rw [if_pos b]; omega
def Lt.close (p : Int) : List Pr → Int → Int → List Pr × Int × Int
  | [], r, g => ([], r, g)
  | x :: q, r, g => if r * x.1 < 0 then (if x.1 - Lt.near x.1 r = 0 then Lt.close p q (r + Lt.near x.1 r) (g + Lt.near x.1 r * (p - x.2)) else ((x.1 - Lt.near x.1 r, x.2) :: q, r + Lt.near x.1 r, g + Lt.near x.1 r * (p - x.2))) else (x :: q, r, g)
theorem Lt.close_nil (p r g : Int) : Lt.close p [] r g = ([], r, g) := rfl
theorem Lt.close_stop {p r g : Int} {x : Pr} {q : List Pr} (h : ¬ r * x.1 < 0) : Lt.close p (x :: q) r g = (x :: q, r, g) := by rw [Lt.close, if_neg h]
theorem Lt.close_full {p r g : Int} {x : Pr} {q : List Pr} (h : r * x.1 < 0) (hk : x.1 - Lt.near x.1 r = 0) : Lt.close p (x :: q) r g = Lt.close p q (r + Lt.near x.1 r) (g + Lt.near x.1 r * (p - x.2)) := by rw [Lt.close, if_pos h, if_pos hk]
theorem Lt.close_part {p r g : Int} {x : Pr} {q : List Pr} (h : r * x.1 < 0) (hk : ¬ x.1 - Lt.near x.1 r = 0) : Lt.close p (x :: q) r g = ((x.1 - Lt.near x.1 r, x.2) :: q, r + Lt.near x.1 r, g + Lt.near x.1 r * (p - x.2)) := by rw [Lt.close, if_pos h, if_neg hk]
theorem Lt.close_zero {p g : Int} (q : List Pr) : Lt.close p q 0 g = (q, 0, g) := by
  cases q with
  | nil => rfl
  | cons x q => exact Lt.close_stop (by rw [Int.zero_mul]; omega)
/-- In the partial case nothing is left to be closed with. -/
theorem Lt.part_rest {r : Int} {x : Pr} (h : r * x.1 < 0) (hk : ¬ x.1 - Lt.near x.1 r = 0) : r + Lt.near x.1 r = 0 := by
  have := Lt.near_bd h; omega
def Lt.many (q : List Pr) : Int := (q.map (·.1)).sum
def Lt.worth (q : List Pr) : Int := (q.map fun x => x.1 * x.2).sum
def Lt.one (x : Pr) : Prop := (-9999 ≤ x.1 ∧ x.1 ≤ 9999 ∧ x.1 ≠ 0) ∧ 1 ≤ x.2 ∧ x.2 ≤ 50000
/-- Lots of one sign. -/
def Lt.sign (q : List Pr) : Prop := (∀ x ∈ q, 0 < x.1) ∨ (∀ x ∈ q, x.1 < 0)
theorem Lt.sign_cons {x : Pr} {q : List Pr} (h : Lt.sign (x :: q)) : Lt.sign q := by
  rcases h with h | h
  · exact .inl fun y hy => h y (List.mem_cons_of_mem _ hy)
  · exact .inr fun y hy => h y (List.mem_cons_of_mem _ hy)
theorem Lt.prod_bd {k d : Int} (hd : -50000 ≤ d) (hd2 : d ≤ 50000) : (k * d).natAbs ≤ 50000 * k.natAbs := by
  rw [Int.natAbs_mul, Nat.mul_comm]
  exact Nat.mul_le_mul_right _ (by omega)
/-- What closing keeps. -/
structure Lt.Shut (p : Int) (q : List Pr) (r g : Int) (s : List Pr × Int × Int) : Prop where
  len : s.1.length ≤ q.length
  one : ∀ x ∈ s.1, Lt.one x
  sign : Lt.sign s.1
  rest : s.2.1.natAbs ≤ r.natAbs ∧ (0 < s.2.1 → 0 < r) ∧ (s.2.1 < 0 → r < 0)
  fit : s.2.1 ≠ 0 → (s.2.1 < 0 → ∀ x ∈ s.1, x.1 < 0) ∧ (0 < s.2.1 → ∀ x ∈ s.1, 0 < x.1)
  many : Lt.many s.1 + s.2.1 = Lt.many q + r
  worth : s.2.2 - Lt.worth s.1 - p * s.2.1 = g - Lt.worth q - p * r
  gain : s.2.2.natAbs + 50000 * s.2.1.natAbs ≤ g.natAbs + 50000 * r.natAbs
  price : ∀ c, (∀ x ∈ q, x.2 = c) → ∀ x ∈ s.1, x.2 = c
theorem Lt.shut (p : Int) (p0 : 1 ≤ p) (p1 : p ≤ 50000) : ∀ (q : List Pr) (r g : Int), (∀ x ∈ q, Lt.one x) → Lt.sign q → Lt.Shut p q r g (Lt.close p q r g)
  | [], r, g, _, hs => by
    rw [Lt.close_nil]
    exact ⟨Nat.le_refl _, fun x hx => by simp at hx, hs, ⟨Nat.le_refl _, id, id⟩, fun _ => ⟨fun _ x hx => by simp at hx, fun _ x hx => by simp at hx⟩, rfl, rfl, Nat.le_refl _, fun c _ x hx => by simp at hx⟩
  | x :: q, r, g, h1, hs => by
    have hx := h1 x List.mem_cons_self
    have hd := Lt.prod_bd (k := Lt.near x.1 r) (d := p - x.2) (by have := hx.2; omega) (by have := hx.2; omega)
    by_cases ho : r * x.1 < 0
    · have hn := Lt.near_bd ho
      by_cases hk : x.1 - Lt.near x.1 r = 0
      · rw [Lt.close_full ho hk]
        have ih := Lt.shut p p0 p1 q (r + Lt.near x.1 r) (g + Lt.near x.1 r * (p - x.2)) (fun y hy => h1 y (List.mem_cons_of_mem _ hy)) (Lt.sign_cons hs)
        have hm : Lt.many (x :: q) = x.1 + Lt.many q := by unfold Lt.many; simp
        have hw : Lt.worth (x :: q) = x.1 * x.2 + Lt.worth q := by unfold Lt.worth; simp
        refine ⟨by have := ih.len; simp; omega, ih.one, ih.sign, by have := ih.rest; omega, ih.fit, by rw [ih.many, hm]; omega, ?_, ?_, fun c hc => ih.price c fun y hy => hc y (List.mem_cons_of_mem _ hy)⟩
        · rw [ih.worth, hw]
          have e : Lt.near x.1 r = x.1 := by omega
          rw [e, Int.mul_sub, Int.mul_add, Int.mul_comm p x.1]
          omega
        · have := ih.gain
          omega
      · rw [Lt.close_part ho hk]
        have hr := Lt.part_rest ho hk
        have hm : Lt.many (x :: q) = x.1 + Lt.many q := by unfold Lt.many; simp
        have hw : Lt.worth (x :: q) = x.1 * x.2 + Lt.worth q := by unfold Lt.worth; simp
        refine ⟨Nat.le_refl _, fun y hy => ?_, ?_, by show (r + Lt.near x.1 r).natAbs ≤ r.natAbs ∧ (0 < r + Lt.near x.1 r → 0 < r) ∧ (r + Lt.near x.1 r < 0 → r < 0); omega, fun h => absurd hr h, ?_, ?_, ?_, fun c hc y hy => ?_⟩
        · rcases List.mem_cons.1 hy with rfl | hy
          · unfold Lt.one at hx ⊢
            show (-9999 ≤ x.1 - Lt.near x.1 r ∧ x.1 - Lt.near x.1 r ≤ 9999 ∧ x.1 - Lt.near x.1 r ≠ 0) ∧ 1 ≤ x.2 ∧ x.2 ≤ 50000
            omega
          · exact h1 y (List.mem_cons_of_mem _ hy)
        · rcases hs with hs | hs
          · have := hs x List.mem_cons_self
            refine .inl fun y hy => ?_
            rcases List.mem_cons.1 hy with rfl | hy
            · show 0 < x.1 - Lt.near x.1 r; omega
            · exact hs y (List.mem_cons_of_mem _ hy)
          · have := hs x List.mem_cons_self
            refine .inr fun y hy => ?_
            rcases List.mem_cons.1 hy with rfl | hy
            · show x.1 - Lt.near x.1 r < 0; omega
            · exact hs y (List.mem_cons_of_mem _ hy)
        · have e : Lt.many ((x.1 - Lt.near x.1 r, x.2) :: q) = x.1 - Lt.near x.1 r + Lt.many q := by unfold Lt.many; simp
          show Lt.many ((x.1 - Lt.near x.1 r, x.2) :: q) + (r + Lt.near x.1 r) = _
          rw [e, hm]; omega
        · have e : Lt.worth ((x.1 - Lt.near x.1 r, x.2) :: q) = (x.1 - Lt.near x.1 r) * x.2 + Lt.worth q := by unfold Lt.worth; simp
          show g + Lt.near x.1 r * (p - x.2) - Lt.worth ((x.1 - Lt.near x.1 r, x.2) :: q) - p * (r + Lt.near x.1 r) = _
          rw [e, hw, Int.sub_mul, Int.mul_sub, Int.mul_add, Int.mul_comm p (Lt.near x.1 r)]
          omega
        · show (g + Lt.near x.1 r * (p - x.2)).natAbs + 50000 * (r + Lt.near x.1 r).natAbs ≤ _
          omega
        · rcases List.mem_cons.1 hy with rfl | hy
          · exact hc x List.mem_cons_self
          · exact hc y (List.mem_cons_of_mem _ hy)
    · rw [Lt.close_stop ho]
      have hq : ¬ ((r < 0 ∧ 0 < x.1) ∨ (0 < r ∧ x.1 < 0)) := fun h => ho (Lt.opp_iff.2 h)
      have hx0 : x.1 ≠ 0 := hx.1.2.2
      refine ⟨Nat.le_refl _, h1, hs, ⟨Nat.le_refl _, id, id⟩, fun hr => ⟨fun hr2 y hy => ?_, fun hr2 y hy => ?_⟩, rfl, rfl, Nat.le_refl _, fun c hc => hc⟩
      · have hr3 : r < 0 := hr2
        rcases hs with hs | hs
        · have := hs x List.mem_cons_self; omega
        · exact hs y hy
      · have hr3 : 0 < r := hr2
        rcases hs with hs | hs
        · exact hs y hy
        · have := hs x List.mem_cons_self; omega
end Go.Proofs.Ythdoeckoljflpaa
