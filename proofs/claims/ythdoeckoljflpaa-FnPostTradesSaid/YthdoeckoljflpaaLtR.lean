/- Lots: all trades, the program. -/
import Derived.Test.YthdoeckoljflpaaLtQ
namespace Go.Proofs.Ythdoeckoljflpaa
open Go.RowKit
/-- The lots and the gain behind trades. -/
def Lt.st (ps : List Tri) : List Pr × Int := ps.foldl (fun s t => Lt.add s.1 t.2.2 t.2.1 s.2) ([], 0)
theorem Lt.st_snoc (ps : List Tri) (t : Tri) : Lt.st (ps ++ [t]) = Lt.add (Lt.st ps).1 t.2.2 t.2.1 (Lt.st ps).2 := by unfold Lt.st; rw [List.foldl_append]; rfl
theorem take_snocT {ps : List Tri} {i : Nat} (hi : i < ps.length) : ps.take (i + 1) = ps.take i ++ [ps.getD i t0] := by
  rw [List.take_succ_eq_append_getElem hi, List.getD_eq_getElem?_getD, List.getElem?_eq_getElem hi]; rfl
/-- What adding keeps. -/
structure Lt.Good (ps : List Tri) : Prop where
  one : ∀ x ∈ (Lt.st ps).1, Lt.one x
  sign : Lt.sign (Lt.st ps).1
  len : (Lt.st ps).1.length ≤ ps.length
  gain : (Lt.st ps).2.natAbs ≤ 500000000 * ps.length
  many : Lt.many (Lt.st ps).1 = (ps.map (·.2.1)).sum
  worth : (Lt.st ps).2 - Lt.worth (Lt.st ps).1 = - (ps.map fun t => t.2.1 * t.2.2).sum
def Lt.tone (t : Tri) : Prop := (-9999 ≤ t.2.1 ∧ t.2.1 ≤ 9999 ∧ t.2.1 ≠ 0) ∧ 1 ≤ t.2.2 ∧ t.2.2 ≤ 50000
theorem Lt.good_nil : Lt.Good [] := ⟨fun x hx => by simp [Lt.st] at hx, .inl fun x hx => by simp [Lt.st] at hx, by simp [Lt.st], by simp [Lt.st], rfl, rfl⟩
theorem Lt.add_step {q : List Pr} {g : Int} {t : Tri} (h1 : ∀ x ∈ q, Lt.one x) (hs : Lt.sign q) (ht : Lt.tone t) :
    (∀ x ∈ (Lt.add q t.2.2 t.2.1 g).1, Lt.one x) ∧ Lt.sign (Lt.add q t.2.2 t.2.1 g).1 ∧ (Lt.add q t.2.2 t.2.1 g).1.length ≤ q.length + 1 ∧ (Lt.add q t.2.2 t.2.1 g).2.natAbs ≤ g.natAbs + 500000000 ∧
      Lt.many (Lt.add q t.2.2 t.2.1 g).1 = Lt.many q + t.2.1 ∧ (Lt.add q t.2.2 t.2.1 g).2 - Lt.worth (Lt.add q t.2.2 t.2.1 g).1 = g - Lt.worth q - t.2.1 * t.2.2 ∧
      ∀ c, (∀ x ∈ q, x.2 = c) → t.2.2 = c → ∀ x ∈ (Lt.add q t.2.2 t.2.1 g).1, x.2 = c := by
  obtain ⟨⟨m0, m1, m2⟩, p0, p1⟩ := ht
  have S := Lt.shut t.2.2 p0 p1 q t.2.1 g h1 hs
  unfold Lt.add
  generalize Lt.close t.2.2 q t.2.1 g = s at S
  obtain ⟨sq, sr, sg⟩ := s
  obtain ⟨len, one, sign, ⟨r1, r2, r3⟩, fit, many, worth, gain, price⟩ := S
  simp only at len one sign r1 r2 r3 fit many worth gain price ⊢
  by_cases hr : sr = 0
  · rw [if_pos hr]
    subst hr
    rw [Int.mul_zero] at worth
    refine ⟨one, sign, by omega, by omega, by omega, by rw [Int.mul_comm t.2.1]; omega, fun c hc _ => price c hc⟩
  · rw [if_neg hr]
    refine ⟨fun x hx => ?_, ?_, by rw [List.length_append]; simp; omega, by omega, ?_, ?_, fun c hc htc x hx => ?_⟩
    · rcases List.mem_append.1 hx with hx | hx
      · exact one x hx
      · simp only [List.mem_cons, List.not_mem_nil, or_false] at hx
        subst hx
        exact ⟨⟨by omega, by omega, hr⟩, p0, p1⟩
    · have hf := fit hr
      rcases Int.lt_or_gt_of_ne hr with h | h
      · refine .inr fun x hx => ?_
        rcases List.mem_append.1 hx with hx | hx
        · exact hf.1 h x hx
        · simp only [List.mem_cons, List.not_mem_nil, or_false] at hx
          subst hx; exact h
      · refine .inl fun x hx => ?_
        rcases List.mem_append.1 hx with hx | hx
        · exact hf.2 h x hx
        · simp only [List.mem_cons, List.not_mem_nil, or_false] at hx
          subst hx; exact h
    · have e : Lt.many (sq ++ [(sr, t.2.2)]) = Lt.many sq + sr := by unfold Lt.many; simp
      rw [e]; exact many
    · have e : Lt.worth (sq ++ [(sr, t.2.2)]) = Lt.worth sq + sr * t.2.2 := by unfold Lt.worth; simp
      rw [e, Int.mul_comm sr, Int.mul_comm t.2.1]; omega
    · rcases List.mem_append.1 hx with hx | hx
      · exact price c hc x hx
      · simp only [List.mem_cons, List.not_mem_nil, or_false] at hx
        subst hx; exact htc
theorem Lt.good {ps : List Tri} (h : ∀ i, i < ps.length → Lt.tone (ps.getD i t0)) : ∀ i : Nat, i ≤ ps.length → Lt.Good (ps.take i)
  | 0, _ => by simpa using Lt.good_nil
  | i + 1, hi => by
    have G := Lt.good h i (by omega)
    have hl : (ps.take i).length = i := by rw [List.length_take]; omega
    have A := Lt.add_step (g := (Lt.st (ps.take i)).2) G.one G.sign (h i (by omega))
    rw [take_snocT (by omega)]
    refine ⟨?_, ?_, ?_, ?_, ?_, ?_⟩
    · rw [Lt.st_snoc]; exact A.1
    · rw [Lt.st_snoc]; exact A.2.1
    · rw [Lt.st_snoc, List.length_append, hl]; have a1 := G.len; have a2 := A.2.2.1; show _ ≤ i + 1; omega
    · rw [Lt.st_snoc, List.length_append, hl]; have a1 := G.gain; have a2 := A.2.2.2.1; show _ ≤ 500000000 * (i + 1); omega
    · rw [Lt.st_snoc, A.2.2.2.2.1, G.many, List.map_append, List.sum_append]; simp
    · rw [Lt.st_snoc, A.2.2.2.2.2.1, G.worth, List.map_append, List.sum_append]; simp; omega
theorem Lt.tones {ps : List Tri} (h : Td.ok ps = true) : ∀ i, i < ps.length → Lt.tone (ps.getD i t0) := fun i hi => by
  have := (Td.parts h).2 i hi
  exact ⟨⟨this.2.2.1.1, this.2.2.1.2, this.2.1⟩, this.2.2.2⟩
def Lt.lots (ps : List Tri) : List Pr := if Td.ok ps = true then (Lt.st ps).1 else []
def Lt.gain (ps : List Tri) : Int := if Td.ok ps = true then (Lt.st ps).2 else 0
end Go.Proofs.Ythdoeckoljflpaa
