/- Notes matched: the rows of candidates that are left, and the place that is taken. -/
import Derived.Test.YtmamnljgkkjkcaaMnC
import Derived.Test.YtmamnljgkkjkcaaMnN
namespace Go.Proofs.Ytmamnljgkkjkcaa
open Go.RowKit
/-- The candidate of index i as the program keeps it. -/
def Mn.cd (b : List Tri) (i : Nat) : Pr := ((i : Int), (b.getD i t0).2.2)
/-- The candidates of a key that are left. -/
def Mn.rest (b : List Tri) (used : List Int) (x y : Int) : List Pr := (Mn.is b (x, y, 0) used b.length).map (Mn.cd b)
theorem Mn.is_key (b : List Tri) (x y q : Int) (used : List Int) (k : Nat) : Mn.is b (x, y, q) used k = Mn.is b (x, y, 0) used k := rfl
theorem Mn.rest_nil (b : List Tri) : Mn.rows b b.length = Mn.rest b [] := by
  funext x y
  unfold Mn.rows Mn.rest Mn.is Mn.same Mn.cd
  congr 1
  refine List.filter_congr fun i _ => ?_
  simp only [List.contains_nil, Bool.not_false, Bool.and_true]
  rw [Bool.eq_iff_iff]
  simp only [Bool.and_eq_true, beq_iff_eq]
  exact ⟨fun h => ⟨h.1.symm, h.2.symm⟩, fun h => ⟨h.1.symm, h.2.symm⟩⟩
theorem Mn.rest_none (b : List Tri) (used : List Int) (z : Int) (hz : z < 0) : Mn.rest b (used ++ [z]) = Mn.rest b used := by
  funext x y
  unfold Mn.rest Mn.is
  congr 1
  refine List.filter_congr fun i _ => ?_
  congr 2
  rw [Bool.eq_iff_iff, List.contains_eq_mem, List.contains_eq_mem, decide_eq_true_iff, decide_eq_true_iff, List.mem_append]
  refine ⟨fun h => h.elim id fun h => ?_, .inl⟩
  simp only [List.mem_cons, List.not_mem_nil, or_false] at h
  omega
theorem Mn.ab_swap (x y : Int) : Mn.ab (x - y) = Mn.ab (y - x) := by unfold Mn.ab; split <;> split <;> omega
theorem Mn.st_pick (b : List Tri) (x y q tol : Int) (ht : 0 ≤ tol ∧ tol ≤ 50000) (l : List Nat) : ∀ k, k ≤ l.length →
    Mn.pick (x, y, q) b tol (l.take k) = (if (Mn.st q tol (l.map (Mn.cd b)) k).1 < 0 then -1 else ((l.map (Mn.cd b)).getD (Mn.st q tol (l.map (Mn.cd b)) k).1.toNat pr0).1, (Mn.st q tol (l.map (Mn.cd b)) k).2)
  | 0, _ => by simp [Mn.pick, Mn.st]
  | k + 1, hk => by
    have ih := Mn.st_pick b x y q tol ht l k (by omega)
    have hlt : k < l.length := by omega
    have e : l.take (k + 1) = l.take k ++ [l[k]] := by rw [List.take_add_one, List.getElem?_eq_getElem hlt]; rfl
    have eg : (l.map (Mn.cd b)).getD k pr0 = Mn.cd b l[k] := by
      rw [List.getD_eq_getElem?_getD, List.getElem?_map, List.getElem?_eq_getElem hlt]; rfl
    have e2 : Mn.st q tol (l.map (Mn.cd b)) (k + 1) = if Mn.ab (((l.map (Mn.cd b)).getD k pr0).2 - q) < (Mn.st q tol (l.map (Mn.cd b)) k).2 then ((k : Int), Mn.ab (((l.map (Mn.cd b)).getD k pr0).2 - q)) else Mn.st q tol (l.map (Mn.cd b)) k := rfl
    have ep : Mn.pick (x, y, q) b tol (l.take k ++ [l[k]]) = Mn.go (x, y, q) b (Mn.pick (x, y, q) b tol (l.take k)) l[k] := by unfold Mn.pick; rw [List.foldl_append]; rfl
    rw [e, ep, ih, e2, eg]
    have ed : Mn.ds (x, y, q) (b.getD l[k] t0) = Mn.ab ((Mn.cd b l[k]).2 - q) := Mn.ab_swap _ _
    unfold Mn.go
    rw [ed]
    simp only
    by_cases c : Mn.ab ((Mn.cd b l[k]).2 - q) < (Mn.st q tol (l.map (Mn.cd b)) k).2
    · rw [if_pos c, if_pos c]
      have hn : ¬ (k : Int) < 0 := by omega
      simp only
      rw [if_neg hn, Int.toNat_natCast, eg]
      rfl
    · rw [if_neg c, if_neg c]
/-- What take finds is what is picked. -/
theorem Mn.at_st (b : List Tri) (d m q tol : Int) (ht : 0 ≤ tol ∧ tol ≤ 50000) (used : List Int) :
    Mn.at (d, m, q) b used tol b.length = if (Mn.st q tol (Mn.rest b used d m) (Mn.rest b used d m).length).1 < 0 then -1 else ((Mn.rest b used d m).getD (Mn.st q tol (Mn.rest b used d m) (Mn.rest b used d m).length).1.toNat pr0).1 := by
  have h := Mn.st_pick b d m q tol ht (Mn.is b (d, m, 0) used b.length) _ (Nat.le_refl _)
  rw [List.take_length] at h
  unfold Mn.at Mn.rest
  rw [Mn.is_key, h, List.length_map]
theorem Mn.erase_at {L : List Nat} (hn : L.Nodup) (j : Nat) (hj : j < L.length) : L.filter (fun i => i != L[j]) = L.eraseIdx j := by
  induction L generalizing j with
  | nil => simp at hj
  | cons x L ih =>
    obtain ⟨hx, hn⟩ := List.nodup_cons.1 hn
    cases j with
    | zero =>
      have e : L.filter (fun i => i != x) = L := List.filter_eq_self.2 fun i hi => by
        rw [bne_iff_ne]; rintro rfl; exact hx hi
      simp [e]
    | succ j =>
      have hj' : j < L.length := by simpa using hj
      have hne : x ≠ L[j] := fun h => hx (h ▸ List.getElem_mem hj')
      have h := ih hn j hj'
      simp only [List.getElem_cons_succ, List.eraseIdx_cons_succ]
      rw [List.filter_cons_of_pos (by rw [bne_iff_ne]; exact hne), h]
theorem Mn.eraseMap {α β : Type} (f : α → β) : ∀ (l : List α) (j : Nat), (l.map f).eraseIdx j = (l.eraseIdx j).map f
  | [], _ => rfl
  | _ :: _, 0 => rfl
  | x :: l, j + 1 => by
    show f x :: (l.map f).eraseIdx j = f x :: (l.eraseIdx j).map f
    rw [Mn.eraseMap f l j]
/-- One candidate taken: it leaves its row. -/
theorem Mn.rest_take (b : List Tri) (used : List Int) (d m : Int) (j : Nat) (hj : j < (Mn.rest b used d m).length) :
    Mn.rest b (used ++ [((Mn.rest b used d m).getD j pr0).1]) = fun x y => if x = d ∧ y = m then (Mn.rest b used d m).eraseIdx j else Mn.rest b used x y := by
  have hl : j < (Mn.is b (d, m, 0) used b.length).length := by unfold Mn.rest at hj; rwa [List.length_map] at hj
  have eg : ((Mn.rest b used d m).getD j pr0).1 = (((Mn.is b (d, m, 0) used b.length)[j] : Nat) : Int) := by
    unfold Mn.rest
    rw [List.getD_eq_getElem?_getD, List.getElem?_map, List.getElem?_eq_getElem hl]; rfl
  rw [eg]
  have hm := (Mn.is_mem (b := b) (x := (d, m, 0)) (used := used) (k := b.length)).1 (List.getElem_mem hl)
  have hnd : (Mn.is b (d, m, 0) used b.length).Nodup := by unfold Mn.is; exact List.nodup_range.filter _
  have hE := Mn.erase_at hnd j hl
  generalize (Mn.is b (d, m, 0) used b.length)[j] = e at hm hE
  have key : ∀ x y, Mn.is b (x, y, 0) (used ++ [(e : Int)]) b.length = (Mn.is b (x, y, 0) used b.length).filter fun i => i != e := by
    intro x y
    unfold Mn.is
    rw [List.filter_filter]
    refine List.filter_congr fun i _ => ?_
    rw [Bool.eq_iff_iff]
    simp only [Bool.and_eq_true, Bool.not_eq_true', List.contains_eq_mem, decide_eq_false_iff_not, List.mem_append, List.mem_cons, List.not_mem_nil, or_false, bne_iff_ne, ne_eq, not_or, Int.natCast_inj]
    exact ⟨fun ⟨a, b, c⟩ => ⟨c, a, b⟩, fun ⟨c, a, b⟩ => ⟨a, b, c⟩⟩
  funext x y
  by_cases c : x = d ∧ y = m
  · rw [if_pos c, c.1, c.2]
    unfold Mn.rest
    rw [key, hE]
    exact (Mn.eraseMap ..).symm
  · rw [if_neg c]
    unfold Mn.rest
    rw [key, List.filter_eq_self.2]
    intro i hi
    rw [bne_iff_ne]
    rintro rfl
    have h1 := (Mn.is_mem.1 hi).2.1
    have h2 := hm.2.1
    unfold Mn.same at h1 h2
    simp only [Bool.and_eq_true, beq_iff_eq] at h1 h2
    exact c ⟨h1.1.trans h2.1.symm, h1.2.trans h2.2.symm⟩
end Go.Proofs.Ytmamnljgkkjkcaa
