/- Netting: mathematics. -/
import Derived.Test.YtmamnljgkkjkcaaBal2
namespace Go.Proofs.Ytmamnljgkkjkcaa
open Go.RowKit
/-- What a posting moves from a to b. -/
def Np.c (p : Tri) (a b : Int) : Int := p.2.2 * ((if p.1 = a ∧ p.2.1 = b then 1 else 0) - (if p.1 = b ∧ p.2.1 = a then 1 else 0))
def Np.d (ps : List Tri) (a b : Int) : Int := (ps.map fun p => Np.c p a b).sum
/-- The posting of a difference. -/
def Np.post (a b n : Int) : List Tri := if 0 < n then [(a, b, n)] else if n < 0 then [(b, a, -n)] else []
/-- The postings of a with its m next accounts. -/
def Np.row (f : Int → Int → Int) (a : Nat) : Nat → List Tri
  | 0 => []
  | m + 1 => Np.row f a m ++ Np.post a (a + 1 + m) (f a (a + 1 + m))
def Np.all (f : Int → Int → Int) : Nat → List Tri
  | 0 => []
  | s + 1 => Np.all f s ++ Np.row f s (5 - s)
def Np.L : List (Int × Int) := [(0, 1), (0, 2), (0, 3), (0, 4), (0, 5), (1, 2), (1, 3), (1, 4), (1, 5), (2, 3), (2, 4), (2, 5), (3, 4), (3, 5), (4, 5)]
def Np.net (f : Int → Int → Int) : List Tri := Np.L.flatMap fun x => Np.post x.1 x.2 (f x.1 x.2)
theorem Np.all_net (f : Int → Int → Int) : Np.all f 5 = Np.net f := by
  simp [Np.all, Np.row, Np.net, Np.L, List.append_assoc]
theorem Np.L_mem {a b : Int} (h0 : 0 ≤ a) (h1 : a < b) (h2 : b ≤ 5) : (a, b) ∈ Np.L := by
  have ha : a = 0 ∨ a = 1 ∨ a = 2 ∨ a = 3 ∨ a = 4 := by omega
  have hb : b = 1 ∨ b = 2 ∨ b = 3 ∨ b = 4 ∨ b = 5 := by omega
  rcases ha with rfl | rfl | rfl | rfl | rfl <;> rcases hb with rfl | rfl | rfl | rfl | rfl <;> first | decide | omega
theorem Np.L_bd : ∀ x ∈ Np.L, 0 ≤ x.1 ∧ x.1 < x.2 ∧ x.2 ≤ 5 := by decide
theorem Np.d_nil (a b : Int) : Np.d [] a b = 0 := rfl
theorem Np.d_cons (p : Tri) (ps : List Tri) (a b : Int) : Np.d (p :: ps) a b = Np.c p a b + Np.d ps a b := by unfold Np.d; simp
theorem Np.d_append (ps qs : List Tri) (a b : Int) : Np.d (ps ++ qs) a b = Np.d ps a b + Np.d qs a b := by unfold Np.d; simp
theorem Np.d_post {a b x y n : Int} (h : a < b) (h2 : x < y) : Np.d (Np.post a b n) x y = if a = x ∧ b = y then n else 0 := by
  unfold Np.post
  by_cases c : 0 < n
  · rw [if_pos c, Np.d_cons, Np.d_nil]
    unfold Np.c
    show n * ((if a = x ∧ b = y then 1 else 0) - (if a = y ∧ b = x then 1 else 0)) + 0 = _
    rw [if_neg (show ¬ (a = y ∧ b = x) by omega)]
    split <;> simp
  · rw [if_neg c]
    by_cases c2 : n < 0
    · rw [if_pos c2, Np.d_cons, Np.d_nil]
      unfold Np.c
      show -n * ((if b = x ∧ a = y then 1 else 0) - (if b = y ∧ a = x then 1 else 0)) + 0 = _
      rw [if_neg (show ¬ (b = x ∧ a = y) by omega)]
      by_cases e : a = x ∧ b = y
      · rw [if_pos e, if_pos ⟨e.2, e.1⟩]; omega
      · rw [if_neg e, if_neg (fun k => e ⟨k.2, k.1⟩)]; omega
    · rw [if_neg c2, Np.d_nil]
      split <;> omega
theorem Np.d_list {f : Int → Int → Int} {x y : Int} (h2 : x < y) : ∀ L : List (Int × Int), (∀ z ∈ L, z.1 < z.2) → L.Nodup → Np.d (L.flatMap fun z => Np.post z.1 z.2 (f z.1 z.2)) x y = if (x, y) ∈ L then f x y else 0
  | [], _, _ => by simp [Np.d_nil]
  | z :: L, h, hn => by
    have ih := Np.d_list (f := f) h2 L (fun u hu => h u (List.mem_cons_of_mem _ hu)) (List.nodup_cons.1 hn).2
    rw [List.flatMap_cons, Np.d_append, ih, Np.d_post (h z List.mem_cons_self) h2]
    have hz := (List.nodup_cons.1 hn).1
    by_cases e : z.1 = x ∧ z.2 = y
    · have ez : z = (x, y) := Prod.ext e.1 e.2
      rw [if_pos e, ez, if_pos List.mem_cons_self, if_neg (by rw [← ez]; exact hz)]
      show f x y + 0 = f x y
      omega
    · rw [if_neg e]
      have hne : (x, y) ≠ z := fun k => e ⟨by rw [← k], by rw [← k]⟩
      by_cases m : (x, y) ∈ L
      · rw [if_pos m, if_pos (List.mem_cons_of_mem _ m)]; omega
      · rw [if_neg m, if_neg (by rw [List.mem_cons]; exact fun k => k.elim hne m)]; omega
/-- Netting what is netted changes nothing. -/
theorem Np.twice (f : Int → Int → Int) : Np.net (Np.d (Np.net f)) = Np.net f := by
  unfold Np.net
  have key : ∀ M : List (Int × Int), (∀ z ∈ M, z ∈ Np.L) → (M.flatMap fun x => Np.post x.1 x.2 (Np.d (Np.L.flatMap fun x => Np.post x.1 x.2 (f x.1 x.2)) x.1 x.2)) = M.flatMap fun x => Np.post x.1 x.2 (f x.1 x.2) := by
    intro M
    induction M with
    | nil => intro _; rfl
    | cons z M ih =>
      intro h
      have hz := h z List.mem_cons_self
      rw [List.flatMap_cons, List.flatMap_cons, ih (fun u hu => h u (List.mem_cons_of_mem _ hu)), Np.d_list (Np.L_bd z hz).2.1 Np.L (fun u hu => (Np.L_bd u hu).2.1) (by decide), if_pos hz]
  exact key Np.L (fun z hz => hz)
/-- The net postings' balances. -/
theorem Np.bal_post (a b n x : Int) : Bl.sum (Np.post a b n) x = n * ((if b = x then 1 else 0) - (if a = x then 1 else 0)) := by
  unfold Np.post
  by_cases c : 0 < n
  · rw [if_pos c]
    unfold Bl.sum Bl.one
    simp
  · rw [if_neg c]
    by_cases c2 : n < 0
    · rw [if_pos c2]
      unfold Bl.sum Bl.one
      simp only [List.map_cons, List.map_nil, List.sum_cons, List.sum_nil]
      split <;> split <;> omega
    · rw [if_neg c2]
      obtain rfl : n = 0 := by omega
      unfold Bl.sum
      simp
theorem Np.bal_append (ps qs : List Tri) (x : Int) : Bl.sum (ps ++ qs) x = Bl.sum ps x + Bl.sum qs x := by unfold Bl.sum; simp
def Np.T (f : Int → Int → Int) (x : Int) : Int := (Np.L.map fun z => f z.1 z.2 * ((if z.2 = x then 1 else 0) - (if z.1 = x then 1 else 0))).sum
theorem Np.bal_net (f : Int → Int → Int) (x : Int) : Bl.sum (Np.net f) x = Np.T f x := by
  unfold Np.net Np.T
  induction Np.L with
  | nil => rfl
  | cons z M ih => rw [List.flatMap_cons, Np.bal_append, ih, Np.bal_post, List.map_cons, List.sum_cons]
theorem Np.T_add (f g : Int → Int → Int) (x : Int) : Np.T (fun a b => f a b + g a b) x = Np.T f x + Np.T g x := by
  unfold Np.T
  induction Np.L with
  | nil => rfl
  | cons z M ih =>
    rw [List.map_cons, List.sum_cons, ih, List.map_cons, List.sum_cons, List.map_cons, List.sum_cons, Int.add_mul]
    omega
theorem Np.T_one {p : Tri} (h : Ps.one p = true) (x : Int) : Np.T (Np.c p) x = Bl.one p x := by
  obtain ⟨f, t, u⟩ := p
  unfold Ps.one at h
  rw [Bool.and_eq_true, Bool.and_eq_true, Bool.and_eq_true, btw_iff, btw_iff] at h
  obtain ⟨⟨f0, f1⟩, ⟨t0, t1⟩, hne, -⟩ := h
  simp only at f0 f1 t0 t1
  have hne2 : f ≠ t := by simpa using hne
  clear hne
  unfold Np.T Np.c Bl.one Np.L
  generalize he0 : (if (0 : Int) = x then (1 : Int) else 0) = e0
  generalize he1 : (if (1 : Int) = x then (1 : Int) else 0) = e1
  generalize he2 : (if (2 : Int) = x then (1 : Int) else 0) = e2
  generalize he3 : (if (3 : Int) = x then (1 : Int) else 0) = e3
  generalize he4 : (if (4 : Int) = x then (1 : Int) else 0) = e4
  generalize he5 : (if (5 : Int) = x then (1 : Int) else 0) = e5
  have hf : f = 0 ∨ f = 1 ∨ f = 2 ∨ f = 3 ∨ f = 4 ∨ f = 5 := by omega
  have ht : t = 0 ∨ t = 1 ∨ t = 2 ∨ t = 3 ∨ t = 4 ∨ t = 5 := by omega
  rcases hf with rfl | rfl | rfl | rfl | rfl | rfl <;> rcases ht with rfl | rfl | rfl | rfl | rfl | rfl <;>
    first
      | exact absurd rfl hne2
      | (simp [he0, he1, he2, he3, he4, he5, Int.mul_sub, Int.neg_mul] <;> omega)
theorem Np.T_d {ps : List Tri} (h : ∀ p ∈ ps, Ps.one p = true) (x : Int) : Np.T (Np.d ps) x = Bl.sum ps x := by
  induction ps with
  | nil => simp [Np.T, Np.L, Np.d_nil, Bl.sum]
  | cons p ps ih =>
    have e : Np.d (p :: ps) = fun a b => Np.c p a b + Np.d ps a b := funext fun a => funext fun b => Np.d_cons p ps a b
    rw [e, Np.T_add, ih (fun q hq => h q (List.mem_cons_of_mem _ hq)), Np.T_one (h p List.mem_cons_self)]
    unfold Bl.sum
    rw [List.map_cons, List.sum_cons]
/-- Which differences fit into postings. -/
def Np.fit (f : Int → Int → Int) : Bool := Np.L.all fun z => decide (-1000000000 ≤ f z.1 z.2 ∧ f z.1 z.2 ≤ 1000000000)
theorem Np.post_ok {a b n : Int} (h0 : 0 ≤ a) (h1 : a < b) (h2 : b ≤ 5) : (Np.post a b n).all Ps.one = decide (-1000000000 ≤ n ∧ n ≤ 1000000000) := by
  have one : ∀ x y z : Int, 0 ≤ x → x ≤ 5 → 0 ≤ y → y ≤ 5 → x ≠ y → 0 < z → Ps.one (x, y, z) = decide (z ≤ 1000000000) := fun x y z a0 a1 b0 b1 hn hz => by
    unfold Ps.one
    have e1 : btw x 0 5 = true := btw_iff.2 ⟨a0, a1⟩
    have e2 : btw y 0 5 = true := btw_iff.2 ⟨b0, b1⟩
    have e3 : (x != y) = true := by simpa using hn
    simp only [e1, e2, e3, Bool.true_and]
    by_cases c : z ≤ 1000000000
    · rw [decide_eq_true c]; exact btw_iff.2 ⟨by omega, c⟩
    · rw [decide_eq_false c]; exact btw_iff_f.2 (by omega)
  unfold Np.post
  by_cases c : 0 < n
  · rw [if_pos c]
    simp only [List.all_cons, List.all_nil, Bool.and_true]
    rw [one a b n h0 (by omega) (by omega) h2 (by omega) c]
    exact decide_eq_decide.2 (by omega)
  · rw [if_neg c]
    by_cases c2 : n < 0
    · rw [if_pos c2]
      simp only [List.all_cons, List.all_nil, Bool.and_true]
      rw [one b a (-n) (by omega) h2 h0 (by omega) (by omega) (by omega)]
      exact decide_eq_decide.2 (by omega)
    · rw [if_neg c2]
      exact (decide_eq_true (by omega)).symm
theorem Np.post_len (a b n : Int) : (Np.post a b n).length ≤ 1 := by
  unfold Np.post
  split
  · simp
  · split <;> simp
theorem Np.net_ok (f : Int → Int → Int) : Ps.ok (Np.net f) = Np.fit f := by
  have hl : (Np.net f).length ≤ 15 := by
    have key : ∀ M : List (Int × Int), (M.flatMap fun x => Np.post x.1 x.2 (f x.1 x.2)).length ≤ M.length := by
      intro M
      induction M with
      | nil => simp
      | cons z M ih =>
        rw [List.flatMap_cons, List.length_append, List.length_cons]
        have := Np.post_len z.1 z.2 (f z.1 z.2)
        omega
    exact key Np.L
  have ha : (Np.net f).all Ps.one = Np.fit f := by
    unfold Np.net Np.fit
    have key : ∀ M : List (Int × Int), (∀ z ∈ M, 0 ≤ z.1 ∧ z.1 < z.2 ∧ z.2 ≤ 5) → (M.flatMap fun x => Np.post x.1 x.2 (f x.1 x.2)).all Ps.one = M.all fun z => decide (-1000000000 ≤ f z.1 z.2 ∧ f z.1 z.2 ≤ 1000000000) := by
      intro M
      induction M with
      | nil => intro _; rfl
      | cons z M ih =>
        intro h
        obtain ⟨a0, a1, a2⟩ := h z List.mem_cons_self
        rw [List.flatMap_cons, List.all_append, ih (fun u hu => h u (List.mem_cons_of_mem _ hu)), Np.post_ok a0 a1 a2, List.all_cons]
    exact key Np.L Np.L_bd
  unfold Ps.ok
  rw [decide_eq_true (by omega), Bool.true_and, ha]
/-- The two accounts of a posting, the smaller one first. -/
def Np.key (p : Tri) : Int × Int := if p.1 < p.2.1 then (p.1, p.2.1) else (p.2.1, p.1)
theorem Np.post_key {a b n : Int} (h : a < b) : List.Sublist ((Np.post a b n).map Np.key) [(a, b)] := by
  unfold Np.post
  by_cases c : 0 < n
  · rw [if_pos c]
    show List.Sublist [Np.key (a, b, n)] _
    rw [show Np.key (a, b, n) = (a, b) from if_pos h]
    exact List.Sublist.refl _
  · rw [if_neg c]
    by_cases c2 : n < 0
    · rw [if_pos c2]
      show List.Sublist [Np.key (b, a, -n)] _
      rw [show Np.key (b, a, -n) = (a, b) from if_neg (show ¬ b < a by omega)]
      exact List.Sublist.refl _
    · rw [if_neg c2]
      exact List.nil_sublist _
theorem Np.keys (f : Int → Int → Int) : ((Np.net f).map Np.key).Nodup := by
  have key : ∀ M : List (Int × Int), (∀ z ∈ M, z.1 < z.2) → List.Sublist ((M.flatMap fun x => Np.post x.1 x.2 (f x.1 x.2)).map Np.key) M := by
    intro M
    induction M with
    | nil => intro _; exact List.Sublist.refl _
    | cons z M ih =>
      intro h
      rw [List.flatMap_cons, List.map_append]
      exact List.Sublist.append (Np.post_key (h z List.mem_cons_self)) (ih fun u hu => h u (List.mem_cons_of_mem _ hu))
  exact (key Np.L (fun z hz => (Np.L_bd z hz).2.1)).nodup (by decide)
end Go.Proofs.Ytmamnljgkkjkcaa
