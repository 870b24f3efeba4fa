/- Weights with a cap: rounds. -/
import Derived.Test.YtgkldgljebhcgaaCwM
namespace Go.Proofs.Ytgkldgljebhcgaa
open Go.RowKit
theorem Cw.cut_at {L : Int} {ws : List Int} {i : Nat} (hi : i < ws.length) : (Cw.cut L ws).getD i 0 = if L < ws.getD i 0 then L else ws.getD i 0 := Pr.map_at hi
theorem Cw.caps_at {L : Int} : ∀ {ws : List Int} {cs : List Bool} {i : Nat}, ws.length = cs.length → i < ws.length → (Cw.caps L ws cs).getD i false = (decide (L < ws.getD i 0) || cs.getD i false)
  | [], _, _, _, hi => absurd hi (by simp)
  | _ :: _, [], _, h, _ => by simp at h
  | w :: ws, c :: cs, 0, _, _ => rfl
  | w :: ws, c :: cs, i + 1, h, hi => by
    have := Cw.caps_at (L := L) (ws := ws) (cs := cs) (i := i) (by simpa using h) (by simpa using hi)
    exact this
theorem Cw.fw_at : ∀ {ws : List Int} {cs : List Bool} {i : Nat}, ws.length = cs.length → i < ws.length → (Cw.fw ws cs).getD i 0 = if cs.getD i false = true then 0 else ws.getD i 0
  | [], _, _, _, hi => absurd hi (by simp)
  | _ :: _, [], _, h, _ => by simp at h
  | w :: ws, c :: cs, 0, _, _ => rfl
  | w :: ws, c :: cs, i + 1, h, hi => by
    have := Cw.fw_at (ws := ws) (cs := cs) (i := i) (by simpa using h) (by simpa using hi)
    exact this
theorem Cw.ones_at : ∀ {cs : List Bool} {i : Nat}, i < cs.length → (Cw.ones cs).getD i 0 = if cs.getD i false = true then 0 else 1
  | [], _, hi => absurd hi (by simp)
  | c :: cs, 0, _ => rfl
  | c :: cs, i + 1, hi => by
    have := Cw.ones_at (cs := cs) (i := i) (by simpa using hi)
    exact this
theorem Cw.ones_len (cs : List Bool) : (Cw.ones cs).length = cs.length := by unfold Cw.ones; simp
theorem Cw.mem_at {xs : List Int} {P : Int → Prop} (h : ∀ i, i < xs.length → P (xs.getD i 0)) : ∀ x ∈ xs, P x := fun x hx => by
  obtain ⟨i, hi, rfl⟩ := List.getElem_of_mem hx
  have := h i hi
  rwa [Sr.getD_get hi] at this
theorem Cw.sum_same {L : Int} : ∀ xs : List Int, (∀ x ∈ xs, x = L) → xs.sum = L * (xs.length : Int)
  | [], _ => by simp
  | x :: xs, h => by
    have h1 := Cw.sum_same xs fun y hy => h y (List.mem_cons_of_mem _ hy)
    rw [List.sum_cons, h1, h x List.mem_cons_self, List.length_cons, Int.natCast_add, Int.mul_add]
    omega
theorem Cw.all_true : ∀ {cs : List Bool}, cs.count false = 0 → ∀ i, i < cs.length → cs.getD i false = true
  | [], _, _, hi => absurd hi (by simp)
  | c :: cs, h, 0, _ => by
    cases c
    · simp at h
    · rfl
  | c :: cs, h, i + 1, hi => by
    have h' : cs.count false = 0 := by
      cases c
      · simp at h
      · simpa using h
    have := Cw.all_true h' i (by simpa using hi)
    exact this
theorem Cw.count_le (L : Int) : ∀ (ws : List Int) (cs : List Bool), (Cw.caps L ws cs).count false ≤ cs.count false
  | [], _ => by simp [Cw.caps]
  | _ :: _, [] => by simp [Cw.caps]
  | w :: ws, c :: cs => by
    have h := Cw.count_le L ws cs
    unfold Cw.caps at *
    rw [List.zipWith_cons_cons, List.count_cons, List.count_cons]
    cases c
    · cases decide (L < w) <;> simp <;> omega
    · simpa using h
theorem Cw.count_lt {L : Int} : ∀ {ws : List Int} {cs : List Bool} {i : Nat}, ws.length = cs.length → i < ws.length → L < ws.getD i 0 → cs.getD i false = false → (Cw.caps L ws cs).count false < cs.count false
  | [], _, _, _, hi, _, _ => absurd hi (by simp)
  | _ :: _, [], _, h, _, _, _ => by simp at h
  | w :: ws, c :: cs, 0, _, _, hL, hc => by
    have h := Cw.count_le L ws cs
    have hc' : c = false := hc
    have hL' : decide (L < w) = true := decide_eq_true hL
    unfold Cw.caps at *
    rw [List.zipWith_cons_cons, List.count_cons, List.count_cons, hc', hL']
    simp
    omega
  | w :: ws, c :: cs, i + 1, h, hi, hL, hc => by
    have h2 := Cw.count_lt (L := L) (ws := ws) (cs := cs) (i := i) (by simpa using h) (by simpa using hi) hL hc
    unfold Cw.caps at *
    rw [List.zipWith_cons_cons, List.count_cons, List.count_cons]
    cases c
    · cases decide (L < w) <;> simp <;> omega
    · simpa using h2
/-- What holds ahead of each round. -/
structure Cw.Inv (L : Int) (ws : List Int) (cs : List Bool) : Prop where
  len : ws.length = cs.length
  n1 : 1 ≤ ws.length
  n8 : ws.length ≤ 8
  L0 : 0 ≤ L
  L1 : L ≤ 1000
  all : 1000 ≤ L * (ws.length : Int)
  nn : ∀ i, i < ws.length → 0 ≤ ws.getD i 0
  sum : ws.sum = 1000
  cap : ∀ i, i < ws.length → cs.getD i false = true → ws.getD i 0 = L
abbrev Cw.F (L : Int) (ws : List Int) (cs : List Bool) : List Int := Cw.free (Cw.cut L ws) (Cw.caps L ws cs)
section
variable {L : Int} {ws : List Int} {cs : List Bool} (I : Cw.Inv L ws cs)
include I
theorem Cw.Inv.top {i : Nat} (hi : i < ws.length) : ws.getD i 0 ≤ 1000 := by
  have h := Pr.mem_le ws (Cw.mem_at I.nn) (ws.getD i 0) (by rw [Sr.getD_get hi]; exact List.getElem_mem hi)
  rwa [I.sum] at h
theorem Cw.Inv.cut_bd {i : Nat} (hi : i < ws.length) : 0 ≤ (Cw.cut L ws).getD i 0 ∧ (Cw.cut L ws).getD i 0 ≤ 1000 ∧ (Cw.cut L ws).getD i 0 ≤ L := by
  have h0 := I.nn i hi
  have h1 := I.top hi
  have h2 := I.L0
  have h3 := I.L1
  rw [Cw.cut_at hi]
  split <;> omega
theorem Cw.Inv.cut_nn : ∀ x ∈ Cw.cut L ws, 0 ≤ x := Cw.mem_at fun i hi => (I.cut_bd (by rwa [Cw.cut_len] at hi)).1
theorem Cw.Inv.above_bd : 0 ≤ Cw.above L ws ∧ Cw.above L ws ≤ 1000 := by
  have h := Cw.cut_sum L ws
  have h1 := Pr.sum_nn _ I.cut_nn
  have h2 := I.sum
  exact ⟨Cw.above_nn L ws, by omega⟩
theorem Cw.Inv.len2 : (Cw.cut L ws).length = (Cw.caps L ws cs).length := by rw [Cw.cut_len, Cw.caps_len I.len]
theorem Cw.Inv.F_len : (Cw.F L ws cs).length = ws.length := by
  unfold Cw.F; rw [Cw.free_len I.len2, Cw.cut_len]
theorem Cw.Inv.capped {i : Nat} (hi : i < ws.length) (hc : (Cw.caps L ws cs).getD i false = true) : (Cw.cut L ws).getD i 0 = L := by
  rw [Cw.caps_at I.len hi, Bool.or_eq_true, decide_eq_true_eq] at hc
  rw [Cw.cut_at hi]
  rcases hc with h | h
  · rw [if_pos h]
  · rw [I.cap i hi h]; split <;> rfl
theorem Cw.Inv.F_at {i : Nat} (hi : i < ws.length) : 0 ≤ (Cw.F L ws cs).getD i 0 ∧ (Cw.F L ws cs).getD i 0 ≤ 1000 ∧ ((Cw.caps L ws cs).getD i false = true → (Cw.F L ws cs).getD i 0 = 0) := by
  have h1 := I.cut_bd hi
  have hi1 : i < (Cw.cut L ws).length := by rw [Cw.cut_len]; exact hi
  unfold Cw.F Cw.free
  split
  · rw [Cw.ones_at (by rw [← I.len2]; exact hi1)]
    by_cases hc : (Cw.caps L ws cs).getD i false = true
    · rw [if_pos hc]; exact ⟨by omega, by omega, fun _ => rfl⟩
    · rw [if_neg hc]; exact ⟨by omega, by omega, fun h => absurd h hc⟩
  · rw [Cw.fw_at I.len2 hi1]
    by_cases hc : (Cw.caps L ws cs).getD i false = true
    · rw [if_pos hc]; exact ⟨by omega, by omega, fun _ => rfl⟩
    · rw [if_neg hc]; exact ⟨by omega, by omega, fun h => absurd h hc⟩
theorem Cw.Inv.F_nn : ∀ x ∈ Cw.F L ws cs, 0 ≤ x := Cw.mem_at fun i hi => (I.F_at (by rwa [I.F_len] at hi)).1
theorem Cw.Inv.F_hold : (Cw.F L ws cs).all holdB = true := List.all_eq_true.2 (Cw.mem_at fun i hi => by
  have := I.F_at (by rwa [I.F_len] at hi)
  exact btw_iff.2 (by omega))
/-- Some are free as long as one is above the cap. -/
theorem Cw.Inv.F_pos (hp : 0 < Cw.above L ws) : 0 < (Cw.F L ws cs).sum := by
  have h0 := Pr.sum_nn _ I.F_nn
  rcases Int.lt_or_eq_of_le h0 with h | h
  · exact h
  · exfalso
    have hz : ∀ i, i < ws.length → (Cw.F L ws cs).getD i 0 = 0 := fun i hi => by
      have h1 := Pr.mem_le _ I.F_nn _ (show (Cw.F L ws cs).getD i 0 ∈ Cw.F L ws cs by rw [Sr.getD_get (by rw [I.F_len]; exact hi)]; exact List.getElem_mem _)
      have h2 := (I.F_at hi).1
      omega
    unfold Cw.F Cw.free at hz h
    split at hz
    · have hs : (Cw.cut L ws).sum = L * ((Cw.cut L ws).length : Int) := Cw.sum_same _ (Cw.mem_at fun i hi => by
        have hi' : i < ws.length := by rwa [Cw.cut_len] at hi
        have h1 := hz i hi'
        rw [Cw.ones_at (by rw [← I.len2]; exact hi)] at h1
        refine I.capped hi' ?_
        cases hc : (Cw.caps L ws cs).getD i false with
        | true => rfl
        | false => rw [if_neg (by rw [hc]; simp)] at h1; omega)
      rw [Cw.cut_len] at hs
      have h1 := Cw.cut_sum L ws
      have h2 := I.sum
      have h3 := I.all
      omega
    · next hne =>
      rw [if_neg hne] at h
      exact hne h.symm
theorem Cw.Inv.ok (hp : 0 < Cw.above L ws) : Pr.Ok (Cw.above L ws) (Cw.F L ws cs) := ⟨I.above_bd.1, I.F_nn, I.F_pos hp⟩
theorem Cw.Inv.step_at {i : Nat} (hi : i < ws.length) : (Cw.step L ws cs).getD i 0 = (Cw.cut L ws).getD i 0 + (Pr.out (Cw.above L ws) (Cw.F L ws cs)).getD i 0 :=
  Cw.zip_at (by rw [Cw.cut_len]; exact hi) (by rw [Pr.out_len, I.F_len]; exact hi)
/-- A round keeps what holds, and one more has become the cap. -/
theorem Cw.Inv.next (hp : 0 < Cw.above L ws) : Cw.Inv L (Cw.step L ws cs) (Cw.caps L ws cs) := by
  have ok := I.ok hp
  have hl := Cw.step_len (L := L) I.len
  refine ⟨by rw [hl, Cw.caps_len I.len], by rw [hl]; exact I.n1, by rw [hl]; exact I.n8, I.L0, I.L1, by rw [hl]; exact I.all, ?_, by rw [Cw.step_sum I.len ok]; exact I.sum, ?_⟩
  · intro i hi
    rw [hl] at hi
    rw [I.step_at hi]
    have h1 := (I.cut_bd hi).1
    have h2 := Pr.out_nn ok (i := i) (by rw [I.F_len]; exact hi)
    omega
  · intro i hi hc
    rw [hl] at hi
    rw [I.step_at hi, I.capped hi hc, Cw.share0 ok (by rw [I.F_len]; exact hi) ((I.F_at hi).2.2 hc)]
    omega
theorem Cw.Inv.fewer {i : Nat} (hi : i < ws.length) (hL : L < ws.getD i 0) : (Cw.caps L ws cs).count false < cs.count false := by
  refine Cw.count_lt I.len hi hL ?_
  cases hc : cs.getD i false with
  | false => rfl
  | true => have := I.cap i hi hc; omega
theorem Cw.Inv.step_ge {i : Nat} (hp : 0 < Cw.above L ws) (hi : i < ws.length) : min (ws.getD i 0) L ≤ (Cw.step L ws cs).getD i 0 := by
  have h2 := Pr.out_nn (I.ok hp) (i := i) (by rw [I.F_len]; exact hi)
  rw [I.step_at hi, Cw.cut_at hi]
  split <;> omega
end
/-- Whether a weight is above the cap. -/
def Cw.anyB (L : Int) (ws : List Int) : Bool := ws.any fun x => decide (L < x)
theorem Cw.any_at {L : Int} {ws : List Int} (h : Cw.anyB L ws = true) : ∃ i, i < ws.length ∧ L < ws.getD i 0 := by
  obtain ⟨x, hx, hL⟩ := List.any_eq_true.1 h
  obtain ⟨i, hi, rfl⟩ := List.getElem_of_mem hx
  exact ⟨i, hi, by rw [Sr.getD_get hi]; exact of_decide_eq_true hL⟩
theorem Cw.any_no {L : Int} {ws : List Int} (h : Cw.anyB L ws = false) {i : Nat} (hi : i < ws.length) : ws.getD i 0 ≤ L := by
  have := (List.any_eq_false.1 h) (ws.getD i 0) (by rw [Sr.getD_get hi]; exact List.getElem_mem hi)
  simpa using this
theorem Cw.any_of {L : Int} {ws : List Int} (h : ∀ i, i < ws.length → ws.getD i 0 ≤ L) : Cw.anyB L ws = false :=
  List.any_eq_false.2 fun x hx => by
    have := Cw.mem_at (P := fun x => x ≤ L) h x hx
    simpa using this
theorem Cw.any_above {L : Int} {ws : List Int} (h : Cw.anyB L ws = true) : 0 < Cw.above L ws := by
  obtain ⟨x, hx, hL⟩ := List.any_eq_true.1 h
  exact Cw.above_pos hx (of_decide_eq_true hL)
theorem Cw.any_cut {L : Int} {ws : List Int} (h : Cw.anyB L ws = false) : Cw.cut L ws = ws ∧ Cw.above L ws = 0 := by
  have hc : Cw.cut L ws = ws := by
    unfold Cw.cut
    refine (List.map_congr_left (g := id) fun x hx => ?_).trans (List.map_id _)
    have := List.any_eq_false.1 h x hx
    rw [if_neg (by simpa using this)]; rfl
  have := Cw.cut_sum L ws
  rw [hc] at this
  exact ⟨hc, by omega⟩
def Cw.go (L : Int) : Nat → List Int → List Bool → List Int
  | 0, ws, _ => ws
  | k + 1, ws, cs => if Cw.anyB L ws = true then Cw.go L k (Cw.step L ws cs) (Cw.caps L ws cs) else ws
theorem Cw.go_done {L : Int} {k : Nat} {ws : List Int} {cs : List Bool} (h : Cw.anyB L ws = false) : Cw.go L k ws cs = ws := by
  cases k with
  | zero => rfl
  | succ k => unfold Cw.go; rw [if_neg (by rw [h]; simp)]
theorem Cw.go_more {L : Int} {k : Nat} {ws : List Int} {cs : List Bool} (h : Cw.anyB L ws = true) : Cw.go L (k + 1) ws cs = Cw.go L k (Cw.step L ws cs) (Cw.caps L ws cs) := by
  rw [Cw.go]; exact if_pos h
theorem Cw.more_pos {L : Int} {ws : List Int} {cs : List Bool} (I : Cw.Inv L ws cs) (h : Cw.anyB L ws = true) : (Cw.caps L ws cs).count false < cs.count false := by
  obtain ⟨i, hi, hL⟩ := Cw.any_at h
  exact I.fewer hi hL
/-- What the rounds end with. -/
theorem Cw.go_end {L : Int} : ∀ (k : Nat) {ws : List Int} {cs : List Bool}, Cw.Inv L ws cs → cs.count false ≤ k →
    (Cw.go L k ws cs).length = ws.length ∧ (Cw.go L k ws cs).sum = 1000 ∧ ∀ i, i < ws.length → (Cw.go L k ws cs).getD i 0 ≤ L ∧ min (ws.getD i 0) L ≤ (Cw.go L k ws cs).getD i 0
  | k, ws, cs, I, hk => by
    cases h : Cw.anyB L ws with
    | false =>
      rw [Cw.go_done h]
      exact ⟨rfl, I.sum, fun i hi => ⟨Cw.any_no h hi, by omega⟩⟩
    | true =>
      have hf := Cw.more_pos I h
      have hp := Cw.any_above h
      cases k with
      | zero => omega
      | succ k =>
        rw [Cw.go_more h]
        have hl := Cw.step_len (L := L) I.len
        obtain ⟨h1, h2, h3⟩ := Cw.go_end k (I.next hp) (by omega)
        refine ⟨by rw [h1, hl], h2, fun i hi => ?_⟩
        have h4 := h3 i (by rw [hl]; exact hi)
        have h5 := I.step_ge hp hi
        omega
def Cw.argB (xs : List Int) (L : Int) : Bool := Cw.ok xs && (btw L 0 1000 && decide (1000 ≤ L * (xs.length : Int)))
def Cw.res (xs : List Int) (L : Int) : List Int := Cw.go L xs.length xs (List.replicate xs.length false)
def Cw.val (xs : List Int) (L : Int) : List Int := if Cw.argB xs L = true then Cw.res xs L else []
theorem Cw.val_yes {xs : List Int} {L : Int} (h : Cw.argB xs L = true) : Cw.val xs L = Cw.res xs L := if_pos h
theorem Cw.val_no {xs : List Int} {L : Int} (h : Cw.argB xs L = false) : Cw.val xs L = [] := if_neg (by rw [h]; simp)
theorem Cw.inv0 {xs : List Int} {L : Int} (h : Cw.argB xs L = true) : Cw.Inv L xs (List.replicate xs.length false) := by
  unfold Cw.argB at h
  rw [Bool.and_eq_true, Bool.and_eq_true, btw_iff, decide_eq_true_eq] at h
  obtain ⟨h0, hL, ha⟩ := h
  obtain ⟨n1, n8, hw, hs⟩ := Cw.parts h0
  refine ⟨by simp, n1, n8, hL.1, hL.2, ha, fun i hi => (Cw.at hw hi).1, hs, fun i hi hc => ?_⟩
  simp [List.getD, hi] at hc
theorem Cw.res_end {xs : List Int} {L : Int} (h : Cw.argB xs L = true) : (Cw.res xs L).length = xs.length ∧ (Cw.res xs L).sum = 1000 ∧ ∀ i, i < xs.length → (Cw.res xs L).getD i 0 ≤ L ∧ min (xs.getD i 0) L ≤ (Cw.res xs L).getD i 0 :=
  Cw.go_end _ (Cw.inv0 h) (by simp)
theorem Cw.val_len {xs : List Int} {L : Int} (hl : xs.length ≤ 8) : (Cw.val xs L).length ≤ 8 := by
  unfold Cw.val
  split
  · next h => rw [(Cw.res_end h).1]; exact hl
  · simp
end Go.Proofs.Ytgkldgljebhcgaa
