/- Weights with a cap: mathematics. -/
import Derived.Test.YtgkldgljebhcgaaCwA
import Derived.Test.YtgkldgljebhcgaaPrM
namespace Go.Proofs.Ytgkldgljebhcgaa
open Go.RowKit
theorem Cw.zip_sum : ∀ (a b : List Int), a.length = b.length → (List.zipWith (· + ·) a b).sum = a.sum + b.sum
  | [], [], _ => rfl
  | [], _ :: _, h => by simp at h
  | _ :: _, [], h => by simp at h
  | x :: a, y :: b, h => by
    have := Cw.zip_sum a b (by simpa using h)
    rw [List.zipWith_cons_cons, List.sum_cons, List.sum_cons, List.sum_cons, this]; omega
theorem Cw.zip_at : ∀ {a b : List Int} {i : Nat}, i < a.length → i < b.length → (List.zipWith (· + ·) a b).getD i 0 = a.getD i 0 + b.getD i 0
  | [], _, _, h, _ => absurd h (by simp)
  | _ :: _, [], _, _, h => absurd h (by simp)
  | x :: a, y :: b, 0, _, _ => rfl
  | x :: a, y :: b, i + 1, ha, hb => by
    have := Cw.zip_at (a := a) (b := b) (i := i) (by simpa using ha) (by simpa using hb)
    exact this
/-- Nothing is shared out to a weight of 0. -/
theorem Cw.share0 {A : Int} {xs : List Int} (ok : Pr.Ok A xs) {i : Nat} (hi : i < xs.length) (h0 : xs.getD i 0 = 0) : (Pr.out A xs).getD i 0 = 0 := by
  have h := Pr.near ok hi
  have hn := Pr.out_nn ok hi
  have ht := ok.t0
  rw [h0, Int.mul_zero] at h
  generalize (Pr.out A xs).getD i 0 = y at h hn ⊢
  by_cases hy : 1 ≤ y
  · have : xs.sum ≤ y * xs.sum := by
      have := Int.mul_le_mul_of_nonneg_right hy (show 0 ≤ xs.sum by omega)
      rwa [Int.one_mul] at this
    omega
  · omega
/-- A round: what is above the cap, the weights cut, which have become the cap, which are free, the weights after it. -/
def Cw.above (L : Int) (ws : List Int) : Int := (ws.map fun x => max (x - L) 0).sum
def Cw.cut (L : Int) (ws : List Int) : List Int := ws.map fun x => if L < x then L else x
def Cw.caps (L : Int) (ws : List Int) (cs : List Bool) : List Bool := List.zipWith (fun x c => decide (L < x) || c) ws cs
def Cw.fw (ws : List Int) (cs : List Bool) : List Int := List.zipWith (fun x c => if c = true then 0 else x) ws cs
def Cw.ones (cs : List Bool) : List Int := cs.map fun c => if c = true then 0 else 1
def Cw.free (ws : List Int) (cs : List Bool) : List Int := if (Cw.fw ws cs).sum = 0 then Cw.ones cs else Cw.fw ws cs
def Cw.step (L : Int) (ws : List Int) (cs : List Bool) : List Int := List.zipWith (· + ·) (Cw.cut L ws) (Pr.out (Cw.above L ws) (Cw.free (Cw.cut L ws) (Cw.caps L ws cs)))
theorem Cw.cut_sum (L : Int) : ∀ ws : List Int, (Cw.cut L ws).sum + Cw.above L ws = ws.sum
  | [] => rfl
  | w :: ws => by
    have h := Cw.cut_sum L ws
    unfold Cw.cut Cw.above at *
    rw [List.map_cons, List.map_cons, List.sum_cons, List.sum_cons, List.sum_cons]
    by_cases hw : L < w
    · rw [if_pos hw]; omega
    · rw [if_neg hw]; omega
theorem Cw.cut_len (L : Int) (ws : List Int) : (Cw.cut L ws).length = ws.length := by unfold Cw.cut; simp
theorem Cw.caps_len {L : Int} {ws : List Int} {cs : List Bool} (h : ws.length = cs.length) : (Cw.caps L ws cs).length = ws.length := by unfold Cw.caps; simp; omega
theorem Cw.fw_len {ws : List Int} {cs : List Bool} (h : ws.length = cs.length) : (Cw.fw ws cs).length = ws.length := by unfold Cw.fw; simp; omega
theorem Cw.free_len {ws : List Int} {cs : List Bool} (h : ws.length = cs.length) : (Cw.free ws cs).length = ws.length := by
  unfold Cw.free; split
  · unfold Cw.ones; simp; omega
  · exact Cw.fw_len h
theorem Cw.step_len {L : Int} {ws : List Int} {cs : List Bool} (h : ws.length = cs.length) : (Cw.step L ws cs).length = ws.length := by
  have h1 := Cw.cut_len L ws
  have h2 := Cw.free_len (ws := Cw.cut L ws) (cs := Cw.caps L ws cs) (by rw [Cw.cut_len, Cw.caps_len h])
  unfold Cw.step
  rw [List.length_zipWith, Pr.out_len, h2, h1]; omega
/-- A round keeps the sum. -/
theorem Cw.step_sum {L : Int} {ws : List Int} {cs : List Bool} (h : ws.length = cs.length) (ok : Pr.Ok (Cw.above L ws) (Cw.free (Cw.cut L ws) (Cw.caps L ws cs))) : (Cw.step L ws cs).sum = ws.sum := by
  have h1 := Cw.cut_len L ws
  have h2 := Cw.free_len (ws := Cw.cut L ws) (cs := Cw.caps L ws cs) (by rw [Cw.cut_len, Cw.caps_len h])
  unfold Cw.step
  rw [Cw.zip_sum _ _ (by rw [Pr.out_len, h2]), Pr.out_sum ok]
  exact Cw.cut_sum L ws
theorem Cw.above_nn (L : Int) : ∀ ws : List Int, 0 ≤ Cw.above L ws
  | [] => Int.le_refl _
  | w :: ws => by
    have h := Cw.above_nn L ws
    unfold Cw.above at *
    rw [List.map_cons, List.sum_cons]; omega
theorem Cw.above_pos {L : Int} : ∀ {ws : List Int} {x : Int}, x ∈ ws → L < x → 0 < Cw.above L ws
  | w :: ws, x, hx, hL => by
    have h := Cw.above_nn L ws
    unfold Cw.above at *
    rw [List.map_cons, List.sum_cons]
    rcases List.mem_cons.1 hx with rfl | hx
    · omega
    · have := Cw.above_pos hx hL
      unfold Cw.above at this
      omega
end Go.Proofs.Ytgkldgljebhcgaa
