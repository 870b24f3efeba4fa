/- The laws of business days. -/
import Derived.Test.YtdmamojidefdaaaHolD
namespace Go.Proofs.Ytdmamojidefdaaa
open Go.RowKit
theorem sAddB_b (w : World) (B : Nat) (a : Option Addr) (cap : Nat) (xs : List Int) (n m : Int) (h : Ints w B a xs) (hl : xs.length ≤ 1048576) :
    Calls Try.prog 13 #[.slice a xs.length cap, .int .i64 n, .int .i64 m] w fun e w' => e = .returned (.int .i64 (addBV xs n m)) ∧ Below w.heap.size w w' :=
  (sAddB_any w B a cap xs n m h hl).mono fun _ _ ⟨he, m, hm⟩ => ⟨he, by rw [hm]; exact below_drewN' (Below.refl _ _) m⟩
theorem cntV_parts {xs : List Int} {x y : Int} (h : ¬ cntV xs x y < 0) : Biz.holB xs = true ∧ Span x y ∧ cntV xs x y = Biz.cnt xs x (y - x).toNat := by
  cases h1 : Biz.holB xs with
  | false => exfalso; rw [cntV_f (.inl h1)] at h; omega
  | true =>
    cases h2 : spanB x y with
    | false => exfalso; rw [cntV_f (.inr h2)] at h; omega
    | true => exact ⟨rfl, spanB_iff.1 h2, cntV_t h1 h2⟩
theorem addBV_parts {xs : List Int} {n m : Int} (h : ¬ addBV xs n m < 0) : Biz.holB xs = true ∧ (0 ≤ n ∧ n ≤ 36524) ∧ (0 ≤ m ∧ m ≤ 30) ∧ addBV xs n m = Biz.add xs n m.toNat := by
  cases h1 : Biz.holB xs with
  | false => exfalso; rw [addBV_f (.inl h1)] at h; omega
  | true =>
    cases h2 : btw n 0 36524 with
    | false => exfalso; rw [addBV_f (.inr (.inl h2))] at h; omega
    | true =>
      cases h3 : btw m 0 30 with
      | false => exfalso; rw [addBV_f (.inr (.inr h3))] at h; omega
      | true => exact ⟨rfl, btw_iff.1 h2, btw_iff.1 h3, addBV_t h1 h2 h3⟩
theorem cntV_val {xs : List Int} {x y : Int} (h1 : Biz.holB xs = true) (h2 : Span x y) : cntV xs x y = Biz.cnt xs x (y - x).toNat := cntV_t h1 (spanB_iff.2 h2)
theorem cntV_sum {xs : List Int} {x y : Int} (h : ¬ cntV xs x y < 0) :
    (0 ≤ x ∧ x ≤ y ∧ y ≤ 36524) ∧ (0 ≤ cntV xs x ((x + y) / 2) ∧ cntV xs x ((x + y) / 2) ≤ 4000) ∧ (0 ≤ cntV xs ((x + y) / 2) y ∧ cntV xs ((x + y) / 2) y ≤ 4000) ∧
    cntV xs x ((x + y) / 2) + cntV xs ((x + y) / 2) y = cntV xs x y ∧ cntV xs x y ≤ y - x := by
  obtain ⟨h1, h2, h3⟩ := cntV_parts h
  obtain ⟨a, b, c, d⟩ := h2
  have m0 : x ≤ (x + y) / 2 := by omega
  have m1 : (x + y) / 2 ≤ y := by omega
  generalize (x + y) / 2 = mid at m0 m1
  obtain ⟨j, rfl⟩ : ∃ j : Nat, mid = x + j := ⟨(mid - x).toNat, by omega⟩
  obtain ⟨k, rfl⟩ : ∃ k : Nat, y = x + j + k := ⟨(y - x - j).toNat, by omega⟩
  have e1 : cntV xs x (x + j) = Biz.cnt xs x j := by rw [cntV_val h1 ⟨a, by omega, by omega, by omega⟩, show (x + (j : Int) - x).toNat = j by omega]
  have e2 : cntV xs (x + j) (x + j + k) = Biz.cnt xs (x + j) k := by rw [cntV_val h1 ⟨by omega, by omega, by omega, by omega⟩, show (x + (j : Int) + k - (x + j)).toNat = k by omega]
  have e3 : cntV xs x (x + j + k) = Biz.cnt xs x (j + k) := by rw [cntV_val h1 ⟨a, by omega, by omega, by omega⟩, show (x + (j : Int) + k - x).toNat = j + k by omega]
  rw [e1, e2, e3, Biz.cnt_add]
  have := Biz.cnt_bd xs x j
  have := Biz.cnt_bd xs (x + j) k
  omega
theorem cntV_week {xs : List Int} {x y : Int} (h : ¬ cntV xs x y < 0) (h7 : x + 7 ≤ 36524) : cntV [] x (x + 7) = 5 ∧ cntV xs x y ≤ cntV [] x y ∧ 0 ≤ cntV [] x y ∧ cntV [] x y ≤ 4000 := by
  obtain ⟨h1, h2, h3⟩ := cntV_parts h
  obtain ⟨a, b, c, d⟩ := h2
  have e1 : cntV [] x (x + 7) = 5 := by rw [cntV_val Biz.hol_nil ⟨a, by omega, by omega, by omega⟩, show (x + 7 - x).toNat = 7 by omega, Biz.cnt_week]
  have e2 : cntV [] x y = Biz.cnt [] x (y - x).toNat := cntV_val Biz.hol_nil ⟨a, b, c, d⟩
  have := Biz.cnt_mono (a := x) (fun m => Biz.biz_nil (xs := xs) (n := m)) (y - x).toNat
  have := Biz.cnt_bd [] x (y - x).toNat
  rw [e1, e2, h3]
  omega
theorem cntV_add {xs : List Int} {n m : Int} (h : ¬ addBV xs n m < 0) : cntV xs n (addBV xs n m) = m ∧ n ≤ addBV xs n m := by
  obtain ⟨h1, ⟨n0, n1⟩, ⟨m0, m1⟩, h3⟩ := addBV_parts h
  obtain ⟨k, rfl⟩ : ∃ k : Nat, m = k := ⟨m.toNat, by omega⟩
  rw [h3] at h ⊢
  rw [show ((k : Nat) : Int).toNat = k by omega] at *
  have hn := Biz.add_near n0 (Biz.holB_iff.1 h1).1 k (by omega)
  rcases Biz.add_bd xs n0 k with e | ⟨a, b, c⟩
  · omega
  · have hc := Biz.cnt_addV (xs := xs) n0 k (by omega)
    exact ⟨by rw [cntV_val h1 ⟨n0, a, b, by omega⟩]; exact hc, a⟩
theorem isBizV_more {y n : Int} {ys : List Int} (h : isBizV (y :: ys) n = true) : isBizV ys n = true ∧ isBizV [n] n = false := by
  obtain ⟨h1, ⟨a, b⟩, h3⟩ := isBizV_parts h
  exact ⟨by rw [isBizV_t (Biz.holB_iff.2 (Biz.hol_tail (Biz.holB_iff.1 h1))) (btw_t a b)]; exact Biz.biz_tail h3, by rw [isBizV_t (Biz.hol_one a b) (btw_t a b)]; exact Biz.biz_self n⟩
theorem one_ints (w : World) (n : Int) : Ints (w.alloc (.cells #[.int .i64 n] 3)) (w.alloc (.cells #[.int .i64 n] 3)).heap.size (some ⟨w.heap.size, 0, none⟩) [n] := fun _ =>
  ⟨w.heap.size, 0, rfl, by simp, fun i hi => by
    simp at hi; subst hi; simp⟩
end Go.Proofs.Ytdmamojidefdaaa
