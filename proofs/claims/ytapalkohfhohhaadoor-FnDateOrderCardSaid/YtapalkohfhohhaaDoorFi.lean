/- The model's texts of numbers. -/
import Derived.Test.YtapalkohfhohhaaDoorTx
import Derived.Test.YtapalkohfhohhaaDoorDrawB
import Derived.Test.YtapalkohfhohhaaDoorDate
import Derived.Laws.BytesArg
import Derived.Deep.RegionWith
namespace Go.Proofs.YtapalkohfhohhaaDoor
open Go.RowKit
/-- A string of these bytes. -/
abbrev str (l : List UInt8) : Value := .string ⟨l.toArray⟩
theorem str_size (l : List UInt8) : (ByteArray.mk l.toArray).size = l.length := by simp [ByteArray.size]
theorem conv1 {W : World} {b : Nat} {c : Int} (k : Blk W b 5 #[.int .u8 c]) :
    (convert 22 9 (.slice (some ⟨b, 0, none⟩) 1 1)).run Tryd.prog W = .ok (str [UInt8.ofNat c.toNat]) W := by
  rw [run_convert_bytes_arg W 22 5 Tryd.underlying22 Tryd.underlying5 b 0 1 1 [c] rfl (fun i hi => by
    obtain rfl : i = 0 := by omega
    unfold Blk at k
    simp [World.cell?, k]) 9 Tryd.underlying9]
  rfl
theorem conv2 {W : World} {b : Nat} {c d : Int} (k : Blk W b 5 #[.int .u8 c, .int .u8 d]) :
    (convert 22 9 (.slice (some ⟨b, 0, none⟩) 2 2)).run Tryd.prog W = .ok (str [UInt8.ofNat c.toNat, UInt8.ofNat d.toNat]) W := by
  rw [run_convert_bytes_arg W 22 5 Tryd.underlying22 Tryd.underlying5 b 0 2 2 [c, d] rfl (fun i hi => by
    unfold Blk at k
    rcases (show i = 0 ∨ i = 1 by omega) with rfl | rfl <;> simp [World.cell?, k]) 9 Tryd.underlying9]
  rfl
theorem add_str (W : World) {x y z : List UInt8} (hx : x.length ≤ 1000000) (hy : y.length ≤ 1000000) (hz : x ++ y = z) : (Op.stringOp .add ⟨x.toArray⟩ ⟨y.toArray⟩).run Tryd.prog W = .ok (str z) W := by
  rw [run_string_add_sum W _ _ (by rw [str_size, str_size]; omega), ByteArray.mk_append_mk, hz]
theorem dec_len (n : Nat) : (Lib.decDigits n).length ≤ n + 1 := by
  induction n using Nat.strongRecOn with
  | _ n ih =>
    by_cases h : n < 10
    · rw [Lib.decDigits_one h]; simp
    · rw [Lib.decDigits, dif_neg h]
      have := ih (n / 10) (by omega)
      simp
      omega
theorem dec_len9 {n : Nat} (h : n ≤ 1000000000) : (Lib.decDigits n).length ≤ 10 := by
  have h9 : ∀ k m, m < 10 ^ k → (Lib.decDigits m).length ≤ max k 1 := by
    intro k
    induction k with
    | zero => intro m hm; rw [Lib.decDigits_one (by omega)]; simp
    | succ k ih =>
      intro m hm
      by_cases h : m < 10
      · rw [Lib.decDigits_one h]; simp
      · rw [Lib.decDigits, dif_neg h]
        have := ih (m / 10) (by rw [Nat.pow_succ] at hm; omega)
        simp
        have : 1 ≤ k := by
          rcases k with _ | k
          · simp at hm; omega
          · omega
        omega
  have := h9 10 n (by omega)
  omega
theorem blkD {w : World} {b : Nat} {T : TypeId} {cs : Array Value} (h : Blk w b T cs) : Blk w.drew b T cs := h
theorem ch_of {n : Int} (h0 : 0 ≤ n) (h1 : n < 10) : UInt8.ofNat (48 + n).toNat = ch n.toNat := by
  unfold ch
  congr 1
  omega
set_option maxHeartbeats 1000000 in
theorem sfmt_any (k : Nat) : ∀ (n : Int) (w : World), 0 ≤ n → n ≤ 1000000000 → n.toNat ≤ k →
    Calls Tryd.prog 69 #[.int .i64 n] w fun e w' => e = .returned (str (Lib.decDigits n.toNat)) ∧ Below w.heap.size w w' := by
  induction k with
  | zero =>
    intro n w h0 h1 hk
    obtain rfl : n = 0 := by omega
    have K := Blk.new w #[.int .u8 48] 5
    have F := conv1 K
    go_enter Tryd.func69, Tryd.ntmps69
    go_wp2_with fail
    go_ret
    exact ⟨by rw [show (0 : Int).toNat = 0 from rfl, Lib.decDigits_one (by omega)]; rfl, (Below.refl _ _).alloc (Nat.le_refl _) _⟩
  | succ k ih =>
    intro n w h0 h1 hk
    by_cases hs : n < 10
    · have K := Blk.new w #[.int .u8 (48 + n)] 5
      have F := conv1 K
      rw [ch_of h0 hs] at F
      have E := Lib.hid (show [ch n.toNat] = Lib.decDigits n.toNat by rw [Lib.decDigits_one (by omega)]; rfl)
      clear ih hk
      go_enter Tryd.func69, Tryd.ntmps69
      go_wp2_with fail
      go_ret
      exact ⟨by show Ending.returned (str [ch n.toNat]) = _; rw [E.out], (Below.refl _ _).alloc (Nat.le_refl _) _⟩
    · have hs' := decide_eq_false hs
      have IH := Lib.hid (fun W => ih (n / 10) W (by omega) (by omega) (by omega))
      have E : Lib.decDigits (n / 10).toNat ++ [ch (n % 10).toNat] = Lib.decDigits n.toNat := by
        conv => rhs; rw [Lib.decDigits, dif_neg (by omega)]
        rw [show n.toNat / 10 = (n / 10).toNat by omega, show n.toNat % 10 = (n % 10).toNat by omega]
        rfl
      have L := dec_len9 (n := (n / 10).toNat) (by omega)
      have A := fun W => add_str W (x := Lib.decDigits (n / 10).toNat) (y := [ch (n % 10).toNat]) (by omega) (by simp) E
      have C := ch_of (n := n % 10) (by omega) (by omega)
      have hm0 : 0 ≤ n % 10 := by omega
      have hm1 : n % 10 < 10 := by omega
      have hq0 : 0 ≤ n / 10 := by omega
      have W1 : IntKind.i64.wrap (48 + n % 10) = 48 + n % 10 := IntWalk.i64_in _ (by omega)
      have W2 : IntKind.u8.wrap (48 + n % 10) = 48 + n % 10 := IntWalk.u8_in _ (by omega)
      have W0 : IntKind.i64.wrap (n / 10) = n / 10 := IntWalk.i64_in _ (by omega)
      have T1 : n.tdiv 10 = n / 10 := Int.tdiv_eq_ediv_of_nonneg h0
      have T2 : n.tmod 10 = n % 10 := Int.tmod_eq_emod_of_nonneg h0
      have hw : ∀ c : Int, Below w.heap.size w (w.alloc (.cells #[.int .u8 c] 5)) := fun c => (Below.refl _ _).alloc (Nat.le_refl _) _
      have K := Blk.new w #[.int .u8 (48 + n % 10)] 5
      have F := conv1 (W := (w.alloc (.cells #[.int .u8 (48 + n % 10)] 5)).drew) K
      rw [C] at F
      have HC := Lib.hid C
      have HW := Lib.hid hw
      have HK := Lib.hid K
      clear ih hk E hs C hw K
      go_enter Tryd.func69, Tryd.ntmps69
      go_wp2_with fail
      go_region_with ((go_at_call 69; (with_reducible refine (IH.out _).mono ?_); rintro e w1 ⟨rfl, hb1⟩; (have F3 := conv1 (Blk.new w1 #[.int .u8 (48 + n % 10)] 5)); (rw [HC.out] at F3); (try (have F2 := conv1 (Blk.below (blkD HK.out) hb1 (by simp)); (rw [HC.out] at F2)))))
      all_goals go_wp2_with fail
      all_goals go_ret
      all_goals first | exact ⟨rfl, ((Below.refl w.heap.size w).drew.trans hb1).alloc hb1.size _⟩ | exact ⟨rfl, (HW.out (48 + n % 10)).drew.trans (hb1.mono (by simp))⟩
end Go.Proofs.YtapalkohfhohhaaDoor
