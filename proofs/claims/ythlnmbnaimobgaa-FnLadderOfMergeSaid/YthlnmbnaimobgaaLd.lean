/- Ladders: the numbers; the search of the program. -/
import Derived.Test.YthlnmbnaimobgaaEd2
import Derived.Test.YthlnmbnaimobgaaFw2
import Derived.Test.YthlnmbnaimobgaaTqXFlow
namespace Go.Proofs.Ythlnmbnaimobgaa
open Go.RowKit
/-- How many edges are not behind a day. -/
def Ld.at (es : List Int) (d : Int) : Nat := (es.takeWhile fun e => decide (e ≤ d)).length
theorem Ld.at_le (es : List Int) (d : Int) : Ld.at es d ≤ es.length := by
  unfold Ld.at
  exact (List.takeWhile_prefix _).length_le
theorem Ld.at_lo (d : Int) : ∀ (es : List Int) (i : Nat), i < Ld.at es d → es.getD i 0 ≤ d
  | [], i, h => by simp [Ld.at] at h
  | e :: es, i, h => by
    unfold Ld.at at h
    by_cases c : e ≤ d
    · rw [List.takeWhile_cons, decide_eq_true c] at h
      cases i with
      | zero => simpa using c
      | succ i =>
        have := Ld.at_lo d es i (by simpa [Ld.at] using h)
        simpa using this
    · rw [List.takeWhile_cons, decide_eq_false c] at h
      simp at h
theorem Ld.at_hi (d : Int) : ∀ (es : List Int), Ld.at es d < es.length → d < es.getD (Ld.at es d) 0
  | [], h => by simp at h
  | e :: es, h => by
    unfold Ld.at at *
    by_cases c : e ≤ d
    · rw [List.takeWhile_cons, decide_eq_true c] at h ⊢
      have := Ld.at_hi d es (by simpa [Ld.at] using h)
      simpa [Ld.at] using this
    · rw [List.takeWhile_cons, decide_eq_false c]
      simp; omega
theorem Ed.asc_lt {es : List Int} (h : Ed.asc es = true) (i : Nat) : ∀ j, i < j → j < es.length → es.getD i 0 < es.getD j 0
  | 0, h1, _ => by omega
  | j + 1, h1, h2 => by
    have s := Ed.asc_iff.1 h j h2
    rcases Nat.lt_or_ge i j with q | q
    · have := Ed.asc_lt h i j q (by omega); omega
    · obtain rfl : i = j := by omega
      exact s
/-- The search for the first edge behind a day. -/
def IsA (es : List Int) (d : Int) (k : Nat) : Prop := k ≤ es.length ∧ ∀ h, h < es.length → (d < es.getD h 0 ↔ k ≤ h)
theorem Ld.isA {es : List Int} (h : Ed.asc es = true) (d : Int) : IsA es d (Ld.at es d) := by
  refine ⟨Ld.at_le es d, fun j hj => ⟨fun q => ?_, fun q => ?_⟩⟩
  · rcases Nat.lt_or_ge j (Ld.at es d) with c | c
    · have := Ld.at_lo d es j c; omega
    · exact c
  · have hi := Ld.at_hi d es (by omega)
    rcases Nat.lt_or_ge (Ld.at es d) j with c | c
    · have := Ed.asc_lt h _ j c hj; omega
    · obtain e : Ld.at es d = j := by omega
      rw [e] at hi; exact hi
/-- The sums, payment by payment. -/
def Ld.sums (ps : List Pr) (es : List Int) : Nat → List Int
  | 0 => List.replicate (es.length + 1) 0
  | i + 1 => (Ld.sums ps es i).set (Ld.at es (ps.getD i pr0).1) ((Ld.sums ps es i).getD (Ld.at es (ps.getD i pr0).1) 0 + (ps.getD i pr0).2)
theorem Ld.len (ps : List Pr) (es : List Int) : ∀ i, (Ld.sums ps es i).length = es.length + 1
  | 0 => by simp [Ld.sums]
  | i + 1 => by unfold Ld.sums; rw [List.length_set, Ld.len ps es i]
theorem getD_set1 {xs : List Int} {i k : Nat} {x : Int} (hi : i < xs.length) : (xs.set i x).getD k 0 = if i = k then x else xs.getD k 0 := by
  rw [List.getD_eq_getElem?_getD, List.getElem?_set]
  by_cases q : i = k
  · subst q; simp [hi]
  · rw [if_neg q, if_neg q, List.getD_eq_getElem?_getD]
theorem Ld.bd {ps : List Pr} (h : Fl.ok ps = true) (es : List Int) : ∀ i : Nat, i ≤ ps.length → ∀ k, -1000000000 * (i : Int) ≤ (Ld.sums ps es i).getD k 0 ∧ (Ld.sums ps es i).getD k 0 ≤ 1000000000 * (i : Int)
  | 0, _, k => by
    unfold Ld.sums
    rw [List.getD_eq_getElem?_getD, List.getElem?_replicate]
    split <;> simp
  | i + 1, hi, k => by
    have ih := Ld.bd h es i (by omega)
    have o := (Fl.parts h).2 i (by omega)
    unfold Ld.sums
    rw [getD_set1 (by rw [Ld.len]; have := Ld.at_le es (ps.getD i pr0).1; omega)]
    split
    · have := ih (Ld.at es (ps.getD i pr0).1); omega
    · have := ih k; omega
def Ld.ok (ps : List Pr) (es : List Int) : Bool := Fl.ok ps && Ed.ok es
def Ld.val (ps : List Pr) (es : List Int) : List Int := if Ld.ok ps es = true then Ld.sums ps es ps.length else []
/-- A row of numbers that a call hands back. -/
def HandsI (xs : List Int) (w : World) (e : Ending) (w' : World) : Prop := ∃ v, e = .returned v ∧ IRow w' w.heap.size v xs ∧ Below w.heap.size w w'
set_option maxHeartbeats 400000 in
theorem cloL_any (w : World) (i n cap b off BF BE : Nat) (d t : Int) (hi : i < n) (hD : w.cell? ⟨BF, 0, none⟩ = some (.int .i64 d)) (hL : w.cell? ⟨BE, 0, none⟩ = some (.slice (some ⟨b, off, none⟩) n cap))
    (ht : w.cell? ⟨b, off + i, none⟩ = some (.int .i64 t)) :
    Calls Try.prog 80 #[.int .i64 i, .pointer (some ⟨BF, 0, none⟩), .pointer (some ⟨BE, 0, none⟩)] w fun x w' => x = .returned (.bool (decide (d < t))) ∧ ∃ q, w' = w.drewN q := by
  have hin : (i : Int) < n := by omega
  go_enter Try.func80, Try.ntmps80
  go_wp2_with fail
  go_quiet (fail)
  go_wp2_with fail
  go_ret
  exact ⟨rfl, _, rfl⟩
set_option maxRecDepth 8000 in
set_option maxHeartbeats 1000000 in
theorem searchL_any (w : World) (b off cap BF BE k : Nat) (d : Int) (es : List Int) (hm : es.length ≤ 40) (hk : IsA es d k) (hD : w.cell? ⟨BF, 0, none⟩ = some (.int .i64 d)) (hL : 0 < es.length → w.cell? ⟨BE, 0, none⟩ = some (.slice (some ⟨b, off, none⟩) es.length cap))
    (hc : ∀ i, i < es.length → w.cell? ⟨b, off + i, none⟩ = some (.int .i64 (es.getD i 0))) :
    Calls Try.prog 79 #[.int .i64 es.length, .func (.func 80) #[] #[.pointer (some ⟨BF, 0, none⟩), .pointer (some ⟨BE, 0, none⟩)]] w fun x w' => x = .returned (.int .i64 k) ∧ ∃ q, w' = w.drewN q := by
  obtain ⟨n, hn⟩ : ∃ n, n = es.length := ⟨_, rfl⟩
  obtain ⟨k1, k2⟩ := hk
  rw [← hn] at hm hL hc k1 k2 ⊢
  have HK := Lib.hid k2
  have HC := Lib.hid hc
  have HD := Lib.hid hD
  have HL := Lib.hid hL
  clear hc k2 hn hD hL
  go_enter Try.func79, Try.ntmps79
  go_wp2_with fail
  go_loopw [5, 6] (fun x y wr => ∃ i j : Nat, i ≤ k ∧ k ≤ j ∧ j ≤ n ∧ x = .int .i64 i ∧ y = .int .i64 j ∧ ∃ q, wr = w.drewN q) (fun x y _ => (intOf y - intOf x).toNat)
  case atStart => exact ⟨0, n, by omega, k1, Nat.le_refl _, rfl, rfl, 0, rfl⟩
  case round =>
    obtain ⟨i, j, hi, hj, hjn, rfl, rfl, q, rfl⟩ := hrel
    by_cases hlt : i < j
    · obtain ⟨h, eh, h1, h2⟩ : ∃ h : Nat, ((i : Int) + (j : Int)) / 2 = (h : Int) ∧ i ≤ h ∧ h < j := ⟨(i + j) / 2, by omega, by omega, by omega⟩
      have hq := HK.out h (by omega)
      have hto := HC.out h (by omega)
      have CL := Lib.hid (cloL_any (w.drewN q) h n cap b off BF BE d (es.getD h 0) (by omega) (by exact HD.out) (by exact HL.out (by omega)) (by exact hto))
      clear hto
      generalize es.getD h 0 = t at CL hq
      by_cases c : d < t
      · have hkh := hq.1 c
        have CL2 := CL.out
        rw [decide_eq_true c] at CL2
        have CL3 := Lib.hid CL2
        clear CL2 CL c hq
        go_wp2_with fail
        refine CL3.out.mono ?_
        rintro x w1 ⟨rfl, q2, rfl⟩
        go_wp2_with fail
        go_roundw
        case rel => exact ⟨i, h, hi, hkh, by omega, rfl, rfl, ⟨_, rfl⟩⟩
        case measure => simp [intOf]; omega
      · have hkh : h < k := by
          rcases Nat.lt_or_ge h k with z | z
          · exact z
          · exact absurd (hq.2 z) c
        have CL2 := CL.out
        rw [decide_eq_false c] at CL2
        have CL3 := Lib.hid CL2
        clear CL2 CL c hq
        go_wp2_with fail
        refine CL3.out.mono ?_
        rintro x w1 ⟨rfl, q2, rfl⟩
        go_wp2_with fail
        go_roundw
        case rel => exact ⟨h + 1, j, hkh, hj, hjn, by go_num, rfl, ⟨_, rfl⟩⟩
        case measure => simp [intOf]; omega
    · obtain rfl : i = k := by omega
      go_wp2_with fail
      go_ret
      exact ⟨rfl, _, rfl⟩
end Go.Proofs.Ythlnmbnaimobgaa
