/- Prices read out of texts, on both sides. -/
import Derived.Test.YtapalkohfhohhaaDoorCr2
namespace Go.Proofs.YtapalkohfhohhaaDoor
open Go.RowKit
/-- Is this the text of a price? -/
def Qt.conf (v : Int) (l : List UInt8) : Bool := decide (Qt.fmt v ≠ [] ∧ Qt.fmt v = l)
theorem Qt.txt_ne (n : Nat) : Qt.txt n ≠ [] := by unfold Qt.txt; simp
theorem Qt.conf_iff {v : Int} {l : List UInt8} : Qt.conf v l = true ↔ 0 ≤ v ∧ v ≤ 19200 ∧ Qt.txt v.toNat = l := by
  unfold Qt.conf
  rw [decide_eq_true_iff]
  cases h : btw v 0 19200 with
  | false =>
    rw [Qt.fmt_no h]
    have := btw_iff_f.1 h
    simp
    omega
  | true =>
    rw [Qt.fmt_yes h]
    obtain ⟨h0, h1⟩ := btw_iff.1 h
    have := Qt.txt_ne v.toNat
    simp [h0, h1, this]
theorem Qt.val_yes {f : List UInt8 → Int} {l : List UInt8} (h : Qt.conf (f l) l = true) : Qt.val f l = f l := if_pos (Qt.conf_iff.1 h)
theorem Qt.val_no {f : List UInt8 → Int} {l : List UInt8} (h : Qt.conf (f l) l = false) : Qt.val f l = -1 := if_neg (fun q => by rw [Qt.conf_iff.2 q] at h; cases h)
set_option maxHeartbeats 400000 in
theorem sdigit_any (l : List UInt8) (i : Int) (w : World) (h0 : 0 ≤ i) :
    Calls Tryd.prog 74 #[str l, .int .i64 i] w fun e w' => e = .returned (.int .i64 (dat l i.toNat)) ∧ w = w' := by
  by_cases hl : (l.length : Int) ≤ i
  · have E := Lib.hid (dat_end (l := l) (k := i.toNat) (by omega))
    have d0 := decide_eq_true hl
    clear hl
    go_enter Tryd.func74, Tryd.ntmps74
    go_wp2_with fail
    go_ret
    exact ⟨by rw [E.out]; rfl, rfl⟩
  · have hlt : i < (l.length : Int) := by omega
    have hn : i.toNat < l.length := by omega
    have d0 := decide_eq_false hl
    obtain ⟨c, hc⟩ : ∃ c, l[i.toNat]? = some c := ⟨_, List.getElem?_eq_getElem hn⟩
    obtain ⟨z, hz⟩ : ∃ z : Int, z = (c.toNat : Int) := ⟨_, rfl⟩
    have hx : ∀ h, (((ByteArray.mk l.toArray)[i.toNat]'h).toNat : Int) = z := fun h => by
      rw [hz]
      have e1 : (ByteArray.mk l.toArray)[i.toNat]'h = l[i.toNat]'hn := rfl
      have e2 : l[i.toNat]'hn = c := by rw [List.getElem?_eq_getElem hn] at hc; exact Option.some.inj hc
      rw [e1, e2]
    have hz1 : 0 ≤ z ∧ z ≤ 255 := by have := c.toNat_lt; omega
    cases hd : dgt c with
    | false =>
      have HB := Lib.hid (show btw z 48 57 = false from btw_iff_f.2 (by have := dgt_iff_f.1 hd; omega))
      have E := Lib.hid (dat_no hc hd)
      clear hl hz hc hd
      go_enter Tryd.func74, Tryd.ntmps74
      go_wp2_with fail
      refine (inRange_any _ _ _ _).mono ?_
      rintro e w' ⟨rfl, rfl⟩
      rw [HB.out]
      go_wp2_with fail
      go_ret
      exact ⟨by rw [E.out]; rfl, rfl⟩
    | true =>
      have HB := Lib.hid (show btw z 48 57 = true from btw_iff.2 (by have := dgt_iff.1 hd; omega))
      have E := Lib.hid ((dat_at hc hd).trans (show dgv c = z - 48 by unfold dgv; omega))
      clear hl hz hc hd
      go_enter Tryd.func74, Tryd.ntmps74
      go_wp2_with fail
      refine (inRange_any _ _ _ _).mono ?_
      rintro e w' ⟨rfl, rfl⟩
      rw [HB.out]
      go_wp2_with fail
      go_ret
      exact ⟨by rw [E.out]; rfl, rfl⟩
/-- What the model reads: so that the walk does not take it apart. -/
def rel4 (l : List UInt8) (a : Int) (k : Nat) : Prop := ∃ f, rd4 l f a k = rd4 l 4 0 0 ∧ k + f = 4 ∧ 0 ≤ a ∧ a ≤ 9999 ∧ (k = 0 → a = 0) ∧ (k = 1 → a ≤ 9) ∧ (k = 2 → a ≤ 99) ∧ (k = 3 → a ≤ 999)
theorem sdigitN_any (l : List UInt8) (i : Int) (k : Nat) (w : World) (h : i = (k : Int)) :
    Calls Tryd.prog 74 #[str l, .int .i64 i] w fun e w' => e = .returned (.int .i64 (dat l k)) ∧ w = w' := by
  subst h
  exact sdigit_any l (k : Int) w (by omega)
theorem rel4.go {l : List UInt8} {a : Int} {k : Nat} (h : rel4 l a k) (hk : k < 4) (hd : 0 ≤ dat l k) : rel4 l (10 * a + dat l k) (k + 1) := by
  obtain ⟨f, h1, h2, h3, h4, h5, h6, h7, h8⟩ := h
  have hb := dat_bd l k
  rcases f with _ | f
  · omega
  · refine ⟨f, (rd4_go ⟨hk, hd⟩).symm.trans h1, by omega, by omega, ?_, by omega, ?_, ?_, ?_⟩ <;> rcases (show k = 0 ∨ k = 1 ∨ k = 2 ∨ k = 3 by omega) with rfl | rfl | rfl | rfl <;> simp at * <;> omega
theorem rel4.stop {l : List UInt8} {a : Int} {k : Nat} (h : rel4 l a k) (hk : ¬ (k < 4 ∧ 0 ≤ dat l k)) : rd4 l 4 0 0 = (a, k) := by
  obtain ⟨f, h1, h2, -⟩ := h
  rcases f with _ | f
  · exact h1.symm
  · exact h1.symm.trans (rd4_stop hk)
theorem rel4.bd {l : List UInt8} {a : Int} {k : Nat} (h : rel4 l a k) : 0 ≤ a ∧ a ≤ 9999 := by
  obtain ⟨f, -, -, h3, h4, -⟩ := h
  exact ⟨h3, h4⟩
theorem toIntQ (b : Bool) (w : World) : Calls Tryd.prog 91 #[.bool b] w fun e w' => e = .returned (.int .i64 (if b = true then 1 else 0)) ∧ w = w' := by
  cases b with
  | true =>
    go_enter Tryd.func91, Tryd.ntmps91
    go_wp2_with fail
    go_ret
    exact ⟨rfl, rfl⟩
  | false =>
    go_enter Tryd.func91, Tryd.ntmps91
    go_wp2_with fail
    go_ret
    exact ⟨rfl, rfl⟩
theorem Qt.sread_eq {l : List UInt8} {a : Int} {k : Nat} (h : rd4 l 4 0 0 = (a, k)) : Qt.sread l = if dat l (k + 1) < 0 ∨ dat l (k + 2) < 0 then -1 else 64 * a + 2 * (10 * dat l (k + 1) + dat l (k + 2)) + (if l.length = k + 4 then 1 else 0) := by
  unfold Qt.sread
  rw [h]
end Go.Proofs.YtapalkohfhohhaaDoor
