/- Notes matched: one is taken out. -/
import Derived.Test.YtmamnljgkkjkcaaMnA
import Derived.Deep.RegionLaw
namespace Go.Proofs.Ytmamnljgkkjkcaa
open Go Go.RowKit
def setL : List Value → Nat → List Value → List Value
  | xs, _, [] => xs
  | xs, off, v :: vs => setL (xs.set off v) (off + 1) vs
theorem setL_is : ∀ (vs xs : List Value) (off : Nat), off + vs.length ≤ xs.length → setL xs off vs = xs.take off ++ vs ++ xs.drop (off + vs.length)
  | [], xs, off, _ => by simp [setL]
  | v :: vs, xs, off, h => by
    rw [List.length_cons] at h
    show setL (xs.set off v) (off + 1) vs = _
    rw [setL_is vs (xs.set off v) (off + 1) (by rw [List.length_set]; omega)]
    have h1 : (xs.set off v).take (off + 1) = xs.take off ++ [v] := by
      rw [List.take_add_one, List.take_set_of_le (Nat.le_refl _)]
      congr 1
      rw [List.getElem?_set_self (by omega)]; rfl
    have h2 : (xs.set off v).drop (off + 1 + vs.length) = xs.drop (off + 1 + vs.length) := List.drop_set_of_lt (by omega)
    rw [h1, h2, List.length_cons, show off + 1 + vs.length = off + (vs.length + 1) by omega]
    simp
theorem World.ownsRow.setAll {base g cap n size : Nat} {e : TypeId} : ∀ (vs : List Value) (w : World) (xs : List Value) (off : Nat), w.ownsRow base e size (.slice (some ⟨g, 0, none⟩) n cap) n xs →
    (w.setCells g off vs).ownsRow base e size (.slice (some ⟨g, 0, none⟩) n cap) n (setL xs off vs) ∧ w.grownBy (w.setCells g off vs) (some g)
  | [], w, xs, off, h => ⟨h, World.grownBy.refl _ _⟩
  | v :: vs, w, xs, off, h => by
    have h1 := World.ownsRow.stored h off v
    have h2 := World.ownsRow.setAll vs _ _ (off + 1) h1.1
    exact ⟨h2.1, h1.2.trans h2.2⟩
theorem World.ownsRow.short {w : World} {base g cap n k size : Nat} {e : TypeId} {xs : List Value} (h : w.ownsRow base e size (.slice (some ⟨g, 0, none⟩) n cap) n xs) (hk : k ≤ n) :
    w.ownsRow base e size (.slice (some ⟨g, 0, none⟩) k cap) k (xs.take (k * size)) := by
  have hle : k * size ≤ n * size := Nat.mul_le_mul_right _ hk
  rcases h.2 with ⟨h', _⟩ | ⟨g', cap', cur, h', hb, hg, hnc, hcm, hcs, htake⟩
  · simp at h'
  · simp only [Value.slice.injEq, Option.some.injEq, Addr.mk.injEq, and_true, true_and] at h'
    obtain ⟨rfl, rfl⟩ := h'
    refine ⟨by rw [List.length_take, h.1]; omega, .inr ⟨g, cap, cur, rfl, hb, hg, by omega, hcm, hcs, ?_⟩⟩
    rw [← htake, List.take_take, Nat.min_eq_left hle]
/-- One pair taken out: the rest moved to the front, what is behind cleared. -/
theorem Mn.erase_row {w : World} {B b cap : Nat} {xs : List Pr} {i : Nat} (hi : i < xs.length) (h : TRow2 124 w B (.slice (some ⟨b, 0, none⟩) xs.length cap) xs) (u v : Value) :
    TRow2 124 (((w.setCells b (i * 2) ((xs.drop (i + 1)).flatMap ac2)).setCell ⟨b, (xs.length - 1) * 2, none⟩ u).setCell ⟨b, (xs.length - 1) * 2 + 1, none⟩ v) B (.slice (some ⟨b, 0, none⟩) (xs.eraseIdx i).length cap) (xs.eraseIdx i) ∧
    w.grownBy (((w.setCells b (i * 2) ((xs.drop (i + 1)).flatMap ac2)).setCell ⟨b, (xs.length - 1) * 2, none⟩ u).setCell ⟨b, (xs.length - 1) * 2 + 1, none⟩ v) (some b) := by
  have h1 := World.ownsRow.setAll ((xs.drop (i + 1)).flatMap ac2) w _ (i * 2) h
  have h2 := World.ownsRow.stored h1.1 ((xs.length - 1) * 2) u
  have h3 := World.ownsRow.stored h2.1 ((xs.length - 1) * 2 + 1) v
  refine ⟨?_, (h1.2.trans h2.2).trans h3.2⟩
  have h4 := World.ownsRow.short h3.1 (k := xs.length - 1) (by omega)
  have hl : (xs.eraseIdx i).length = xs.length - 1 := by rw [List.length_eraseIdx_of_lt hi]
  have hfl : ∀ ys : List Pr, (ys.flatMap ac2).length = ys.length * 2 := fun ys => flat_len 2 ac2 ac2_len ys
  have e : ((((setL (xs.flatMap ac2) (i * 2) ((xs.drop (i + 1)).flatMap ac2)).set ((xs.length - 1) * 2) u).set ((xs.length - 1) * 2 + 1) v).take ((xs.length - 1) * 2)) = (xs.eraseIdx i).flatMap ac2 := by
    rw [List.take_set_of_le (by omega), List.take_set_of_le (Nat.le_refl _), setL_is _ _ _ (by rw [hfl, hfl, List.length_drop]; omega)]
    rw [List.eraseIdx_eq_take_drop_succ, List.flatMap_append]
    have e1 : (xs.flatMap ac2).take (i * 2) = (xs.take i).flatMap ac2 := by
      have : xs.flatMap ac2 = (xs.take i).flatMap ac2 ++ (xs.drop i).flatMap ac2 := by rw [← List.flatMap_append, List.take_append_drop]
      rw [this]
      exact List.take_left' (by rw [hfl, List.length_take]; omega)
    rw [e1]
    exact List.take_left' (by rw [List.length_append, hfl, hfl, List.length_take, List.length_drop]; omega)
  unfold TRow2
  rw [hl, ← e]
  exact h4
theorem zeroPu (u : World) : (zeroValue 124).run Try.prog u = .ok (.agg #[.int .i64 0, .int .i64 0]) u := by
  simp [zeroValue, go_sem, Try.t124]
theorem run_clear2 (W : World) (b o c : Nat) (ty : TypeId) (v0 v1 : Value) (h0 : W.cell? ⟨b, o, none⟩ = some v0) (h1 : W.cell? ⟨b, o + 1, none⟩ = some v1) (f0 : W.frozen? ⟨b, o, none⟩ = false) (f1 : W.frozen? ⟨b, o + 1, none⟩ = false) :
    (Builtin.clear_ #[119] ty #[.slice (some ⟨b, o, none⟩) 1 c]).run Try.prog W = .ok (.tuple #[]) ((W.setCell ⟨b, o, none⟩ (.int .i64 0)).setCell ⟨b, o + 1, none⟩ (.int .i64 0)) := by
  have hz := zeroPu W
  have hu := Try.underlying119
  unfold Builtin.clear_
  simp [go_sem, run_underlying hu, hz, Builtin.zeroCells, Result.andThen, h0, h1, f0, f1]
set_option maxRecDepth 8000 in
set_option maxHeartbeats 4000000 in
theorem delete_any (w : World) (B b cap : Nat) (xs : List Pr) (i : Nat) (hx : TRow2 124 w B (.slice (some ⟨b, 0, none⟩) xs.length cap) xs) (hi : i < xs.length) (hl : xs.length ≤ 10) :
    Calls Try.prog 96 #[.slice (some ⟨b, 0, none⟩) xs.length cap, .int .i64 i, .int .i64 (i + 1)] w fun e w' => e = .returned (.slice (some ⟨b, 0, none⟩) (xs.eraseIdx i).length cap) ∧ TRow2 124 w' B (.slice (some ⟨b, 0, none⟩) (xs.eraseIdx i).length cap) (xs.eraseIdx i) ∧ w.grownBy w' (some b) := by
  have HX := Lib.hid hx
  obtain ⟨b', c', e, -, hbl, ⟨hc1, hc2⟩, -, -⟩ := hx.form (by omega)
  simp only [Value.slice.injEq, true_and, Option.some.injEq, Addr.mk.injEq, and_true] at e
  obtain ⟨rfl, rfl⟩ := e
  have h1 : (0 : Int) ≤ i := by omega
  have h2 : (i : Int) + 1 ≤ xs.length := by omega
  have h3 : (i : Int) ≤ xs.length := by omega
  have h4 : (xs.length : Int) ≤ cap := by omega
  have h5 : ((i : Int) == (i : Int) + 1) = false := by simp only [beq_eq_false_iff_ne, ne_eq]; omega
  have W1 : IntKind.i64.wrap ((i : Int) + 1) = (i : Int) + 1 := IntWalk.i64_in _ (by omega)
  clear hx
  go_enter Try.func96, Try.ntmps96
  obtain ⟨i0, hii, hz0, hz1, hz2⟩ := infoPartsPu
  have hfl : ∀ ys : List Pr, (ys.flatMap ac2).length = ys.length * 2 := fun ys => flat_len 2 ac2 ac2_len ys
  have HSrc := Lib.hid (show ∀ j u, ((xs.drop (i + 1)).flatMap ac2)[j]? = some u → w.cell? ((⟨b, (i + 1) * 2, none⟩ : Addr).add j) = some u from fun j u hu => by
    have hj : j < ((xs.drop (i + 1)).flatMap ac2).length := (List.getElem?_eq_some_iff.1 hu).1
    rw [hfl, List.length_drop] at hj
    have hc := World.ownsRow.cellAt HX.out ((i + 1) * 2 + j) (by omega)
    have hs : xs.flatMap ac2 = (xs.take (i + 1)).flatMap ac2 ++ (xs.drop (i + 1)).flatMap ac2 := by rw [← List.flatMap_append, List.take_append_drop]
    rw [hs, List.getElem?_append_right (by rw [hfl, List.length_take]; omega), hfl, List.length_take, Nat.min_eq_left (by omega), show (i + 1) * 2 + j - (i + 1) * 2 = j by omega, hu] at hc
    have ha : (Addr.add ⟨b, (i + 1) * 2, none⟩ j : Addr) = ⟨b, (i + 1) * 2 + j, none⟩ := by unfold Addr.add; split <;> simp_all
    rw [ha]
    exact hc)
  have HSp := Lib.hid (show ∀ j, j < ((xs.drop (i + 1)).flatMap ac2).length → (w.cell? ⟨b, 0 + i * 2 + j, none⟩).isSome = true ∧ w.frozen? ⟨b, 0 + i * 2 + j, none⟩ = false from fun j hj => by
    rw [hfl, List.length_drop] at hj
    have hc := World.ownsRow.cellAt HX.out (0 + i * 2 + j) (by omega)
    refine ⟨?_, World.ownsRow.frozenAt HX.out _⟩
    rw [hc, List.getElem?_eq_getElem (by rw [hfl]; omega)]; rfl)
  have hrm : i + (xs.length - (i + 1)) ≤ cap := by omega
  have h10 : (0 : Int) ≤ (i : Int) + 1 := by omega
  have h6 : i ≤ cap := by omega
  have h7 : i + 1 ≤ cap := by omega
  have h8 : i + 1 ≤ xs.length := by omega
  by_cases hcap : i + 1 = cap
  · have hn1 : xs.length = i + 1 := by omega
    have e2 : (xs.length : Int) = (i : Int) + 1 := by omega
    have e6 : i + 1 - i = 1 := by omega
    have hdr : xs.drop (i + 1) = [] := List.drop_of_length_le (by omega)
    have HXd := Lib.hid (show TRow2 124 w.drew B (.slice (some ⟨b, 0, none⟩) xs.length cap) xs from HX.out)
    have HER := Lib.hid (Mn.erase_row hi HXd.out (.int .i64 0) (.int .i64 0))
    rw [hdr, List.flatMap_nil] at HER
    have ce0 := World.ownsRow.cellAt HXd.out (i * 2) (by omega)
    have ce1 := World.ownsRow.cellAt HXd.out (i * 2 + 1) (by omega)
    have cf0 := World.ownsRow.frozenAt HXd.out (i * 2)
    have cf1 := World.ownsRow.frozenAt HXd.out (i * 2 + 1)
    rw [List.getElem?_eq_getElem (by rw [hfl]; omega)] at ce0 ce1
    have hCl := run_clear2 (w.drew.setCells b (i * 2) []) b (i * 2) 1 0 _ _ ce0 ce1 cf0 cf1
    have h11 : (i : Int) ≤ (i : Int) + 1 := by omega
    clear ce0 ce1 cf0 cf1 HSrc HSp
    have hd0 := hcap.symm
    subst hd0
    go_wp2_with fail
    go_region_law ((refine step_append_room rfl _ _ 119 rfl 124 i0 2 Try.underlying119 hii hz1 b 0 i (i + 1) rfl ⟨b, 0, none⟩ 0 0 [] (by first | rfl | (simp [hn1]; done)) rfl (fun j u hu => by simp at hu) (fun u hu => by cases hu) (by omega) (fun j hj => by simp at hj) ?_))
    generalize w.drew.setCells b (i * 2) [] = W1 at hCl HER ⊢
    go_wp2_with fail
    go_ret
    have hle : (xs.eraseIdx i).length = i := by rw [List.length_eraseIdx_of_lt hi]; omega
    have hE := HER.out
    rw [hle, show xs.length - 1 = i by omega] at hE
    rw [hle]
    exact ⟨rfl, hE.1, ⟨hE.2.os, hE.2.tape, hE.2.output, hE.2.size, hE.2.block⟩⟩
  · have h9 : ¬ cap = i + 1 := by omega
    go_wp2_with fail
    go_region_law ((refine step_append_room rfl _ _ 119 rfl 124 i0 2 Try.underlying119 hii hz1 b 0 i cap rfl ⟨b, (i + 1) * 2, none⟩ (xs.length - (i + 1)) (cap - (i + 1)) ((xs.drop (i + 1)).flatMap ac2) (by first | rfl | (simp; done)) (by rw [hfl, List.length_drop]) HSrc.out (by intro u hu; obtain ⟨y, -, hy⟩ := List.mem_flatMap.1 hu; exact ac2_one y u hy) hrm HSp.out ?_))
    obtain ⟨n1, hn1⟩ : ∃ n1, xs.length = n1 + 1 := ⟨xs.length - 1, by omega⟩
    have e1 : i + (xs.length - (i + 1)) = n1 := by omega
    have e2 : (xs.length : Int) = (n1 : Int) + 1 := by omega
    have e3 : n1 ≤ cap := by omega
    have e4 : n1 + 1 ≤ cap := by omega
    have e5 : i + (n1 - i) = n1 := by omega
    have e6 : n1 + 1 - n1 = 1 := by omega
    have e7 : (i : Int) + ((n1 - i : Nat) : Int) = n1 := by omega
    have HXd := Lib.hid (show TRow2 124 w.drew B (.slice (some ⟨b, 0, none⟩) xs.length cap) xs from HX.out)
    have HW1 := Lib.hid (World.ownsRow.setAll ((xs.drop (i + 1)).flatMap ac2) w.drew _ (i * 2) HXd.out)
    have HER := Lib.hid (Mn.erase_row hi HXd.out (.int .i64 0) (.int .i64 0))
    have hlen2 := HW1.out.1.1
    have ce0 := World.ownsRow.cellAt HW1.out.1 (n1 * 2) (by omega)
    have ce1 := World.ownsRow.cellAt HW1.out.1 (n1 * 2 + 1) (by omega)
    have cf0 := World.ownsRow.frozenAt HW1.out.1 (n1 * 2)
    have cf1 := World.ownsRow.frozenAt HW1.out.1 (n1 * 2 + 1)
    rw [List.getElem?_eq_getElem (by rw [hlen2]; omega)] at ce0 ce1
    have hCl := run_clear2 (w.drew.setCells b (i * 2) ((xs.drop (i + 1)).flatMap ac2)) b (n1 * 2) (cap - n1) 0 _ _ ce0 ce1 cf0 cf1
    clear ce0 ce1 cf0 cf1 HW1
    simp only [hn1]
    generalize w.drew.setCells b (i * 2) ((xs.drop (i + 1)).flatMap ac2) = W1 at hCl HER ⊢
    go_wp2_with fail
    go_ret
    have hle : (xs.eraseIdx i).length = n1 := by rw [List.length_eraseIdx_of_lt hi]; omega
    have hE := HER.out
    rw [hle, show xs.length - 1 = n1 by omega] at hE
    rw [hle]
    exact ⟨rfl, hE.1, ⟨hE.2.os, hE.2.tape, hE.2.output, hE.2.size, hE.2.block⟩⟩
end Go.Proofs.Ytmamnljgkkjkcaa
