/- Bids sorted from the smallest yield on: the insertion. -/
import Derived.Test.YtgiejiiiokdbpaaBd2
import Derived.Test.YtgiejiiiokdbpaaTqXBid
import Derived.Test.YtgiejiiiokdbpaaI1
import Derived.Test.YtgiejiiiokdbpaaSrt
import Derived.Deep.RegionHeld3
import Derived.RegionTactic
import Derived.ChangeAlike
namespace Go.Proofs.Ytgiejiiiokdbpaa
open Go.RowKit
set_option maxHeartbeats 800000 in
theorem cloB_any (p q : Pr) (w : World) : Calls Try.prog 92 #[floV p, floV q] w fun e w' => e = .returned (.int .i64 (cmpI p.1 q.1)) ∧ Below w.heap.size w w' := by
  obtain ⟨x, m⟩ := p
  obtain ⟨y, n⟩ := q
  go_enter Try.func92, Try.ntmps92
  go_wp2_with fail
  refine (compare_any _ _ _).mono ?_
  rintro e w1 ⟨rfl, rfl⟩
  go_wp2_with fail
  go_ret
  exact ⟨rfl, ((Below.refl _ _).alloc (Nat.le_refl _) _).alloc (by simp) _⟩
theorem Bs.lt_of {p q : Pr} : (cmpI p.1 q.1 < 0) = (Bs.lt p q = true) := by
  unfold Bs.lt cmpI
  simp only [decide_eq_true_eq, eq_iff_iff]
  constructor
  · intro h
    by_cases c : p.1 < q.1
    · exact c
    · rw [if_neg c] at h
      split at h <;> omega
  · intro h
    rw [if_pos h]; omega
theorem TRow2.swp {T : TypeId} {w : World} {B b cap : Nat} {xs : List Pr} (h : TRow2 T w B (.slice (some ⟨b, 0, none⟩) xs.length cap) xs) (i j : Nat) (hi : i < xs.length) (hj : j < xs.length) :
    TRow2 T ((((w.setCell ⟨b, i * 2, none⟩ (.int .i64 (xs.getD j pr0).1)).setCell ⟨b, i * 2 + 1, none⟩ (.int .i64 (xs.getD j pr0).2)).setCell ⟨b, j * 2, none⟩ (.int .i64 (xs.getD i pr0).1)).setCell ⟨b, j * 2 + 1, none⟩ (.int .i64 (xs.getD i pr0).2)) B (.slice (some ⟨b, 0, none⟩) (Bs.swp xs i j).length cap) (Bs.swp xs i j) ∧
    w.grownBy ((((w.setCell ⟨b, i * 2, none⟩ (.int .i64 (xs.getD j pr0).1)).setCell ⟨b, i * 2 + 1, none⟩ (.int .i64 (xs.getD j pr0).2)).setCell ⟨b, j * 2, none⟩ (.int .i64 (xs.getD i pr0).1)).setCell ⟨b, j * 2 + 1, none⟩ (.int .i64 (xs.getD i pr0).2)) (some b) := by
  have h1 := h.store i hi (xs.getD j pr0).1 (xs.getD j pr0).2
  have h2 := h1.1.store j (by rw [List.length_set]; exact hj) (xs.getD i pr0).1 (xs.getD i pr0).2
  exact ⟨h2.1, ⟨h2.2.os.trans h1.2.os, h2.2.tape.trans h1.2.tape, h2.2.output.trans h1.2.output, Nat.le_trans h1.2.size h2.2.size, fun k hk hne => (h2.2.block k (Nat.lt_of_lt_of_le hk h1.2.size) hne).trans (h1.2.block k hk hne)⟩⟩
theorem grownSB {a b c : World} {r : Option Nat} (h : a.grownBy b r) (k : b.grownBy c r) : a.grownBy c r :=
  ⟨k.os.trans h.os, k.tape.trans h.tape, k.output.trans h.output, Nat.le_trans h.size k.size, fun i hi hne => (k.block i (Nat.lt_of_lt_of_le hi h.size) hne).trans (h.block i hi hne)⟩
theorem grownSBb {a b c : World} {r : Option Nat} (h : a.grownBy b r) (k : Below b.heap.size b c) : a.grownBy c r :=
  ⟨k.os.trans h.os, k.tape.trans h.tape, k.output.trans h.output, Nat.le_trans h.size k.size, fun i hi hne => (k.block i (Nat.lt_of_lt_of_le hi h.size)).trans (h.block i hi hne)⟩
/-- The cells of two bids beside each other. -/
abbrev BdS (b j : Nat) (x m y n : Int) (w : World) : Prop := w.cell? ⟨b, (j + 1) * 2, none⟩ = some (.int .i64 x) ∧ w.cell? ⟨b, (j + 1) * 2 + 1, none⟩ = some (.int .i64 m) ∧ w.cell? ⟨b, j * 2, none⟩ = some (.int .i64 y) ∧ w.cell? ⟨b, j * 2 + 1, none⟩ = some (.int .i64 n)
theorem BdS.below {b j : Nat} {x m y n : Int} {w w' : World} (h : BdS b j x m y n w) (hl : b < w.heap.size) (hb : Below w.heap.size w w') : BdS b j x m y n w' :=
  ⟨(hb.cell (p := ⟨b, (j + 1) * 2, none⟩) hl).trans h.1, (hb.cell (p := ⟨b, (j + 1) * 2 + 1, none⟩) hl).trans h.2.1, (hb.cell (p := ⟨b, j * 2, none⟩) hl).trans h.2.2.1, (hb.cell (p := ⟨b, j * 2 + 1, none⟩) hl).trans h.2.2.2⟩
/-- What the sort leaves. -/
def SbPost (w : World) (B ob n oc : Nat) (ys : List Pr) (e : Ending) (w' : World) : Prop :=
  e = .returned (.tuple #[]) ∧ TRow2 42 w' B (.slice (some ⟨ob, 0, none⟩) n oc) ys ∧ w.grownBy w' (some ob)
set_option maxRecDepth 8000 in
set_option maxHeartbeats 4000000 in
theorem insB_any (w : World) (B ob oc : Nat) (xs : List Pr) (hrow : TRow2 42 w B (.slice (some ⟨ob, 0, none⟩) xs.length oc) xs) (l0 : 1 ≤ xs.length) (l1 : xs.length ≤ 1000) :
    Calls Try.prog 108 #[.slice (some ⟨ob, 0, none⟩) xs.length oc, .int .i64 0, .int .i64 xs.length, .func (.func 92) #[] #[]] w (SbPost w B ob xs.length oc (Bs.srt xs (xs.length - 1))) := by
  have HLn := Lib.hid (fun k => Bs.srt_len xs k)
  have HSS := Lib.hid (show ∀ k, Bs.srt xs (k + 1) = Bs.ins (k + 1) (Bs.srt xs k) from fun _ => rfl)
  have HR := Lib.hid (show TRow2 42 w B (.slice (some ⟨ob, 0, none⟩) xs.length oc) (Bs.srt xs 0) from hrow)
  have HCl := Lib.hid (fun p q W => cloB_any p q W)
  clear hrow
  generalize hn : xs.length = n at *
  clear hn
  go_enter Try.func108, Try.ntmps108
  go_wp2_with fail
  go_loopw [8] (fun i wr => ∃ k : Nat, k + 1 ≤ n ∧ i = .int .i64 ((k : Int) + 1) ∧ Hid (TRow2 42 wr B (.slice (some ⟨ob, 0, none⟩) n oc) (Bs.srt xs k)) ∧ Hid (w.grownBy wr (some ob))) (fun i _ => n - (intOf i).toNat)
  case atStart => exact ⟨0, by omega, by go_num, HR, Lib.hid ⟨rfl, rfl, rfl, Nat.le_refl _, fun _ _ _ => rfl⟩⟩
  case round =>
    obtain ⟨k, hkn, rfl, HF, HG⟩ := hrel
    by_cases hlt : k + 1 < n
    · have hlt1 : (k : Int) + 1 < n := by omega
      have HL0 := Lib.hid (HLn.out k)
      have HS := Lib.hid (HSS.out k)
      generalize Bs.srt xs k = zs at HF HL0 HS
      generalize hfin : Bs.srt xs (k + 1) = fin at HS
      have HFin := Lib.hid hfin; clear hfin
      have HG0 := HG
      have HF0 := HF
      go_wp2_with fail
      go_loopw [9] (fun y wr => ∃ (j : Nat) (ys : List Pr), y = .int .i64 j ∧ j ≤ k + 1 ∧ Hid (ys.length = n) ∧ Hid (TRow2 42 wr B (.slice (some ⟨ob, 0, none⟩) n oc) ys) ∧ Hid (Bs.ins j ys = fin) ∧ Hid (w.grownBy wr (some ob))) (fun y _ => (intOf y).toNat)
      case atStart => exact ⟨k + 1, zs, by go_num, Nat.le_refl _, HL0, HF0, Lib.hid HS.out.symm, HG0⟩
      case round =>
        obtain ⟨j, ys, rfl, hj, HL, HFi, HI, HGi⟩ := hrel
        cases j with
        | zero =>
          have hd : decide ((0 : Int) > 0) = false := rfl
          have HI2 := Lib.hid (show ys = fin from HI.out)
          go_wp2_with fail
          go_quiet (fail)
          rename_i nq
          go_wp2_with fail
          go_roundw
          case rel => exact ⟨k + 1, by omega, by go_num, Lib.hid (by rw [HFin.out, ← HI2.out]; exact HFi.out.drewN nq), Lib.hid (grownSBb HGi.out (belowD (Below.refl _ _) nq))⟩
          case measure => simp [intOf] <;> omega
        | succ j =>
          have hlen := HL.out
          obtain ⟨b4, cap4, e4, -, hbl4, -, hc4, hf4⟩ := HFi.out.form (by rw [hlen]; omega)
          simp only [Value.slice.injEq, Option.some.injEq, Addr.mk.injEq, and_true] at e4
          obtain ⟨rfl, -⟩ := e4
          obtain ⟨c0, c1⟩ := hc4 (j + 1) (by rw [hlen]; omega)
          obtain ⟨c2, c3⟩ := hc4 j (by rw [hlen]; omega)
          have g0 := hf4 ((j + 1) * 2)
          have g1 := hf4 ((j + 1) * 2 + 1)
          have g2 := hf4 (j * 2)
          have g3 := hf4 (j * 2 + 1)
          clear hc4 hf4
          have HSw := Lib.hid (fun W (hW : TRow2 42 W B (.slice (some ⟨ob, 0, none⟩) n oc) ys) => (show TRow2 42 W B (.slice (some ⟨ob, 0, none⟩) ys.length oc) ys by rw [hlen]; exact hW).swp (j + 1) j (by omega) (by omega))
          have HIs := Lib.hid (show (if Bs.lt (ys.getD (j + 1) pr0) (ys.getD j pr0) = true then Bs.ins j (Bs.swp ys (j + 1) j) else ys) = fin from HI.out)
          have HSl := Lib.hid (Bs.swp_len ys (j + 1) j)
          clear hlen
          have hE := Bs.lt_of (p := ys.getD (j + 1) pr0) (q := ys.getD j pr0)
          generalize ys.getD (j + 1) pr0 = p at c0 c1 HSw HIs hE
          generalize ys.getD j pr0 = q at c2 c3 HSw HIs hE
          obtain ⟨x, m⟩ := p
          obtain ⟨y, mm⟩ := q
          simp only at c0 c1 c2 c3 hE
          have HE := Lib.hid hE; clear hE
          have HC := Lib.hid (fun W => HCl.out (x, m) (y, mm) W)
          have hj0 : decide ((j : Int) + 1 > 0) = true := decide_eq_true (by omega)
          have hj1 : (j : Int) + 1 < n := by omega
          have hj2 : (j : Int) < n := by omega
          have hj3 : (0 : Int) < (j : Int) + 1 := by omega
          have hz1 : (0 : Int) ≤ (j : Int) + 1 := by omega
          have hz2 : (0 : Int) ≤ (j : Int) := by omega
          have hz3 : j + 1 < n := by omega
          have hz4 : j < n := by omega
          have W1 : IntKind.i64.wrap (j : Int) = j := IntWalk.i64_in _ (by omega)
          have W2 : IntKind.i64.wrap ((j : Int) + 1 - 1) = j := by rw [show (j : Int) + 1 - 1 = j by omega]; exact W1
          have K0 : BdS ob j x m y mm wr.drew := ⟨c0, c1, c2, c3⟩
          have hbl5 : ob < wr.drew.heap.size := hbl4
          by_cases hcl : Bs.lt (x, m) (y, mm) = true
          · have hcm : cmpI x y < 0 := by rw [HE.out]; exact hcl
            rw [if_pos hcl] at HIs
            have hcd := decide_eq_true hcm
            generalize cmpI x y = cv at HC hcm hcd
            clear hcl HE hcm
            go_wp2_with fail
            go_region_held3 (BdS ob j x m y mm) (first | with_reducible exact k1 | with_reducible exact K0 | fail "nokeep") ((go_at_call 92; (with_reducible refine (HC.out _).mono ?_); rintro e w1 ⟨rfl, hb1⟩; have k1 := BdS.below K0 hbl5 hb1))
            have HF1 := Lib.hid ((show TRow2 42 wr.drew B (.slice (some ⟨ob, 0, none⟩) n oc) ys from HFi.out).below hb1 (Nat.le_refl _))
            have HG1 := Lib.hid (grownSBb (show w.grownBy wr.drew (some ob) from ⟨HGi.out.os, HGi.out.tape, HGi.out.output, HGi.out.size, HGi.out.block⟩) hb1)
            obtain ⟨b4, cap4, e4, -, hbl6, -, -, hf4⟩ := HF1.out.form (by rw [HL.out]; omega)
            simp only [Value.slice.injEq, Option.some.injEq, Addr.mk.injEq, and_true] at e4
            obtain ⟨rfl, -⟩ := e4
            clear c0 c1 c2 c3 g0 g1 g2 g3 hb1 K0
            obtain ⟨c0, c1, c2, c3⟩ := k1
            have g0 := hf4 ((j + 1) * 2)
            have g1 := hf4 ((j + 1) * 2 + 1)
            have g2 := hf4 (j * 2)
            have g3 := hf4 (j * 2 + 1)
            clear hf4
            have HS1 := Lib.hid (fun W hW => HSw.out W hW)
            go_wp2_with fail
            go_region
            have HS2 := Lib.hid (HSw.out w1 HF1.out)
            clear HS1
            go_wp2_with fail
            refine ⟨⟨j, Bs.swp ys (j + 1) j, rfl, by omega, Lib.hid (by rw [HSl.out]; exact HL.out), ?_, Lib.hid HIs.out, Lib.hid (grownSB HG1.out ?_)⟩, by simp [intOf] <;> omega⟩
            · have h := HS2.out.1
              rw [HSl.out, HL.out] at h
              exact Lib.hid h
            · have h := HS2.out.2
              exact ⟨h.os, h.tape, h.output, h.size, h.block⟩
          · have hcm : ¬ cmpI x y < 0 := by rw [HE.out]; exact hcl
            rw [if_neg hcl] at HIs
            have hcd := decide_eq_false hcm
            generalize cmpI x y = cv at HC hcm hcd
            clear hcl HE hcm
            go_wp2_with fail
            go_region_held3 (BdS ob j x m y mm) (first | with_reducible exact k1 | with_reducible exact K0 | fail "nokeep") ((go_at_call 92; (with_reducible refine (HC.out _).mono ?_); rintro e w1 ⟨rfl, hb1⟩; have k1 := BdS.below K0 hbl5 hb1))
            have HF1 := Lib.hid ((show TRow2 42 wr.drew B (.slice (some ⟨ob, 0, none⟩) n oc) ys from HFi.out).below hb1 (Nat.le_refl _))
            have HG1 := Lib.hid (grownSBb (show w.grownBy wr.drew (some ob) from ⟨HGi.out.os, HGi.out.tape, HGi.out.output, HGi.out.size, HGi.out.block⟩) hb1)
            clear c0 c1 c2 c3 g0 g1 g2 g3 hb1 K0 k1
            go_wp2_with fail
            go_roundw
            case rel => exact ⟨k + 1, by omega, by go_num, Lib.hid (by rw [HFin.out, ← HIs.out]; exact HF1.out), HG1⟩
            case measure => simp [intOf] <;> omega
    · obtain rfl : n = k + 1 := by omega
      have hlt1 : ¬ (k : Int) + 1 < ((k + 1 : Nat) : Int) := by omega
      have hlt2 : ¬ (k : Int) + 1 < (k : Int) + 1 := by omega
      go_wp2_with fail
      go_end0
      exact ⟨rfl, by simpa using HF.out, HG.out⟩
end Go.Proofs.Ytgiejiiiokdbpaa
