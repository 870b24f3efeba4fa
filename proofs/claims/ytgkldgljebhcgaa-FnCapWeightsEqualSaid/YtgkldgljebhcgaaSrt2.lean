/- The insertion sort: the walk. -/
import Derived.Test.YtgkldgljebhcgaaSrt
import Derived.RegionTactic
import Derived.ChangeAlike
namespace Go.Proofs.Ytgkldgljebhcgaa
open Go.RowKit
theorem SrK.set {w : World} {q b off n cap : Nat} {rs : List Int} (h : SrK w q b off n cap rs) {ob i : Nat} (hq : q ≠ ob) (hb : b ≠ ob) (v : Value) : SrK (w.setCell ⟨ob, i, none⟩ v) q b off n cap rs := by
  have key : ∀ (p : Addr), p.block ≠ ob → (w.setCell ⟨ob, i, none⟩ v).cell? p = w.cell? p := fun p hp => World.cell?_of_block (by
    simp only [World.setCell, Array.getElem?_modify]
    rw [if_neg (fun e => hp e.symm)])
  exact ⟨(key _ hq).trans h.1, fun j hj => (key ⟨b, off + j, none⟩ hb).trans (h.2 j hj)⟩
theorem SrK.drewN {w : World} {q b off n cap : Nat} {rs : List Int} (h : SrK w q b off n cap rs) (m : Nat) : SrK (w.drewN m) q b off n cap rs := h
theorem IRow.swp {w : World} {B b cap : Nat} {xs : List Int} (h : IRow w B (.slice (some ⟨b, 0, none⟩) xs.length cap) xs) (i j : Nat) :
    IRow ((w.setCell ⟨b, i, none⟩ (.int .i64 (xs.getD j 0))).setCell ⟨b, j, none⟩ (.int .i64 (xs.getD i 0))) B (.slice (some ⟨b, 0, none⟩) (Sr.swp xs i j).length cap) (Sr.swp xs i j) ∧
    w.grownBy ((w.setCell ⟨b, i, none⟩ (.int .i64 (xs.getD j 0))).setCell ⟨b, j, none⟩ (.int .i64 (xs.getD i 0))) (some b) := by
  have h1 := h.store i (xs.getD j 0)
  have h2 := h1.1.store j (xs.getD i 0)
  exact ⟨h2.1, ⟨h2.2.os.trans h1.2.os, h2.2.tape.trans h1.2.tape, h2.2.output.trans h1.2.output, Nat.le_trans h1.2.size h2.2.size, fun k hk hne => (h2.2.block k (Nat.lt_of_lt_of_le hk h1.2.size) hne).trans (h1.2.block k hk hne)⟩⟩
theorem grownS {a b c : World} {r : Option Nat} (h : a.grownBy b r) (k : b.grownBy c r) : a.grownBy c r :=
  ⟨k.os.trans h.os, k.tape.trans h.tape, k.output.trans h.output, Nat.le_trans h.size k.size, fun i hi hne => (k.block i (Nat.lt_of_lt_of_le hi h.size) hne).trans (h.block i hi hne)⟩
theorem grownSN {a b : World} {r : Option Nat} (h : a.grownBy b r) (m : Nat) : a.grownBy (b.drewN m) r := ⟨h.os, h.tape, h.output, h.size, h.block⟩
/-- What the sort leaves. -/
def SrPost (w : World) (B ob n oc : Nat) (ys : List Int) (e : Ending) (w' : World) : Prop :=
  e = .returned (.tuple #[]) ∧ IRow w' B (.slice (some ⟨ob, 0, none⟩) n oc) ys ∧ w.grownBy w' (some ob)
set_option maxRecDepth 8000 in
set_option maxHeartbeats 4000000 in
theorem insSort_any (w : World) (B ob oc q b off cap : Nat) (rs xs : List Int) (hrow : IRow w B (.slice (some ⟨ob, 0, none⟩) xs.length oc) xs) (hk : SrK w q b off xs.length cap rs) (hq : q ≠ ob) (hb : b ≠ ob)
    (hx : ∀ x ∈ xs, 0 ≤ x ∧ x < xs.length) (l0 : 1 ≤ xs.length) (l1 : xs.length ≤ 1000) :
    Calls Try.prog 50 #[.slice (some ⟨ob, 0, none⟩) xs.length oc, .int .i64 0, .int .i64 xs.length, .func (.func 46) #[] #[.pointer (some ⟨q, 0, none⟩)]] w (SrPost w B ob xs.length oc (Sr.srt (Sr.lt rs) xs (xs.length - 1))) := by
  have HLn := Lib.hid (fun k => Sr.srt_len (Sr.lt rs) xs k)
  have HMm := Lib.hid (fun k hk => Sr.srt_mem (P := fun x => 0 ≤ x ∧ x < xs.length) (Sr.lt rs) hx k hk)
  have HSS := Lib.hid (show ∀ k, Sr.srt (Sr.lt rs) xs (k + 1) = Sr.ins (Sr.lt rs) (k + 1) (Sr.srt (Sr.lt rs) xs k) from fun _ => rfl)
  have HR := Lib.hid (show IRow w B (.slice (some ⟨ob, 0, none⟩) xs.length oc) (Sr.srt (Sr.lt rs) xs 0) from hrow)
  have HK := Lib.hid hk
  clear hrow hk hx
  generalize hn : xs.length = n at *
  clear hn
  go_enter Try.func50, Try.ntmps50
  go_wp2_with fail
  go_loopw [8] (fun i wr => ∃ k : Nat, k + 1 ≤ n ∧ i = .int .i64 ((k : Int) + 1) ∧ Hid (IRow wr B (.slice (some ⟨ob, 0, none⟩) n oc) (Sr.srt (Sr.lt rs) xs k)) ∧ Hid (SrK wr q b off n cap rs) ∧ Hid (w.grownBy wr (some ob))) (fun i _ => n - (intOf i).toNat)
  case atStart => exact ⟨0, by omega, by go_num, HR, HK, Lib.hid ⟨rfl, rfl, rfl, Nat.le_refl _, fun _ _ _ => rfl⟩⟩
  case round =>
    obtain ⟨k, hkn, rfl, HF, HKr, HG⟩ := hrel
    by_cases hlt : k + 1 < n
    · have hlt1 : (k : Int) + 1 < n := by omega
      have HM0 := Lib.hid (HMm.out k (by omega))
      have HL0 := Lib.hid (HLn.out k)
      have HS := Lib.hid (HSS.out k)
      generalize Sr.srt (Sr.lt rs) xs k = zs at HF HM0 HL0 HS
      generalize hfin : Sr.srt (Sr.lt rs) xs (k + 1) = fin at HS
      have HFin := Lib.hid hfin; clear hfin
      have HG0 := HG
      have HK0 := HKr
      have HF0 := HF
      go_wp2_with fail
      go_loopw [9] (fun y wr => ∃ (j : Nat) (ys : List Int), y = .int .i64 j ∧ j ≤ k + 1 ∧ Hid (ys.length = n) ∧ Hid (IRow wr B (.slice (some ⟨ob, 0, none⟩) n oc) ys) ∧ Hid (Sr.ins (Sr.lt rs) j ys = fin) ∧ Hid (∀ x ∈ ys, 0 ≤ x ∧ x < n) ∧ Hid (SrK wr q b off n cap rs) ∧ Hid (w.grownBy wr (some ob))) (fun y _ => (intOf y).toNat)
      case atStart => exact ⟨k + 1, zs, by go_num, Nat.le_refl _, HL0, HF0, Lib.hid HS.out.symm, HM0, HK0, HG0⟩
      case round =>
        obtain ⟨j, ys, rfl, hj, HL, HFi, HI, HM, HKi, HGi⟩ := hrel
        cases j with
        | zero =>
          have hd : decide ((0 : Int) > 0) = false := rfl
          have HI2 := Lib.hid (show ys = fin from HI.out)
          go_wp2_with fail
          go_quiet (fail)
          rename_i nq
          go_wp2_with fail
          go_roundw
          case rel => exact ⟨k + 1, by omega, by go_num, Lib.hid (by rw [HFin.out, ← HI2.out]; exact HFi.out.drewN nq), Lib.hid (HKi.out.drewN nq), Lib.hid (grownSN HGi.out nq)⟩
          case measure => simp [intOf] <;> omega
        | succ j =>
          have hlen := HL.out
          obtain ⟨b4, cap4, e4, -, hbl4, -, hc4, hf4⟩ := HFi.out.form (by rw [hlen]; omega)
          simp only [Value.slice.injEq, Option.some.injEq, Addr.mk.injEq, and_true] at e4
          obtain ⟨rfl, -⟩ := e4
          have c0 := hc4 (j + 1) (by rw [hlen]; omega)
          have c1 := hc4 j (by rw [hlen]; omega)
          have g0 := hf4 (j + 1)
          have g1 := hf4 j
          clear hc4 hf4
          have mem : ∀ i, i < n → ys.getD i 0 ∈ ys := fun i hi => by
            rw [List.getD_eq_getElem?_getD, List.getElem?_eq_getElem (by omega)]; simp
          obtain ⟨x0, x1⟩ := HM.out _ (mem (j + 1) (by omega))
          obtain ⟨y0, y1⟩ := HM.out _ (mem j (by omega))
          have HSw := Lib.hid (fun m => (show IRow (wr.drewN m) B (.slice (some ⟨ob, 0, none⟩) ys.length oc) ys by rw [hlen]; exact HFi.out.drewN m).swp (j + 1) j)
          have HMs := Lib.hid (Sr.swp_mem (P := fun x => 0 ≤ x ∧ x < n) (xs := ys) (i := j + 1) (j := j) (by omega) (by omega) HM.out)
          have HIs := Lib.hid (show (if Sr.lt rs (ys.getD (j + 1) 0) (ys.getD j 0) = true then Sr.ins (Sr.lt rs) j (Sr.swp ys (j + 1) j) else ys) = fin from HI.out)
          clear mem hlen
          obtain ⟨x, hx⟩ : ∃ x : Nat, ys.getD (j + 1) 0 = x := ⟨(ys.getD (j + 1) 0).toNat, by omega⟩
          obtain ⟨y, hy⟩ : ∃ y : Nat, ys.getD j 0 = y := ⟨(ys.getD j 0).toNat, by omega⟩
          rw [hx] at c0 x0 x1 HSw HIs
          rw [hy] at c1 y0 y1 HSw HIs
          clear hx hy
          have HC : Hid (∀ m, Calls Try.prog 46 #[.int .i64 x, .int .i64 y, .pointer (some ⟨q, 0, none⟩)] (wr.drewN m) fun e w' => e = .returned (.int .i64 (Sr.cmp rs x y)) ∧ ∃ m', w' = wr.drewN m') := Lib.hid (fun m => (cloG_any (wr.drewN m) q b off n cap rs x y (by omega) (by omega) (HKi.out.drewN m)).mono (fun _ _ ⟨he, q', hq'⟩ => ⟨he, m + q', by rw [hq', World.drewN_drewN]⟩))
          have HE := Lib.hid (Sr.lt_of (rs := rs) (i := x) (k := y))
          have hj0 : decide ((j : Int) + 1 > 0) = true := decide_eq_true (by omega)
          have hj1 : (j : Int) + 1 < n := by omega
          have hj2 : (j : Int) < n := by omega
          have hj3 : (0 : Int) < (j : Int) + 1 := by omega
          by_cases hcl : Sr.lt rs x y = true
          · have hcm : Sr.cmp rs x y < 0 := by rw [HE.out]; exact hcl
            rw [if_pos hcl] at HIs
            have hcd := decide_eq_true hcm
            generalize Sr.cmp rs x y = cv at HC hcm hcd
            clear hcl HE hcm
            go_wp2_with fail
            go_quiet ((go_at_call 46; with_reducible exact HC.out _))
            rename_i nq
            go_wp2_with fail
            have W1 : IntKind.i64.wrap (j : Int) = j := IntWalk.i64_in _ (by omega)
            have hz1 : (0 : Int) ≤ (j : Int) + 1 := by omega
            have hz3 : j + 1 < n := by omega
            go_region
            go_wp2_with fail
            refine ⟨⟨j, Sr.swp ys (j + 1) j, rfl, by omega, Lib.hid (by rw [Sr.swp_len]; exact HL.out), ?_, Lib.hid HIs.out, Lib.hid HMs.out, Lib.hid (((HKi.out.drewN (nq + 1)).set hq hb _).set hq hb _), Lib.hid (grownS (grownSN HGi.out (nq + 1)) (HSw.out (nq + 1)).2)⟩, by simp [intOf] <;> omega⟩
            have h := (HSw.out (nq + 1)).1
            rw [Sr.swp_len, HL.out] at h
            exact Lib.hid h
          · have hcm : ¬ Sr.cmp rs x y < 0 := by rw [HE.out]; exact hcl
            rw [if_neg hcl] at HIs
            have hcd := decide_eq_false hcm
            generalize Sr.cmp rs x y = cv at HC hcm hcd
            clear hcl HE hcm
            go_wp2_with fail
            go_quiet ((go_at_call 46; with_reducible exact HC.out _))
            rename_i nq
            go_wp2_with fail
            go_roundw
            case rel => exact ⟨k + 1, by omega, by go_num, Lib.hid (by rw [HFin.out, ← HIs.out]; exact HFi.out.drewN nq), Lib.hid (HKi.out.drewN nq), Lib.hid (grownSN HGi.out nq)⟩
            case measure => simp [intOf] <;> omega
    · obtain rfl : n = k + 1 := by omega
      have hlt1 : ¬ (k : Int) + 1 < ((k + 1 : Nat) : Int) := by omega
      have hlt2 : ¬ (k : Int) + 1 < (k : Int) + 1 := by omega
      go_wp2_with fail
      go_end0
      exact ⟨rfl, by simpa using HF.out, HG.out⟩
end Go.Proofs.Ytgkldgljebhcgaa
