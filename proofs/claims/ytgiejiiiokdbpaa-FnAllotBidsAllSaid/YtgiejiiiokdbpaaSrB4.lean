/- The yield at which an auction stops, in the program. -/
import Derived.Test.YtgiejiiiokdbpaaSrB3
namespace Go.Proofs.Ytgiejiiiokdbpaa
open Go.RowKit
set_option maxHeartbeats 800000 in
theorem ins0_any (n : Nat) (h : n = 0) (w : World) : Calls Try.prog 108 #[.slice none 0 0, .int .i64 0, .int .i64 n, .func (.func 92) #[] #[]] w fun e w' => e = .returned (.tuple #[]) ∧ Below w.heap.size w w' := by
  have h1 : ¬ (1 : Int) < n := by omega
  clear h
  go_enter Try.func108, Try.ntmps108
  go_wp2_with fail
  refine wp_loop_rounds 1 ?_
  rw [rounds_succ]
  go_wp2_with fail
  go_end0
  exact ⟨rfl, Below.refl _ _⟩
/-- A call that leaves nothing. -/
def Leaves (w : World) (e : Ending) (w' : World) : Prop := e = .returned (.tuple #[]) ∧ Below w.heap.size w w'
set_option maxHeartbeats 800000 in
theorem pdq0_any (n : Nat) (h : n = 0) (lim : Int) (w : World) : Calls Try.prog 105 #[.slice none 0 0, .int .i64 0, .int .i64 n, .int .i64 lim, .func (.func 92) #[] #[]] w (Leaves w) := by
  have HI := Lib.hid (ins0_any n h w)
  have h1 : (n : Int) ≤ 12 := by omega
  clear h
  go_enter Try.func105, Try.ntmps105
  go_wp2_with fail
  refine wp_loop_rounds 1 ?_
  rw [rounds_succ]
  go_wp2_with fail
  refine HI.out.mono ?_
  rintro e w1 ⟨rfl, hb⟩
  go_wp2_with fail
  go_end0
  exact ⟨rfl, hb⟩
set_option maxHeartbeats 800000 in
theorem sort0_any (w : World) : Calls Try.prog 100 #[.slice none 0 0, .func (.func 92) #[] #[]] w fun e w' => e = .returned (.tuple #[]) ∧ Below w.heap.size w w' := by
  have HL := Lib.hid (len_any 0 (by omega) w)
  go_enter Try.func100, Try.ntmps100
  go_wp2_with fail
  refine HL.out.mono ?_
  rintro e w1 ⟨⟨k, rfl⟩, rfl⟩
  go_wp2_with fail
  refine (pdq0_any 0 rfl k _).mono ?_
  rintro e w1 ⟨rfl, hb⟩
  go_wp2_with fail
  go_end0
  exact ⟨rfl, hb⟩
/-- The bids from the smallest yield on, in memory of the call's own. -/
def Best (ps : List Pr) (w : World) (x : Ending) (w' : World) : Prop := ∃ v, x = .returned v ∧ TRow2 42 w' w.heap.size v (Bs.all ps) ∧ Below w.heap.size w w'
set_option maxHeartbeats 2000000 in
theorem sorted_any (a : Option Addr) (cap : Nat) (ps : List Pr) (q : Nat) (w : World) (hq : q < w.heap.size) (hl : ps.length ≤ 8) (hv : R2o w (.slice a ps.length cap) ps)
    (cq : w.cell? ⟨q, 0, none⟩ = some (.slice a ps.length cap)) :
    Calls Try.prog 90 #[.func (.func 101) #[] #[.pointer (some ⟨q, 0, none⟩)], .func (.func 92) #[] #[]] w (Best ps w) := by
  have HC := Lib.hid (collectQ_any a cap ps q w hq hl hv cq)
  clear hv cq
  go_enter Try.func90, Try.ntmps90
  go_wp2_with fail
  refine HC.out.mono ?_
  rintro x w1 ⟨v, rfl, hrow, hnil, hb⟩
  by_cases he : ps = []
  · obtain rfl := hnil.2 he
    subst he
    have HB := Lib.hid hb
    clear hrow hnil hb
    go_wp2_with fail
    refine (sort0_any _).mono ?_
    rintro e w2 ⟨rfl, hb2⟩
    go_wp2_with fail
    go_ret
    exact ⟨_, rfl, TRow2.nil _ _ _, HB.out.trans (hb2.mono HB.out.size)⟩
  · have hl0 : 1 ≤ ps.length := by
      cases ps with
      | nil => exact absurd rfl he
      | cons => simp
    obtain ⟨b, cp, rfl, hbw, -, -, -, -⟩ := hrow.form (by omega)
    have HS := Lib.hid (sortB_any w1 w.heap.size b cp ps hrow hl0 hl)
    have HB := Lib.hid hb
    clear hrow hnil hb he
    have HO := Lib.hid (show Bs.srt ps (ps.length - 1) = Bs.all ps from rfl)
    have HLn := Lib.hid (Bs.all_len ps)
    go_wp2_with fail
    refine HS.out.mono ?_
    rw [HO.out]
    rintro e w2 ⟨rfl, hF, hg⟩
    have HF := Lib.hid hF; clear hF
    have HB2 := Lib.hid (HB.out.grown hg HB.out.size (fun j hj => by injection hj with hj; omega)); clear hg
    go_wp2_with fail
    go_ret
    exact ⟨_, rfl, HF.out, HB2.out⟩
set_option maxHeartbeats 800000 in
theorem values_any (a : Option Addr) (len cap : Nat) (w : World) : Calls Try.prog 91 #[.slice a len cap] w fun e w' => e = .returned (.func (.func 101) #[] #[.pointer (some ⟨w.heap.size, 0, none⟩)]) ∧ w' = w.alloc (.cells #[.slice a len cap] 37) := by
  go_enter Try.func91, Try.ntmps91
  go_wp2_with fail
  go_ret
  exact ⟨rfl, rfl⟩
set_option maxHeartbeats 800000 in
theorem best_any (w : World) (v : Value) (ps : List Pr) (hv : R2o w v ps) (hl : ps.length ≤ 8) :
    Calls Try.prog 82 #[v] w (Best ps w) := by
  obtain ⟨⟨a, cap, rfl⟩, -⟩ := id hv
  have hbA := (Below.refl w.heap.size w).alloc (Nat.le_refl _) (.cells #[.slice a ps.length cap] 37)
  have HS := Lib.hid (sorted_any a cap ps w.heap.size (w.alloc (.cells #[.slice a ps.length cap] 37)) (by simp) hl (hv.below hbA (Nat.le_refl _)) ((Blk.new w #[.slice a ps.length cap] 37).one0))
  have HV := Lib.hid (values_any a ps.length cap w)
  have HB := Lib.hid hbA
  clear hv hbA
  go_enter Try.func82, Try.ntmps82
  go_wp2_with fail
  refine HV.out.mono ?_
  rintro e w1 ⟨rfl, rfl⟩
  go_wp2_with fail
  refine HS.out.mono ?_
  rintro e w2 ⟨v2, rfl, hF, hb2⟩
  have HF := Lib.hid hF; clear hF
  go_wp2_with fail
  go_ret
  exact ⟨_, rfl, HF.out.lower HB.out.size, HB.out.trans (hb2.mono HB.out.size)⟩
end Go.Proofs.Ytgiejiiiokdbpaa
