/- Adjusted days: mathematics and walks. -/
import Derived.Test.YtcmmlgpaijfkeaaDoorHolX
import Derived.Test.YtcmmlgpaijfkeaaDoorHolD
namespace Go.Proofs.YtcmmlgpaijfkeaaDoor
open Go.RowKit
/-- Two days of one month of one year; the second one may be none. -/
noncomputable def smB (a b : Int) : Bool := decide (0 ≤ b ∧ Cal.Y a = Cal.Y b ∧ Cal.M a = Cal.M b)
theorem month_near {n m : Int} (n0 : 0 ≤ n) (n1 : n ≤ m) (m1 : m ≤ 36524) (hd : m < n + 28) (hM : Cal.M n = Cal.M m) : Cal.Y n = Cal.Y m := by
  have hn := Cal.isDate n0 (by omega)
  have hm := Cal.isDate (n := m) (by omega) m1
  rcases Int.lt_trichotomy (Cal.Y n) (Cal.Y m) with h | h | h
  · exfalso
    have y1 := Cal.ys_mono (show Cal.Y n + 1 ≤ Cal.Y m by omega)
    have y2 := Cal.ys_succ (Cal.Y n)
    have l0 := Cal.lp_01 (Cal.Y n)
    have l1 := Cal.lp_01 (Cal.Y m)
    have s1 := Cal.ms_succ (Cal.Y n) hn.m1 hn.m2
    have d1 := Cal.dm_bd (Cal.Y n) (Cal.M n)
    have e1 := hn.d2
    have e2 := hm.d1
    rw [← hM] at e2
    have f1 : Cal.ms (Cal.Y n) (Cal.M n) ≤ Cal.ms (Cal.Y m) (Cal.M n) + 1 := by unfold Cal.ms; split <;> omega
    have := hn.y1
    omega
  · exact h
  · exfalso
    have y1 := Cal.ys_mono (show Cal.Y m + 1 ≤ Cal.Y n by omega)
    have := hm.y2; have := hn.y1; omega
noncomputable def monV (xs : List Int) (n : Int) : Int := if smB n (Biz.up xs n) = true then Biz.up xs n else Biz.dn xs n
noncomputable def adjV (xs : List Int) (n r : Int) : Int :=
  if Biz.holB xs = true ∧ btw n 0 36524 = true then (if r = 0 then n else if r = 1 then Biz.up xs n else if r = 2 then Biz.dn xs n else if r = 3 then monV xs n else -1) else -1
theorem adjV_f {xs : List Int} {n r : Int} (a : Biz.holB xs = false ∨ btw n 0 36524 = false) : adjV xs n r = -1 := by
  unfold adjV; rw [if_neg]; rintro ⟨p, q⟩; rcases a with h | h <;> simp_all
theorem adjV_0 {xs : List Int} {n : Int} (a : Biz.holB xs = true) (b : btw n 0 36524 = true) : adjV xs n 0 = n := by unfold adjV; rw [if_pos ⟨a, b⟩]; rfl
theorem adjV_1 {xs : List Int} {n : Int} (a : Biz.holB xs = true) (b : btw n 0 36524 = true) : adjV xs n 1 = Biz.up xs n := by unfold adjV; rw [if_pos ⟨a, b⟩]; rfl
theorem adjV_2 {xs : List Int} {n : Int} (a : Biz.holB xs = true) (b : btw n 0 36524 = true) : adjV xs n 2 = Biz.dn xs n := by unfold adjV; rw [if_pos ⟨a, b⟩]; rfl
theorem adjV_3 {xs : List Int} {n : Int} (a : Biz.holB xs = true) (b : btw n 0 36524 = true) : adjV xs n 3 = monV xs n := by unfold adjV; rw [if_pos ⟨a, b⟩]; rfl
theorem adjV_o {xs : List Int} {n r : Int} (h : r < 0 ∨ 3 < r) : adjV xs n r = -1 := by
  unfold adjV; split
  · rw [if_neg (by omega), if_neg (by omega), if_neg (by omega), if_neg (by omega)]
  · rfl
set_option maxHeartbeats 800000 in
theorem sameMonth_any (a b : Int) (w : World) (hT : Tab w) (a0 : 0 ≤ a) (a1 : a ≤ 36524) (b0 : -1 ≤ b) (b1 : b ≤ 36524) :
    Calls Tryd.prog 40 #[.int .i64 a, .int .i64 b] w fun e w' => e = .returned (.bool (smB a b)) ∧ Below w.heap.size w w' := by
  have HT := Lib.hid hT; clear hT
  have ha : dayB a = true := btw_t a0 a1
  have HA := Lib.hid ha; clear ha
  by_cases hb : b < 0
  · have hb' : dayB b = false := btw_f (.inl hb)
    have HB := Lib.hid hb'; clear hb'
    have E := Lib.hid (show smB a b = false by unfold smB; simp; omega)
    go_enter Tryd.func40, Tryd.ntmps40
    go_wp2_with fail
    refine (dateOf_yes _ _ HT.out HA.out).mono ?_
    rintro e w1 ⟨rfl, hb1⟩
    have hs1 := hb1.size
    go_wp2_with fail
    refine (dateOf_no _ _ HB.out).mono ?_
    rintro e w2 ⟨rfl, hb2⟩
    have hs2 := hb2.size
    simp at hs2
    go_wp2_with fail
    go_ret
    exact ⟨ret_bool E.out.symm, (((hb1.alloc hs1 _).trans (hb2.mono (by simp; omega))).alloc (by omega) _)⟩
  · have hb' : dayB b = true := btw_t (by omega) b1
    have HB := Lib.hid hb'; clear hb'
    have E : smB a b = (decide (Cal.Y a = Cal.Y b) && decide (Cal.M a = Cal.M b)) := by unfold smB; simp; omega
    have E1 : (decide (Cal.Y a = Cal.Y b)) = (Cal.Y a == Cal.Y b) := by simp [BEq.beq]
    have E2 : (decide (Cal.M a = Cal.M b)) = (Cal.M a == Cal.M b) := by simp [BEq.beq]
    rw [E1, E2] at E
    clear E1 E2
    have HE := Lib.hid E; clear E
    cases q1 : (Cal.Y a == Cal.Y b) <;> cases q2 : (Cal.M a == Cal.M b)
    all_goals
      have HQ1 := Lib.hid q1
      have HQ2 := Lib.hid q2
      go_enter Tryd.func40, Tryd.ntmps40
      go_wp2_with fail
      refine (dateOf_yes _ _ HT.out HA.out).mono ?_
      rintro e w1 ⟨rfl, hb1⟩
      have hs1 := hb1.size
      have HT1 := Lib.hid ((HT.out.below hb1 HT.out.pos).alloc (.cells #[.int .i64 (Cal.Y a), .int .i64 (Cal.M a), .int .i64 (Cal.D a)] 30))
      go_wp2_with fail
      refine (dateOf_yes _ _ HT1.out HB.out).mono ?_
      rintro e w2 ⟨rfl, hb2⟩
      have hb3 : Below (w1.heap.size + 1) (w1.alloc (.cells #[.int .i64 (Cal.Y a), .int .i64 (Cal.M a), .int .i64 (Cal.D a)] 30)) w2 := by simpa using hb2
      obtain ⟨⟨x0, x1, x2⟩, _, hsx⟩ := new3 hb3
      have z0 : (w2.alloc (.cells #[.int .i64 (Cal.Y b), .int .i64 (Cal.M b), .int .i64 (Cal.D b)] 30)).cell? ⟨w1.heap.size, 0, none⟩ = some (.int .i64 (Cal.Y a)) := by
        rw [World.cell?_of_block (w := w2) (a := ⟨w1.heap.size, 0, none⟩) (Below.heap_alloc _ _ _ (by show w1.heap.size < _; omega))]; exact x0
      have z1 : (w2.alloc (.cells #[.int .i64 (Cal.Y b), .int .i64 (Cal.M b), .int .i64 (Cal.D b)] 30)).cell? ⟨w1.heap.size, 1, none⟩ = some (.int .i64 (Cal.M a)) := by
        rw [World.cell?_of_block (w := w2) (a := ⟨w1.heap.size, 1, none⟩) (Below.heap_alloc _ _ _ (by show w1.heap.size < _; omega))]; exact x1
      clear x0 x1 x2
      go_wp2_with fail
      go_ret
      exact ⟨ret_bool (by rw [HE.out, HQ1.out, HQ2.out]; rfl), (((hb1.alloc hs1 _).trans (hb3.mono (by omega))).alloc (by omega) _)⟩
theorem up_bd2 (xs : List Int) {n : Int} (h0 : 0 ≤ n) : -1 ≤ Biz.up xs n ∧ Biz.up xs n ≤ 36524 := by
  rcases Biz.up_bd xs h0 with e | ⟨a, b, _⟩ <;> omega
set_option maxHeartbeats 400000 in
theorem seekMonth_any (w : World) (b m : Nat) (xs : List Int) (n : Int) (h : DaySet w b m xs) (hT : Tab w) (n0 : 0 ≤ n) (n1 : n ≤ 36524) :
    Calls Tryd.prog 27 #[.map (some b), .int .i64 n] w fun e w' => e = .returned (.int .i64 (monV xs n)) ∧ Below w.heap.size w w' := by
  have H := Lib.hid h; clear h
  have HT := Lib.hid hT; clear hT
  obtain ⟨u0, u1⟩ := up_bd2 xs n0
  cases hs : smB n (Biz.up xs n) with
  | true =>
    have E := Lib.hid (show monV xs n = Biz.up xs n by unfold monV; rw [if_pos hs])
    go_enter Tryd.func27, Tryd.ntmps27
    go_wp2_with fail
    refine (iUp_any _ _ _ _ _ H.out n0 (by omega)).mono ?_
    rintro e w' ⟨rfl, rfl⟩
    go_wp2_with fail
    refine (sameMonth_any _ _ _ HT.out n0 n1 u0 u1).mono ?_
    rintro e w1 ⟨rfl, hb1⟩
    go_wp2_with fail
    go_ret
    exact ⟨ret_int E.out.symm, hb1⟩
  | false =>
    have E := Lib.hid (show monV xs n = Biz.dn xs n by unfold monV; rw [if_neg (by rw [hs]; decide)])
    go_enter Tryd.func27, Tryd.ntmps27
    go_wp2_with fail
    refine (iUp_any _ _ _ _ _ H.out n0 (by omega)).mono ?_
    rintro e w' ⟨rfl, rfl⟩
    go_wp2_with fail
    refine (sameMonth_any _ _ _ HT.out n0 n1 u0 u1).mono ?_
    rintro e w1 ⟨rfl, hb1⟩
    go_wp2_with fail
    refine (iDn_any _ _ _ _ _ (H.out.below hb1 H.out.lt) (by omega) n1).mono ?_
    rintro e w' ⟨rfl, rfl⟩
    go_wp2_with fail
    go_ret
    exact ⟨ret_int E.out.symm, hb1⟩
set_option maxHeartbeats 800000 in
theorem iAdj_any (w : World) (B : Nat) (a : Option Addr) (cap : Nat) (xs : List Int) (n r : Int) (h : Ints w B a xs) (hT : Tab w) (hB : B ≤ w.heap.size) (hl : xs.length ≤ 1048576) :
    Calls Tryd.prog 9 #[.slice a xs.length cap, .int .i64 n, .int .i64 r] w fun e w' => e = .returned (.int .i64 (adjV xs n r)) ∧ Below w.heap.size w w' := by
  have H := Lib.hid h; clear h
  have HT := Lib.hid hT; clear hT
  cases hv : Biz.holB xs with
  | false =>
    have E := Lib.hid (adjV_f (n := n) (r := r) (.inl hv))
    have HV := Lib.hid hv; clear hv
    go_enter Tryd.func9, Tryd.ntmps9
    go_wp2_with fail
    refine (hol_no _ _ _ _ _ H.out hB hl HV.out).mono ?_
    rintro e w1 ⟨rfl, hb1⟩
    go_wp2_with fail
    go_ret
    exact ⟨ret_int E.out.symm, hb1⟩
  | true =>
    cases hb : btw n 0 36524 with
    | false =>
      have E := Lib.hid (adjV_f (xs := xs) (r := r) (.inr hb))
      have HV := Lib.hid hv; clear hv
      go_enter Tryd.func9, Tryd.ntmps9
      go_wp2_with fail
      refine (hol_yes _ _ _ _ _ H.out hB hl HV.out).mono ?_
      rintro e w1 ⟨b, k, rfl, hs, hb1⟩
      have HS := Lib.hid hs; clear hs
      go_wp2_with (go_at_call 25; refine (vday_any _ _).mono ?_; rintro e w' ⟨rfl, rfl⟩)
      go_ret
      exact ⟨ret_int E.out.symm, hb1⟩
    | true =>
      obtain ⟨n0, n1⟩ := btw_iff.1 hb
      by_cases c0 : r = 0
      · subst c0
        have E := Lib.hid (adjV_0 hv hb)
        have HV := Lib.hid hv; clear hv
        go_enter Tryd.func9, Tryd.ntmps9
        go_wp2_with fail
        refine (hol_yes _ _ _ _ _ H.out hB hl HV.out).mono ?_
        rintro e w1 ⟨b, k, rfl, hs, hb1⟩
        have HS := Lib.hid hs; clear hs
        go_wp2_with (go_at_call 25; refine (vday_any _ _).mono ?_; rintro e w' ⟨rfl, rfl⟩)
        go_ret
        exact ⟨ret_int E.out.symm, hb1⟩
      · by_cases c1 : r = 1
        · subst c1
          have E := Lib.hid (adjV_1 hv hb)
          have HV := Lib.hid hv; clear hv
          go_enter Tryd.func9, Tryd.ntmps9
          go_wp2_with fail
          refine (hol_yes _ _ _ _ _ H.out hB hl HV.out).mono ?_
          rintro e w1 ⟨b, k, rfl, hs, hb1⟩
          have HS := Lib.hid hs; clear hs
          go_wp2_with (first | (go_at_call 25; refine (vday_any _ _).mono ?_; rintro e w' ⟨rfl, rfl⟩) | (go_at_call 26; refine (iUp_any _ _ _ _ _ HS.out n0 (by omega)).mono ?_; rintro e w' ⟨rfl, rfl⟩))
          go_ret
          exact ⟨ret_int E.out.symm, hb1⟩
        · by_cases c2 : r = 2
          · subst c2
            have E := Lib.hid (adjV_2 hv hb)
            have HV := Lib.hid hv; clear hv
            go_enter Tryd.func9, Tryd.ntmps9
            go_wp2_with fail
            refine (hol_yes _ _ _ _ _ H.out hB hl HV.out).mono ?_
            rintro e w1 ⟨b, k, rfl, hs, hb1⟩
            have HS := Lib.hid hs; clear hs
            go_wp2_with (first | (go_at_call 25; refine (vday_any _ _).mono ?_; rintro e w' ⟨rfl, rfl⟩) | (go_at_call 26; refine (iDn_any _ _ _ _ _ HS.out (by omega) n1).mono ?_; rintro e w' ⟨rfl, rfl⟩))
            go_ret
            exact ⟨ret_int E.out.symm, hb1⟩
          · by_cases c3 : r = 3
            · subst c3
              have E := Lib.hid (adjV_3 hv hb)
              have HV := Lib.hid hv; clear hv
              go_enter Tryd.func9, Tryd.ntmps9
              go_wp2_with fail
              refine (hol_yes _ _ _ _ _ H.out hB hl HV.out).mono ?_
              rintro e w1 ⟨b, k, rfl, hs, hb1⟩
              have HS := Lib.hid hs; clear hs
              have HT1 := Lib.hid (HT.out.below hb1 HT.out.pos)
              have hs1 := hb1.size
              go_wp2_with (go_at_call 25; refine (vday_any _ _).mono ?_; rintro e w' ⟨rfl, rfl⟩)
              refine (seekMonth_any _ _ _ _ _ HS.out HT1.out n0 n1).mono ?_
              rintro e w2 ⟨rfl, hb2⟩
              go_wp2_with fail
              go_ret
              exact ⟨ret_int E.out.symm, hb1.trans (hb2.mono hs1)⟩
            · have E := Lib.hid (adjV_o (xs := xs) (n := n) (r := r) (by omega))
              have e0 : (r == 0) = false := by simp [c0]
              have e1 : (r == 1) = false := by simp [c1]
              have e2 : (r == 2) = false := by simp [c2]
              have e3 : (r == 3) = false := by simp [c3]
              have HV := Lib.hid hv; clear hv
              go_enter Tryd.func9, Tryd.ntmps9
              go_wp2_with fail
              refine (hol_yes _ _ _ _ _ H.out hB hl HV.out).mono ?_
              rintro e w1 ⟨b, k, rfl, hs, hb1⟩
              have HS := Lib.hid hs; clear hs
              go_wp2_with (go_at_call 25; refine (vday_any _ _).mono ?_; rintro e w' ⟨rfl, rfl⟩)
              go_ret
              exact ⟨ret_int E.out.symm, hb1⟩
end Go.Proofs.YtcmmlgpaijfkeaaDoor
