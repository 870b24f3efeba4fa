/- The exact laws of gains. -/
import Derived.Test.YtoledkecgfhdbaaMkL
import Derived.Deep.DeepCutAuto
namespace Go.Proofs.Ytoledkecgfhdbaa
open Go.RowKit
set_option maxHeartbeats 400000 in
theorem eqParts_same (q : Tri) (w : World) :
    Calls Try.prog 27 #[triV q, triV q] w fun e w' => e = .returned (.bool true) ∧ Below w.heap.size w w' := by
  obtain ⟨x, y, z⟩ := q
  have e1 := neq_self x
  have e2 := neq_self y
  have e3 := neq_self z
  go_enter Try.func27, Try.ntmps27
  go_wp2_with fail
  go_ret
  exact ⟨rfl, ((Below.refl _ _).alloc (Nat.le_refl _) _).alloc (by simp) _⟩
/-- A new block of zeros besides what is kept. -/
def Kz (w : World) (l : List (Nat × TypeId × Array Value)) (T : TypeId) (b : Nat) (W : World) : Prop := Kp w ((b, T, mkA (0, 0, 0)) :: l) W ∧ (∀ t ∈ l, t.1 ≠ b) ∧ w.heap.size ≤ b
section
variable {w W W' : World} {l : List (Nat × TypeId × Array Value)} {T : TypeId} {b : Nat}
theorem Kp.newz (k : Kp w l W) (T : TypeId) : Kz w l T W.heap.size (W.alloc (.cells (mkA (0, 0, 0)) T)) := ⟨k.new T _, fun t ht => by have := (k.2 t ht).lt; omega, k.1.size⟩
theorem Kz.below (k : Kz w l T b W) (hb : Below W.heap.size W W') : Kz w l T b W' := ⟨k.1.below hb, k.2⟩
theorem Kz.drew (k : Kz w l T b W) : Kz w l T b W.drew := ⟨k.1.drew, k.2⟩
theorem Kz.kp (k : Kz w l T b W) : Kp w l W := k.1.tail
theorem Kz.three (k : Kz w l T b W) : (W.cell? ⟨b, 0, none⟩ = some (.int .i64 0) ∧ W.cell? ⟨b, 1, none⟩ = some (.int .i64 0) ∧ W.cell? ⟨b, 2, none⟩ = some (.int .i64 0)) ∧ (W.frozen? ⟨b, 0, none⟩ = false ∧ W.frozen? ⟨b, 1, none⟩ = false ∧ W.frozen? ⟨b, 2, none⟩ = false) := k.1.first.three
theorem Kz.put (k : Kz w l T b W) (x y z : Int) : Kp w ((b, T, mkA (x, y, z)) :: l) (pM W b x y z) := k.1.putM k.2.1 k.2.2 x y z
end
/-- What a statement leaves: a new block with the parts, and the bool. -/
def LeftM (w : World) (l : List (Nat × TypeId × Array Value)) (T : TypeId) (q : Tri) (r : Bool) (s t : Value) (W : World) : Prop :=
  ∃ B : Nat, s = .pointer (some ⟨B, 0, none⟩) ∧ t = .bool r ∧ Kp w ((B, T, mkA q) :: l) W
set_option maxHeartbeats 4000000 in
theorem exGainBetween (m c a n d b x y : Int) (w : World) :
    Calls Try.prog 11 #[triV (m, c, a), triV (n, d, b), .int .i64 x, .int .i64 y] w fun e w' => e = .returned (.bool true) ∧ Below w.heap.size w w' := by
  have TA := Lib.hid (fun W => toMark_any (m, c, a) W)
  have TB := Lib.hid (fun W => toMark_any (n, d, b) W)
  have IM := Lib.hid (fun W => gain_any m c a n d b x y W)
  have SM := Lib.hid (fun W => sGain_any m c a n d b x y W)
  have K := ((Kp.refl w).new 38 (mkA (m, c, a))).new 38 (mkA (n, d, b))
  simp only [World.size_alloc] at K
  generalize hG : Gn.gain (m, c, a) (n, d, b) x y = G at *
  generalize hO : Gn.ok (m, c, a) (n, d, b) x y = O at *
  clear hG hO
  have Q1 := neq_self G
  have Q2 := bneq_self O
  go_enter Try.func11, Try.ntmps11
  go_wp2_with fail
  go_region_held3 (MkT w.heap.size m c a (w.heap.size + 1) n d b) (first | with_reducible exact k3.s1s2 | with_reducible exact k2.s1s2 | with_reducible exact k1.s1s2 | with_reducible exact K.drew.s1s2 | fail "nokeep") (first | (go_at_call 26; (with_reducible refine (TA.out _).mono ?_); rintro e u1 ⟨rfl, hb1⟩; have k1 := K.drew.below hb1) | (go_at_call 26; (with_reducible refine (TB.out _).mono ?_); rintro e u2 ⟨rfl, hb2⟩; have k2 := k1.below hb2) | (go_at_call 21; (with_reducible refine (SM.out _).mono ?_); rintro e u3 ⟨rfl, hb3⟩; have k3 := k2.below hb3))
  all_goals go_upto_region 2 with fail
  all_goals
    have K2 := k3
    clear k1 k2 k3 hb1 hb2 hb3
    go_region_held3 (MkT w.heap.size m c a (w.heap.size + 1) n d b) (first | with_reducible exact k3.s1s2 | with_reducible exact k2.s1s2 | with_reducible exact k1.s1s2 | with_reducible exact K2.drew.s1s2 | fail "nokeep") (first | (go_at_call 26; (with_reducible refine (TA.out _).mono ?_); rintro e v1 ⟨rfl, hb1⟩; have k1 := K2.drew.below hb1) | (go_at_call 26; (with_reducible refine (TB.out _).mono ?_); rintro e v2 ⟨rfl, hb2⟩; have k2 := k1.below hb2) | (go_at_call 19; (with_reducible refine (IM.out _).mono ?_); rintro e v3 ⟨rfl, hb3⟩; have k3 := k2.below hb3))
    all_goals
      go_wp2_with fail
      go_ret
      exact ⟨rfl, k3.1⟩
set_option maxHeartbeats 4000000 in
theorem exExplainGain (m c a n d b x y : Int) (w : World) :
    Calls Try.prog 10 #[triV (m, c, a), triV (n, d, b), .int .i64 x, .int .i64 y] w fun e w' => e = .returned (.bool true) ∧ Below w.heap.size w w' := by
  have TA := Lib.hid (fun W => toMark_any (m, c, a) W)
  have TB := Lib.hid (fun W => toMark_any (n, d, b) W)
  have IM := Lib.hid (fun W => explain_any m c a n d b x y W)
  have SM := Lib.hid (fun W => sExplain_any m c a n d b x y W)
  have K := ((Kp.refl w).new 38 (mkA (m, c, a))).new 38 (mkA (n, d, b))
  simp only [World.size_alloc] at K
  generalize hG : Gn.parts (m, c, a) (n, d, b) x y = G at *
  generalize hO : Gn.ok (m, c, a) (n, d, b) x y = O at *
  clear hG hO
  obtain ⟨f, g, h⟩ := G
  have Q2 := bneq_self O
  have EM := Lib.hid (fun W => eqParts_same (f, g, h) W)
  go_enter Try.func10, Try.ntmps10
  go_upto_region 1 with fail
  go_cut [9, 10] (fun s5 s6 wx => LeftM w [(w.heap.size + 1, 38, mkA (n, d, b)), (w.heap.size, 38, mkA (m, c, a))] 32 (f, g, h) O s5 s6 wx)
  case first =>
    go_region_held3 (MkT w.heap.size m c a (w.heap.size + 1) n d b) (first | with_reducible exact k3.s1s2 | with_reducible exact k2.s1s2 | with_reducible exact k1.s1s2 | with_reducible exact K.drew.s1s2 | with_reducible exact (k3.alloc _).s1s2 | with_reducible exact (k2.alloc _).s1s2 | with_reducible exact (k1.alloc _).s1s2 | with_reducible exact (K.alloc _).drew.s1s2 | with_reducible exact (K.drew.alloc _).s1s2 | with_reducible exact (z3.put _ _ _).tail.s1s2 | fail "nokeep") (first | (go_at_call 26; (with_reducible refine (TA.out _).mono ?_); rintro e u1 ⟨rfl, hb1⟩; (first | (have z1 := (K.newz 32).drew.below hb1; (try simp only [World.size_alloc] at z1); have k1 := z1.kp) | (have k1 := K.drew.below hb1))) | (go_at_call 26; (with_reducible refine (TB.out _).mono ?_); rintro e u2 ⟨rfl, hb2⟩; (first | (have z2 := z1.below hb2; have k2 := z2.kp) | (have z2 := (k1.newz 32).below hb2; have k2 := z2.kp) | (have k2 := k1.below hb2))) | (go_at_call 18; (with_reducible refine (SM.out _).mono ?_); rintro e u3 ⟨rfl, hb3⟩; (first | (have z3 := z2.below hb3; have k3 := z3.kp) | (have z3 := (k2.newz 32).below hb3; have k3 := z3.kp) | (have k3 := k2.below hb3)); (try obtain ⟨⟨i0, i1, i2⟩, j0, j1, j2⟩ := z3.three)))
    all_goals
      go_wp2_with fail
      go_meet
      first | exact ⟨_, rfl, rfl, z3.put _ _ _⟩ | exact ⟨_, rfl, rfl, k3.new _ _⟩
  case rest =>
    obtain ⟨B, rfl, rfl, hk⟩ := hcut
    clear K
    go_upto_region 2 with fail
    go_cut [11, 12] (fun s7 s8 wx => LeftM w ((B, 32, mkA (f, g, h)) :: [(w.heap.size + 1, 38, mkA (n, d, b)), (w.heap.size, 38, mkA (m, c, a))]) 32 (f, g, h) O s7 s8 wx)
    case first =>
      go_region_held3 (MkT w.heap.size m c a (w.heap.size + 1) n d b) (first | with_reducible exact k3.s2s3 | with_reducible exact k2.s2s3 | with_reducible exact k1.s2s3 | with_reducible exact hk.drew.s2s3 | with_reducible exact (k3.alloc _).s2s3 | with_reducible exact (k2.alloc _).s2s3 | with_reducible exact (k1.alloc _).s2s3 | with_reducible exact (hk.alloc _).drew.s2s3 | with_reducible exact (hk.drew.alloc _).s2s3 | with_reducible exact (z3.put _ _ _).tail.s2s3 | fail "nokeep") (first | (go_at_call 26; (with_reducible refine (TA.out _).mono ?_); rintro e v1 ⟨rfl, hb1⟩; (first | (have z1 := (hk.newz 32).drew.below hb1; (try simp only [World.size_alloc] at z1); have k1 := z1.kp) | (have k1 := hk.drew.below hb1))) | (go_at_call 26; (with_reducible refine (TB.out _).mono ?_); rintro e v2 ⟨rfl, hb2⟩; (first | (have z2 := z1.below hb2; have k2 := z2.kp) | (have z2 := (k1.newz 32).below hb2; have k2 := z2.kp) | (have k2 := k1.below hb2))) | (go_at_call 17; (with_reducible refine (IM.out _).mono ?_); rintro e v3 ⟨rfl, hb3⟩; (first | (have z3 := z2.below hb3; have k3 := z3.kp) | (have z3 := (k2.newz 32).below hb3; have k3 := z3.kp) | (have k3 := k2.below hb3)); (try obtain ⟨⟨i0, i1, i2⟩, j0, j1, j2⟩ := z3.three)))
      all_goals
        go_wp2_with fail
        go_meet
        first | exact ⟨_, rfl, rfl, z3.put _ _ _⟩ | exact ⟨_, rfl, rfl, k3.new _ _⟩
    case rest =>
      obtain ⟨B2, rfl, rfl, hk2⟩ := hcut
      clear hk
      obtain ⟨x0, x1, x2⟩ := hk2.s1
      obtain ⟨y0, y1, y2⟩ := hk2.s2
      go_wp2_with fail
      refine (EM.out _).mono ?_
      rintro e w7 ⟨rfl, hb7⟩
      have hk3 := hk2.below hb7
      clear hb7 hk2 x0 x1 x2 y0 y1 y2
      go_wp2_with fail
      go_ret
      exact ⟨rfl, hk3.1⟩
end Go.Proofs.Ytoledkecgfhdbaa
