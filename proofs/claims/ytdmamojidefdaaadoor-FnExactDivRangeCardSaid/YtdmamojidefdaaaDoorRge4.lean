/- The walks of the exact laws of quotients of ranges. -/
import Derived.Test.YtdmamojidefdaaaDoorRge
namespace Go.Proofs.YtdmamojidefdaaaDoor
open Go.RowKit
set_option maxHeartbeats 4000000 in
theorem exDivRange (a b c d : Int) (w : World) (ea : Addr) (hS : Sen ea w) :
    Calls Tryd.prog 5 #[rV a b, rV c d] w fun e w' => e = .returned (.bool true) ∧ Below w.heap.size w w' := by
  obtain ⟨p, q, r, hV⟩ := tvx_form (Rg.div a b c d)
  have hbb : (r != r) = false := by simp
  have SP := Lib.hid (fun W => show Calls Tryd.prog 8 #[rV a b, rV c d] W fun e w' => e = .returned (.tuple #[rV p q, .bool r]) ∧ Below W.heap.size W w' from hV ▸ sDivRange_any a b c d W)
  have IM := Lib.hid (fun W (hW : Sen ea W) => show Calls Tryd.prog 7 #[rV a b, rV c d] W fun e w' => e = .returned (.tuple #[rV p q, .bool r]) ∧ Below W.heap.size W w' from hV ▸ divRange_any ea a b c d W hW)
  have HS := Lib.hid hS
  clear hV
  have K := Lib.hid (Ks.new w a b c d 32)
  go_enter Tryd.func5, Tryd.ntmps5
  go_upto_region 1 with fail
  go_cut [5, 6] (fun s5 s6 wx => Left w [(w.heap.size, a, b), (w.heap.size + 1, c, d)] p q r s5 s6 wx)
  case first =>
    go_region_held3 (fun w' => w'.cell? ⟨w.heap.size, 0, none⟩ = some (.int .i64 a) ∧ w'.cell? ⟨w.heap.size, 1, none⟩ = some (.int .i64 b) ∧ w'.cell? ⟨w.heap.size + 1, 0, none⟩ = some (.int .i64 c) ∧ w'.cell? ⟨w.heap.size + 1, 1, none⟩ = some (.int .i64 d)) (first | exact fourOf k3 | exact fourOf (k3.alloc _) | exact fourOf k2 | exact fourOf (k2.alloc _) | exact fourOf k1 | exact fourOf (k1.alloc _) | exact fourOf K.out.drew | exact fourOf (K.out.drew.alloc _) | exact fourOf (K.out.alloc _).drew | exact fourOf ((k3.setCell (fun t ht => by (simp only [List.mem_cons, List.not_mem_nil, or_false] at ht; rcases ht with rfl | rfl <;> (simp <;> omega))) (by simp <;> omega) _).setCell (fun t ht => by (simp only [List.mem_cons, List.not_mem_nil, or_false] at ht; rcases ht with rfl | rfl <;> (simp <;> omega))) (by simp <;> omega) _))
      (first | (go_at_call 12; with_reducible refine (toRange_any a b _).mono ?_; rintro e w1 ⟨rfl, hb1⟩; obtain ⟨hc1, hf1⟩ := bcell hb1; have hs1 := hb1.size; (try simp at hs1); (try have m1 : w.heap.size + 1 + 1 < w1.heap.size := by omega); (first | (have hz1 := bx (Blk.new _ #[.int .i64 0, .int .i64 0] 24) hb1 (by simp); obtain ⟨z1, za1, zb1, zc1, zd1, ze1⟩ := hz1; (try simp at z1); (try simp at za1); (try simp at zb1); (try simp at zc1); (try simp at zd1); (try simp at ze1)) | (have hz1 := bx (blkDrew (Blk.new _ #[.int .i64 0, .int .i64 0] 24)) hb1 (by simp); obtain ⟨z1, za1, zb1, zc1, zd1, ze1⟩ := hz1; (try simp at z1); (try simp at za1); (try simp at zb1); (try simp at zc1); (try simp at zd1); (try simp at ze1)) | skip); have k1 : Ks w ([(w.heap.size, a, b), (w.heap.size + 1, c, d)]) w1 := Ks.below (by first | exact K.out.drew | exact K.out.drew.alloc _ | exact (K.out.alloc _).drew) hb1) | (go_at_call 12; with_reducible refine (toRange_any c d _).mono ?_; rintro e w2 ⟨rfl, hb2⟩; obtain ⟨hc2, hf2⟩ := bcell hb2; have hs2 := hb2.size; (try simp at hs2); (try have m2 : w.heap.size + 1 + 1 < w2.heap.size := by omega); (try have m2b : w1.heap.size < w2.heap.size := by omega); (first | (have hz2 := bx z1 hb2 (by exact ze1); obtain ⟨z2, za2, zb2, zc2, zd2, ze2⟩ := hz2) | (have hz2 := bx (Blk.new _ #[.int .i64 0, .int .i64 0] 24) hb2 (by simp); obtain ⟨z2, za2, zb2, zc2, zd2, ze2⟩ := hz2; (try simp at z2); (try simp at za2); (try simp at zb2); (try simp at zc2); (try simp at zd2); (try simp at ze2)) | (have hz2 := bx (blkDrew (Blk.new _ #[.int .i64 0, .int .i64 0] 24)) hb2 (by simp); obtain ⟨z2, za2, zb2, zc2, zd2, ze2⟩ := hz2; (try simp at z2); (try simp at za2); (try simp at zb2); (try simp at zc2); (try simp at zd2); (try simp at ze2)) | skip); have k2 : Ks w ([(w.heap.size, a, b), (w.heap.size + 1, c, d)]) w2 := Ks.below (by first | exact k1 | exact k1.alloc _) hb2) | (go_at_call 8; refine (SP.out _).mono ?_; rintro e w3 ⟨rfl, hb3⟩; obtain ⟨hc3, hf3⟩ := bcell hb3; have hs3 := hb3.size; (try simp at hs3); (try have m3 : w.heap.size + 1 + 1 < w3.heap.size := by omega); (try have m3b : w1.heap.size < w3.heap.size := by omega); (try have m3c : w2.heap.size < w3.heap.size := by omega); (first | (have hz3 := bx z2 hb3 (by exact ze2); obtain ⟨z3, za3, zb3, zc3, zd3, ze3⟩ := hz3) | (have hz3 := bx (Blk.new _ #[.int .i64 0, .int .i64 0] 24) hb3 (by simp); obtain ⟨z3, za3, zb3, zc3, zd3, ze3⟩ := hz3; (try simp at z3); (try simp at za3); (try simp at zb3); (try simp at zc3); (try simp at zd3); (try simp at ze3)) | (have hz3 := bx (blkDrew (Blk.new _ #[.int .i64 0, .int .i64 0] 24)) hb3 (by simp); obtain ⟨z3, za3, zb3, zc3, zd3, ze3⟩ := hz3; (try simp at z3); (try simp at za3); (try simp at zb3); (try simp at zc3); (try simp at zd3); (try simp at ze3)) | skip); have k3 : Ks w ([(w.heap.size, a, b), (w.heap.size + 1, c, d)]) w3 := Ks.below (by first | exact k2 | exact k2.alloc _) hb3))
    all_goals
      go_wp2_with fail
      go_meet
      refine ⟨_, rfl, rfl, Ks.add ?_ ?_ ?_ ?_⟩
      · first | exact k3.alloc _ | exact (k3.setCell (fun t ht => by (simp only [List.mem_cons, List.not_mem_nil, or_false] at ht; rcases ht with rfl | rfl <;> (simp <;> omega))) (by simp <;> omega) _).setCell (fun t ht => by (simp only [List.mem_cons, List.not_mem_nil, or_false] at ht; rcases ht with rfl | rfl <;> (simp <;> omega))) (by simp <;> omega) _
      all_goals first | (simp; done) | exact (wrote z3).1 | exact (wrote z3).2.1 | exact (wrote z3).2.2 | trace_state
  case rest =>
    obtain ⟨B, rfl, rfl, hk⟩ := hcut
    replace hk : Ks w [(w.heap.size, a, b), (w.heap.size + 1, c, d), (B, p, q)] wc := hk
    have hkl : B < wc.heap.size := (hk.2 (B, p, q) (by simp)).2.2
    have hkg : w.heap.size + 1 < wc.heap.size := (hk.2 (w.heap.size + 1, c, d) (by simp)).2.2
    go_upto_region 2 with fail
    go_cut [7, 8] (fun s7 s8 wx => Left w [(w.heap.size, a, b), (w.heap.size + 1, c, d), (B, p, q)] p q r s7 s8 wx)
    case first =>
      go_region_held3 (fun w' => w'.cell? ⟨w.heap.size, 0, none⟩ = some (.int .i64 a) ∧ w'.cell? ⟨w.heap.size, 1, none⟩ = some (.int .i64 b) ∧ w'.cell? ⟨w.heap.size + 1, 0, none⟩ = some (.int .i64 c) ∧ w'.cell? ⟨w.heap.size + 1, 1, none⟩ = some (.int .i64 d)) (first | exact fourOf k6 | exact fourOf (k6.alloc _) | exact fourOf k5 | exact fourOf (k5.alloc _) | exact fourOf k4 | exact fourOf (k4.alloc _) | exact fourOf hk.drew | exact fourOf (hk.drew.alloc _) | exact fourOf (hk.alloc _).drew | exact fourOf ((k6.setCell (fun t ht => by (simp only [List.mem_cons, List.not_mem_nil, or_false] at ht; rcases ht with rfl | rfl | rfl <;> (simp <;> omega))) (by simp <;> omega) _).setCell (fun t ht => by (simp only [List.mem_cons, List.not_mem_nil, or_false] at ht; rcases ht with rfl | rfl | rfl <;> (simp <;> omega))) (by simp <;> omega) _))
        (first | (go_at_call 12; with_reducible refine (toRange_any a b _).mono ?_; rintro e w4 ⟨rfl, hb4⟩; obtain ⟨hc4, hf4⟩ := bcell hb4; have hs4 := hb4.size; (try simp at hs4); (try have m4 : w.heap.size + 1 + 1 < w4.heap.size := by omega); (first | (have hz4 := bx (Blk.new _ #[.int .i64 0, .int .i64 0] 24) hb4 (by simp); obtain ⟨z4, za4, zb4, zc4, zd4, ze4⟩ := hz4; (try simp at z4); (try simp at za4); (try simp at zb4); (try simp at zc4); (try simp at zd4); (try simp at ze4)) | (have hz4 := bx (blkDrew (Blk.new _ #[.int .i64 0, .int .i64 0] 24)) hb4 (by simp); obtain ⟨z4, za4, zb4, zc4, zd4, ze4⟩ := hz4; (try simp at z4); (try simp at za4); (try simp at zb4); (try simp at zc4); (try simp at zd4); (try simp at ze4)) | skip); have k4 : Ks w ([(w.heap.size, a, b), (w.heap.size + 1, c, d), (B, p, q)]) w4 := Ks.below (by first | exact hk.drew | exact hk.drew.alloc _ | exact (hk.alloc _).drew) hb4) | (go_at_call 12; with_reducible refine (toRange_any c d _).mono ?_; rintro e w5 ⟨rfl, hb5⟩; obtain ⟨hc5, hf5⟩ := bcell hb5; have hs5 := hb5.size; (try simp at hs5); (try have m5 : w.heap.size + 1 + 1 < w5.heap.size := by omega); (try have m5b : w4.heap.size < w5.heap.size := by omega); (first | (have hz5 := bx z4 hb5 (by exact ze4); obtain ⟨z5, za5, zb5, zc5, zd5, ze5⟩ := hz5) | (have hz5 := bx (Blk.new _ #[.int .i64 0, .int .i64 0] 24) hb5 (by simp); obtain ⟨z5, za5, zb5, zc5, zd5, ze5⟩ := hz5; (try simp at z5); (try simp at za5); (try simp at zb5); (try simp at zc5); (try simp at zd5); (try simp at ze5)) | (have hz5 := bx (blkDrew (Blk.new _ #[.int .i64 0, .int .i64 0] 24)) hb5 (by simp); obtain ⟨z5, za5, zb5, zc5, zd5, ze5⟩ := hz5; (try simp at z5); (try simp at za5); (try simp at zb5); (try simp at zc5); (try simp at zd5); (try simp at ze5)) | skip); have k5 : Ks w ([(w.heap.size, a, b), (w.heap.size + 1, c, d), (B, p, q)]) w5 := Ks.below (by first | exact k4 | exact k4.alloc _) hb5) | (go_at_call 7; refine (IM.out _ ?_).mono ?_; (first | exact senK HS.out k5 | exact senK HS.out (k5.alloc _) | exact senK HS.out k5.drew);  rintro e w6 ⟨rfl, hb6⟩; obtain ⟨hc6, hf6⟩ := bcell hb6; have hs6 := hb6.size; (try simp at hs6); (try have m6 : w.heap.size + 1 + 1 < w6.heap.size := by omega); (try have m6b : w4.heap.size < w6.heap.size := by omega); (try have m6c : w5.heap.size < w6.heap.size := by omega); (first | (have hz6 := bx z5 hb6 (by exact ze5); obtain ⟨z6, za6, zb6, zc6, zd6, ze6⟩ := hz6) | (have hz6 := bx (Blk.new _ #[.int .i64 0, .int .i64 0] 24) hb6 (by simp); obtain ⟨z6, za6, zb6, zc6, zd6, ze6⟩ := hz6; (try simp at z6); (try simp at za6); (try simp at zb6); (try simp at zc6); (try simp at zd6); (try simp at ze6)) | (have hz6 := bx (blkDrew (Blk.new _ #[.int .i64 0, .int .i64 0] 24)) hb6 (by simp); obtain ⟨z6, za6, zb6, zc6, zd6, ze6⟩ := hz6; (try simp at z6); (try simp at za6); (try simp at zb6); (try simp at zc6); (try simp at zd6); (try simp at ze6)) | skip); have k6 : Ks w ([(w.heap.size, a, b), (w.heap.size + 1, c, d), (B, p, q)]) w6 := Ks.below (by first | exact k5 | exact k5.alloc _) hb6))
      all_goals
        go_wp2_with fail
        go_meet
        refine ⟨_, rfl, rfl, Ks.add ?_ ?_ ?_ ?_⟩
        · first | exact k6.alloc _ | exact (k6.setCell (fun t ht => by (simp only [List.mem_cons, List.not_mem_nil, or_false] at ht; rcases ht with rfl | rfl | rfl <;> (simp <;> omega))) (by simp <;> omega) _).setCell (fun t ht => by (simp only [List.mem_cons, List.not_mem_nil, or_false] at ht; rcases ht with rfl | rfl | rfl <;> (simp <;> omega))) (by simp <;> omega) _
        all_goals first | (simp; done) | exact (wrote z6).1 | exact (wrote z6).2.1 | exact (wrote z6).2.2 | trace_state
    case rest =>
      obtain ⟨B2, rfl, rfl, hk2⟩ := hcut
      replace hk2 : Ks w [(w.heap.size, a, b), (w.heap.size + 1, c, d), (B, p, q), (B2, p, q)] wc := hk2
      have h5 := hk2.2 (B, p, q) (by simp)
      have h7 := hk2.2 (B2, p, q) (by simp)
      obtain ⟨h50, h51, -⟩ := h5
      obtain ⟨h70, h71, -⟩ := h7
      have hbl := hk2.1
      clear hk2 hk hkl hkg K SP IM
      go_wp2_with fail
      with_reducible refine (eqRange_same p q _).mono ?_
      rintro e w7 ⟨rfl, hb7⟩
      have hbl7 : Below w.heap.size w w7 := hbl.trans (hb7.mono hbl.size)
      clear hb7 hbl
      go_wp2_with fail
      go_ret
      exact ⟨rfl, by assumption⟩
end Go.Proofs.YtdmamojidefdaaaDoor
