/- The exact law of the payments behind a day. -/
import Derived.Test.YtojhiclkaedplaaDoorPay
import Derived.Test.YtojhiclkaedplaaDoorFlowX
namespace Go.Proofs.YtojhiclkaedplaaDoor
open Go.RowKit
theorem FRow.two {w : World} {B : Nat} {v : Value} {fs : List Flo} (h : FRow w B v fs) : v = .slice none 0 0 ∨ ∃ b cap, v = .slice (some ⟨b, 0, none⟩) fs.length cap ∧ B ≤ b ∧ b < w.heap.size := by
  rcases h.2 with ⟨rfl, -⟩ | ⟨b, cap, cur, rfl, hb, _⟩
  · exact .inl rfl
  · exact .inr ⟨b, cap, rfl, hb, (World.ownsRow.lt h b rfl).2⟩
set_option maxRecDepth 8000 in
set_option maxHeartbeats 4000000 in
theorem exFlowsAfter (s e m r d : Int) (w : World) (hT : Tab w) :
    Calls Tryd.prog 5 #[.agg #[.int .i64 s, .int .i64 e, .int .i64 m, .int .i64 r], .int .i64 d] w fun x w' => x = .returned (.bool true) ∧ Below w.heap.size w w' := by
  have HT := Lib.hid hT; clear hT
  have hlen : (aftL (floL s e m r) d).length ≤ 40 := Nat.le_trans (aft_len _ _) (by rw [floL_len]; exact perL_len s e m r)
  have hi := after_any s e m r d
  have hs := sAfter_any s e m r d
  unfold AftL at hi hs
  generalize floL s e m r = fs0 at hlen hi hs
  generalize aftL fs0 d = ps at hlen hi hs
  have HI := Lib.hid hi; clear hi
  have HS := Lib.hid hs; clear hs
  have HTB := Lib.hid (toBond_any s e m r)
  have kB := Blk.new w #[.int .i64 s, .int .i64 e, .int .i64 m, .int .i64 r] 35
  have hB := (Below.refl w.heap.size w).alloc (Nat.le_refl _) (.cells #[.int .i64 s, .int .i64 e, .int .i64 m, .int .i64 r] 35)
  have KB := Lib.hid kB
  have HB := Lib.hid hB
  obtain ⟨c0, c1, c2, c3⟩ := kB.four
  clear kB hB
  go_enter Tryd.func5, Tryd.ntmps5
  go_wp2_with fail
  refine (HTB.out _).mono ?_
  rintro x wa ⟨rfl, hba⟩
  clear c0 c1 c2 c3
  have CA := Lib.hid (HB.out.trans (hba.mono HB.out.size))
  have KA := Lib.hid (KB.out.below hba KB.out.lt)
  clear hba
  go_wp2_with fail
  refine (HS.out _).mono ?_
  rintro x w1 ⟨v0, rfl, hr0, hn0, hb1'⟩
  have hb1 := CA.out.trans (hb1'.mono CA.out.size)
  have K1 := Lib.hid (KA.out.below hb1' KA.out.lt)
  have HR0 := Lib.hid hr0; clear hr0
  have HN0 := Lib.hid hn0; clear hn0
  clear hb1'
  have s1 := hb1.size
  obtain ⟨c0, c1, c2, c3⟩ := K1.out.four
  go_wp2_with fail
  refine (HTB.out _).mono ?_
  rintro x wb ⟨rfl, hbb⟩
  clear c0 c1 c2 c3
  have CB := Lib.hid (hb1.trans (hbb.mono s1))
  have KB2 := Lib.hid (K1.out.below hbb K1.out.lt)
  have sb := hbb.size
  go_wp2_with fail
  refine (HI.out _ (HT.out.below CB.out HT.out.pos)).mono ?_
  rintro x w2 ⟨v1, rfl, hr1, hn1, hb2'⟩
  have K2 := Lib.hid (KB2.out.below hb2' KB2.out.lt)
  have HR1 := Lib.hid (hr1.lower sb); clear hr1
  have HN1 := Lib.hid hn1; clear hn1
  have HD1 := Lib.hid (HR0.out.rd)
  have C2 := Lib.hid (hbb.trans (hb2'.mono sb))
  have s2 := C2.out.size
  clear hb2' hbb
  go_wp2_with fail
  refine (eqFS_same _ _ _ ps HR1.out.rd (HD1.out.below C2.out (Nat.le_refl _)) (by omega)).mono ?_
  rintro x w3 ⟨rfl, hb3⟩
  have C3 := Lib.hid (C2.out.trans (hb3.mono s2))
  have s3 := hb3.size
  have HR3 := Lib.hid (HR1.out.below hb3 (Nat.le_refl _))
  have K3 := Lib.hid (K2.out.below hb3 K2.out.lt)
  rcases FRow.two HR3.out with rfl | ⟨b, cap, rfl, hB, hblt⟩
  · go_wp2_with fail
    refine (markF_nil _).mono ?_
    rintro x w4 ⟨rfl, rfl⟩
    go_wp2_with fail
    refine (heldF_nil _).mono ?_
    rintro x w4 ⟨rfl, rfl⟩
    obtain ⟨c0, c1, c2, c3⟩ := K3.out.four
    go_wp2_with fail
    refine (HTB.out _).mono ?_
    rintro x wc ⟨rfl, hbc⟩
    clear c0 c1 c2 c3
    have CC := Lib.hid (C3.out.trans (hbc.mono (by omega)))
    have sc := hbc.size
    clear hbc
    go_wp2_with fail
    refine (HI.out _ (HT.out.below (hb1.trans (CC.out.mono s1)) HT.out.pos)).mono ?_
    rintro x w5 ⟨v2, rfl, hr2, _, hb5⟩
    have HR2 := Lib.hid hr2; clear hr2
    have C5 := Lib.hid (CC.out.trans (hb5.mono (by omega)))
    have s5 := hb5.size
    go_wp2_with fail
    refine (eqFS_same _ _ _ ps HR2.out.rd (HD1.out.below C5.out (Nat.le_refl _)) (by omega)).mono ?_
    rintro x w6 ⟨rfl, hb6⟩
    have C6 := Lib.hid (C5.out.trans (hb6.mono (by omega)))
    go_wp2_with fail
    refine (heldF_nil _).mono ?_
    rintro x w7 ⟨rfl, rfl⟩
    go_wp2_with fail
    go_ret
    exact ⟨rfl, hb1.trans (C6.out.mono s1)⟩
  · obtain ⟨n, hn⟩ : ∃ n, n = ps.length := ⟨_, rfl⟩
    have HR4 := HR3.out
    rw [← hn] at HR4 hlen ⊢
    have HR5 := Lib.hid HR4; clear HR4
    have HN := Lib.hid hn; clear hn
    go_wp2_with fail
    refine (markF_any _ _ _ _ _ _ HR5.out HN.out.symm (by omega)).mono ?_
    rintro x w4 ⟨qs, rfl, hq1, hq2, hq3, hg4⟩
    have HQ1 := Lib.hid hq1
    have HQ2 := Lib.hid hq2
    have HQ3 := Lib.hid hq3
    clear hq1 hq2 hq3
    have hb4 : Below w1.heap.size w3 w4 := below_of_grownF hg4 hB (by omega)
    have C4 := Lib.hid (C3.out.trans hb4)
    have s4 := hb4.size
    have K4 := Lib.hid (K3.out.below hb4 K1.out.lt)
    clear hg4
    go_wp2_with fail
    refine (heldF_any _ _ _ _ _ qs HQ3.out HQ1.out (by omega) HQ2.out).mono ?_
    rintro x w5 ⟨rfl, rfl⟩
    have c9 : ¬ 2 * (n : Int) + 1 < 0 := by omega
    obtain ⟨c0, c1, c2, c3⟩ := K4.out.four
    go_wp2_with fail
    refine (HTB.out _).mono ?_
    rintro x wc ⟨rfl, hbc⟩
    clear c0 c1 c2 c3
    have CC := Lib.hid (C4.out.trans (hbc.mono (by omega)))
    have HQc := Lib.hid (HQ3.out.below hbc (Nat.le_refl _))
    have sc := hbc.size
    clear hbc
    go_wp2_with fail
    refine (HI.out _ (HT.out.below (hb1.trans (CC.out.mono s1)) HT.out.pos)).mono ?_
    rintro x w5 ⟨v2, rfl, hr2, _, hb5⟩
    have HR2 := Lib.hid hr2; clear hr2
    have C5 := Lib.hid (CC.out.trans (hb5.mono (by omega)))
    have HQ5 := Lib.hid (HQc.out.below hb5 (Nat.le_refl _))
    have s5 := hb5.size
    go_wp2_with fail
    refine (eqFS_same _ _ _ ps HR2.out.rd (HD1.out.below C5.out (Nat.le_refl _)) (by have := HN.out; omega)).mono ?_
    rintro x w6 ⟨rfl, hb6⟩
    have C6 := Lib.hid (C5.out.trans (hb6.mono (by omega)))
    have HQ6 := Lib.hid (HQ5.out.below hb6 (Nat.le_refl _))
    go_wp2_with fail
    refine (heldF_any _ _ _ _ _ qs HQ6.out HQ1.out (by omega) HQ2.out).mono ?_
    rintro x w7 ⟨rfl, rfl⟩
    go_wp2_with fail
    go_ret
    exact ⟨rfl, hb1.trans (C6.out.mono s1)⟩
end Go.Proofs.YtojhiclkaedplaaDoor
