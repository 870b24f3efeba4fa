/- Notes matched: the nearest candidate, taken. -/
import Derived.Test.YtmamnljgkkjkcaaMnB
namespace Go.Proofs.Ytmamnljgkkjkcaa
open Go Go.RowKit
/-- The place of the nearest candidate among the first k, and its distance. -/
def Mn.st (q tol : Int) (l : List Pr) : Nat → Int × Int
  | 0 => (-1, tol + 1)
  | k + 1 => if Mn.ab ((l.getD k pr0).2 - q) < (Mn.st q tol l k).2 then ((k : Int), Mn.ab ((l.getD k pr0).2 - q)) else Mn.st q tol l k
theorem Mn.st_bd (q tol : Int) (l : List Pr) (ht : 0 ≤ tol ∧ tol ≤ 50000) : ∀ k, -1 ≤ (Mn.st q tol l k).1 ∧ (Mn.st q tol l k).1 < k ∧ 0 ≤ (Mn.st q tol l k).2 ∧ (Mn.st q tol l k).2 ≤ 50001
  | 0 => by show -1 ≤ (-1 : Int) ∧ (-1 : Int) < ((0 : Nat) : Int) ∧ 0 ≤ tol + 1 ∧ tol + 1 ≤ 50001; omega
  | k + 1 => by
    have ih := Mn.st_bd q tol l ht k
    have hn : 0 ≤ Mn.ab ((l.getD k pr0).2 - q) := by unfold Mn.ab; split <;> omega
    have e : Mn.st q tol l (k + 1) = if Mn.ab ((l.getD k pr0).2 - q) < (Mn.st q tol l k).2 then ((k : Int), Mn.ab ((l.getD k pr0).2 - q)) else Mn.st q tol l k := rfl
    rw [e]
    by_cases c : Mn.ab ((l.getD k pr0).2 - q) < (Mn.st q tol l k).2
    · rw [if_pos c]
      simp only
      omega
    · rw [if_neg c]
      omega
theorem absol_anyN (n : Int) (w : World) (h0 : -1000000000 ≤ n) (h1 : n ≤ 1000000000) : Calls Try.prog 95 #[.int .i64 n] w fun e w' => e = .returned (.int .i64 (Mn.ab n)) ∧ w = w' := by
  unfold Mn.ab
  by_cases h : n < 0
  · rw [if_pos h]
    have h' := decide_eq_true h
    have W1 : IntKind.i64.wrap (-n) = -n := IntWalk.i64_in _ (by omega)
    go_enter Try.func95, Try.ntmps95
    go_wp2_with fail
    go_ret
    exact ⟨rfl, rfl⟩
  · rw [if_neg h]
    have h' := decide_eq_false h
    go_enter Try.func95, Try.ntmps95
    go_wp2_with fail
    go_ret
    exact ⟨rfl, rfl⟩
theorem TRow2.sliM {T : TypeId} {w : World} {B : Nat} {v : Value} {ps : List Pr} (h : TRow2 T w B v ps) : ∃ a c, v = .slice a ps.length c := by
  rcases h.2 with ⟨rfl, h3⟩ | ⟨b, cap, cur, rfl, _⟩
  · exact ⟨none, 0, by rw [h3]⟩
  · exact ⟨_, _, rfl⟩
/-- A block that is neither the map's nor a row's. -/
def Fre (bm : Nat) (f : Int → Int → Value) (g : Nat) : Prop := g ≠ bm ∧ ∀ x y, (Lit.int .i64 x).wf = true → (Lit.int .i64 y).wf = true → (f x y).ownBlock ≠ some g
/-- Such blocks are kept, and stay such. -/
def FreK (wr W : World) (bm : Nat) (f f' : Int → Int → Value) : Prop := wr.heap.size ≤ W.heap.size ∧ ∀ g, g < wr.heap.size → Fre bm f g → W.heap[g]? = wr.heap[g]? ∧ Fre bm f' g
def TakeQ (w wr : World) (bm n : Nat) (f : Int → Int → Value) (R : Int → Int → List Pr) (d m q tol : Int) (e : Ending) (W : World) : Prop :=
  ((Mn.st q tol (R d m) (R d m).length).1 < 0 ∧ e = .returned (.int .i64 (-1)) ∧ Cds w W bm n f R ∧ FreK wr W bm f f) ∨
  (0 ≤ (Mn.st q tol (R d m) (R d m).length).1 ∧ e = .returned (.int .i64 ((R d m).getD (Mn.st q tol (R d m) (R d m).length).1.toNat pr0).1) ∧ ∃ f', Cds w W bm (n + 1) f' (fun x y => if x = d ∧ y = m then (R d m).eraseIdx (Mn.st q tol (R d m) (R d m).length).1.toNat else R x y) ∧ FreK wr W bm f f')
set_option maxRecDepth 8000 in
set_option maxHeartbeats 4000000 in
theorem take_any (w wr : World) (bm n : Nat) (f : Int → Int → Value) (R : Int → Int → List Pr) (hC : Cds w wr bm n f R) (d m q tol : Int) (hd : 0 ≤ d ∧ d ≤ 40000) (hm : 1 ≤ m ∧ m ≤ 10000) (hq : 1 ≤ q ∧ q ≤ 50000) (ht : 0 ≤ tol ∧ tol ≤ 50000)
    (hl : (R d m).length ≤ 10) (hp : ∀ i, i < (R d m).length → 1 ≤ ((R d m).getD i pr0).2 ∧ ((R d m).getD i pr0).2 ≤ 50000) (hn : n < 1000) :
    Calls Try.prog 69 #[.map (some bm), triV (d, m, q), .int .i64 tol] wr (TakeQ w wr bm n f R d m q tol) := by
  have wfd := wf_i64 (x := d) (by omega) (by omega)
  have wfm := wf_i64 (x := m) (by omega) (by omega)
  have HC0 := Lib.hid (hC.next ((Below.refl wr.heap.size wr).alloc (Nat.le_refl _) (.cells #[.int .i64 d, .int .i64 m, .int .i64 q] 48)))
  have HB0 := Lib.hid ((Below.refl wr.heap.size wr).alloc (Nat.le_refl _) (.cells #[.int .i64 d, .int .i64 m, .int .i64 q] 48))
  have KB0 := Lib.hid (Blk.new wr #[.int .i64 d, .int .i64 m, .int .i64 q] 48)
  have HKy := Lib.hid (fun x W => key_any x W)
  have HP := Lib.hid hp
  have HSt := Lib.hid (fun k => Mn.st_bd q tol (R d m) ht k)
  have HAb := Lib.hid (fun n W h0 h1 => absol_anyN n W h0 h1)
  obtain ⟨L, hL⟩ : ∃ L, L = R d m := ⟨_, rfl⟩
  unfold TakeQ
  rw [← hL] at hl HP HSt ⊢
  have HL := Lib.hid hL
  clear hC hL hp
  go_enter Try.func69, Try.ntmps69
  go_wp2_with fail
  refine (HKy.out (d, m, q) _).mono ?_
  rintro e w5 ⟨rfl, hb5⟩
  have HC5 := Lib.hid (HC0.out.next hb5)
  have HB5 := Lib.hid (HB0.out.trans (hb5.mono HB0.out.size))
  have KB5 := Lib.hid (KB0.out.below hb5 KB0.out.lt)
  have hrow := HC5.out.row d m wfd wfm
  rw [← HL.out] at hrow
  obtain ⟨a, c, hv⟩ := hrow.sliM
  have HRow := Lib.hid hrow
  have HV := Lib.hid hv
  clear hb5 hrow hv HC0 KB0
  go_wp2_with (at_lookup; refine wpList_lookup_ms _ rfl _ _ 93 rfl 119 Try.underlying93 (by rfl) bm n f rfl HC5.out.map d m rfl wfd wfm ?_; rw [HV.out])
  have HL1 := Lib.hid hl
  go_loopw [8, 9, 22] (fun ne le x wl => ∃ k : Nat, k ≤ L.length ∧ x = .int .i64 k ∧ ne = .int .i64 (Mn.st q tol L k).1 ∧ le = .int .i64 (Mn.st q tol L k).2 ∧ Hid (Below w5.heap.size w5 wl)) (fun _ _ x _ => L.length - (intOf x).toNat)
  case atStart => exact ⟨0, Nat.zero_le _, rfl, rfl, rfl, Lib.hid (Below.refl _ _)⟩
  case round =>
    obtain ⟨k, hk, rfl, rfl, rfl, HBl⟩ := hrel
    have hst := HSt.out k
    have hstE : Mn.st q tol L (k + 1) = if Mn.ab ((L.getD k pr0).2 - q) < (Mn.st q tol L k).2 then ((k : Int), Mn.ab ((L.getD k pr0).2 - q)) else Mn.st q tol L k := rfl
    have HSe := Lib.hid hstE
    clear hstE
    obtain ⟨⟨zi, zl⟩, hz⟩ : ∃ z, z = Mn.st q tol L k := ⟨_, rfl⟩
    rw [← hz] at hst HSe ⊢
    have HZ := Lib.hid hz
    clear hz
    simp only at hst HSe ⊢
    by_cases hlt : k < L.length
    · obtain ⟨b, cap, e4, -, hbl4, -, hc4, -⟩ := HRow.out.form (by omega)
      have e5 := HV.out.symm.trans e4
      simp only [Value.slice.injEq, true_and] at e5
      obtain ⟨rfl, -⟩ := e5
      obtain ⟨c0, c1⟩ := hc4 k hlt
      clear hc4 e4
      obtain ⟨-, -, c5⟩ := (KB5.out.below HBl.out KB5.out.lt).three.1
      replace c0 := (HBl.out.cell (p := ⟨b, k * 2, none⟩) hbl4).trans c0
      replace c1 := (HBl.out.cell (p := ⟨b, k * 2 + 1, none⟩) hbl4).trans c1
      have hpk := HP.out k hlt
      have hb5 := KB5.out.lt
      have hlt1 : (k : Int) < L.length := by omega
      have hk0 : (0 : Int) ≤ k := by omega
      generalize L.getD k pr0 = e at c0 c1 hpk HSe
      obtain ⟨pi, pp⟩ := e
      simp only at c0 c1 hpk HSe
      have hbl := HBl.out.size
      have hbk := Nat.lt_of_lt_of_le hb5 hbl
      have W1 : IntKind.i64.wrap (pp - q) = pp - q := IntWalk.i64_in _ (by omega)
      have hnn : 0 ≤ Mn.ab (pp - q) ∧ Mn.ab (pp - q) ≤ 100000 := by unfold Mn.ab; split <;> omega
      by_cases hcm : Mn.ab (pp - q) < zl
      · have hdc := decide_eq_true hcm
        have hE := HSe.out
        rw [if_pos hcm] at hE
        have HE := Lib.hid hE
        clear hE
        go_wp2_with (go_at_call 95; refine (HAb.out (pp - q) _ (by omega) (by omega)).mono ?_; rintro e wx ⟨rfl, rfl⟩)
        go_roundw
        case rel => exact ⟨k + 1, hlt, by go_num, by rw [HE.out], by rw [HE.out], Lib.hid (HBl.out.alloc hbl _)⟩
        case measure => simp [intOf] <;> omega
      · have hdc := decide_eq_false hcm
        have hE := HSe.out
        rw [if_neg hcm] at hE
        have HE := Lib.hid hE
        clear hE
        go_wp2_with (go_at_call 95; refine (HAb.out (pp - q) _ (by omega) (by omega)).mono ?_; rintro e wx ⟨rfl, rfl⟩)
        go_roundw
        case rel => exact ⟨k + 1, hlt, by go_num, by rw [HE.out], by rw [HE.out], Lib.hid (HBl.out.alloc hbl _)⟩
        case measure => simp [intOf] <;> omega
    · have hkL : k = L.length := by omega
      subst hkL
      clear HSe
      have hlt1 : ¬ (L.length : Int) < L.length := by omega
      have KB6 := Lib.hid (KB5.out.below HBl.out KB5.out.lt)
      have HC6 := Lib.hid (HC5.out.next HBl.out)
      have HB6 := Lib.hid (HB5.out.trans (HBl.out.mono HB5.out.size))
      by_cases hneg : zi < 0
      · have hdn := decide_eq_true hneg
        go_wp2_with fail
        go_ret
        exact .inl ⟨by rw [← HZ.out]; exact hneg, rfl, HC6.out, HB6.out.size, fun g hg hF => ⟨HB6.out.block g hg, hF⟩⟩
      · have hdn := decide_eq_false hneg
        obtain ⟨j, rfl⟩ : ∃ j : Nat, zi = j := ⟨zi.toNat, by omega⟩
        have hj : j < L.length := by omega
        have x1 : (j : Int) < L.length := by omega
        have x0 : (0 : Int) ≤ j := by omega
        obtain ⟨b, cap, e4, -, hbl4, -, hc4, -⟩ := HRow.out.form (by omega)
        have e5 := HV.out.symm.trans e4
        simp only [Value.slice.injEq, true_and] at e5
        obtain ⟨rfl, rfl⟩ := e5
        obtain ⟨c0, c1⟩ := hc4 j hj
        clear hc4 e4
        replace c0 := (HBl.out.cell (p := ⟨b, j * 2, none⟩) hbl4).trans c0
        replace c1 := (HBl.out.cell (p := ⟨b, j * 2 + 1, none⟩) hbl4).trans c1
        obtain ⟨k0, k1, k2⟩ := KB6.out.three.1
        have hb5 := KB6.out.lt
        generalize hE : L.getD j pr0 = e at c0 c1
        have HE := Lib.hid hE
        clear hE
        obtain ⟨pi, pp⟩ := e
        simp only at c0 c1
        have W1 : IntKind.i64.wrap ((j : Int) + 1) = (j : Int) + 1 := IntWalk.i64_in _ (by omega)
        go_wp2_with fail
        refine (HKy.out (d, m, q) _).mono ?_
        rintro e w7 ⟨rfl, hb7⟩
        have HC7 := Lib.hid (HC6.out.next hb7)
        have HB7 := Lib.hid (HB6.out.trans (hb7.mono HB6.out.size))
        have hrow7 := HC7.out.row d m wfd wfm
        rw [HV.out, ← HL.out] at hrow7
        have HD := Lib.hid (delete_any w7 w.heap.size b c L j hrow7 hj HL1.out)
        clear hrow7 hb7
        go_wp2_with (refine (HD.out).mono ?_; rintro e w8 ⟨rfl, hr8, hg8⟩; obtain ⟨w9, T9, hm9, hg9⟩ := IsMs.put (IsMs.of_block HC7.out.map (hg8.block bm HC7.out.lt (fun e => HC7.out.far d m bm wfd wfm (by rw [HV.out]; exact e.symm) rfl))) Try.underlying93 (by unfold maxLen; omega) d m (.slice (some ⟨b, 0, none⟩) (L.eraseIdx j).length c) wfd wfm (.inr ⟨_, _, _, rfl⟩))
        go_ret
        have hz := HZ.out
        have hC9 := Cds.put HC7.out wfd wfm hr8 (by rw [HV.out]; exact hg8) (.inl (by rw [HV.out]; rfl)) hm9 hg9
        refine .inr ⟨by rw [← hz]; exact x0, ?_, (fun p q => if p = d ∧ q = m then .slice (some ⟨b, 0, none⟩) (L.eraseIdx j).length c else f p q), ?_, Nat.le_trans HB7.out.size (Nat.le_trans hg8.size hg9.size), fun g hg hF => ?_⟩
        · rw [← hz]
          show Ending.returned (.int .i64 pi) = .returned (.int .i64 (L.getD j pr0).1)
          rw [HE.out]
        · rw [← hz]
          exact hC9
        · have hFb : g ≠ b := fun h => hF.2 d m wfd wfm (by rw [HV.out, h]; rfl)
          refine ⟨?_, hF.1, fun x y hx hy => ?_⟩
          · have s7 := HB7.out.size
            have s8 := hg8.size
            rw [hg9.block g (by omega) (fun h => hF.1 (Option.some.inj h)), hg8.block g (by omega) (fun h => hFb (Option.some.inj h))]
            exact HB7.out.block g hg
          · by_cases cc : x = d ∧ y = m
            · simp only [if_pos cc]
              exact fun h => hFb (Option.some.inj h).symm
            · simp only [if_neg cc]
              exact hF.2 x y hx hy
end Go.Proofs.Ytmamnljgkkjkcaa
