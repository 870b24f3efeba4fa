/- The reader that the laws draw their inputs with. -/
import Derived.Test.YtkdooncfchmkfaaDoorProg
import Derived.WalkKit
import Derived.WalkSpells
import Derived.WalkLawsBesides
import Derived.Lib.Hide
import Derived.Below
import Derived.Deep.QuietTactic
import Derived.BigQuiet
import Derived.IntWalk
namespace Go.Proofs.YtkdooncfchmkfaaDoor
open Go.RowKit
/-- A slice that came in: nil, or a row of numbers. -/
def IsRow (k : IntKind) (w : World) (a : Option Addr) (len cap : Nat) (zs : List Int) : Prop :=
  (a = none ∧ len = 0 ∧ cap = 0 ∧ zs = []) ∨
  ∃ x, a = some x ∧ len ≤ cap ∧ cap ≤ maxLen ∧ zs.length = cap ∧ (∀ i, i < zs.length → w.cell? (x.add i) = some (.int k (zs.getD i 0))) ∧ ∀ n ∈ zs, (Lit.int k n).wf = true
/-- A row of bytes below a block, read by its first numbers. -/
def Bytes (w : World) (g : Nat) (a : Option Addr) (len : Nat) : Prop :=
  len ≤ 2000 ∧ (0 < len → ∃ b off, a = some ⟨b, off, none⟩ ∧ b < g ∧ ∀ i, i < len → ∃ z : Int, w.cell? ⟨b, off + i, none⟩ = some (.int .u8 z) ∧ 0 ≤ z ∧ z ≤ 255)
/-- The reader at block g has read at most p numbers. -/
def Rdr (w : World) (g : Nat) (p : Nat) : Prop :=
  ∃ a len cap q, q ≤ p ∧ w.heap[g]? = some (.cells #[.slice a len cap, .int .i64 (q : Nat)] 79 (0, 0)) ∧ Bytes w g a len
theorem Rdr.lt {w : World} {g p : Nat} (h : Rdr w g p) : g < w.heap.size := by
  obtain ⟨a, len, cap, q, _, h1, _⟩ := h
  rcases Nat.lt_or_ge g w.heap.size with hlt | hge
  · exact hlt
  · rw [Array.getElem?_eq_none hge] at h1; cases h1
theorem Bytes.keep {w w' : World} {g : Nat} {a : Option Addr} {len : Nat} (h : Bytes w g a len) (hk : ∀ k, k < g → w'.heap[k]? = w.heap[k]?) : Bytes w' g a len := by
  refine ⟨h.1, fun hl => ?_⟩
  obtain ⟨b, off, e, hb, hc⟩ := h.2 hl
  refine ⟨b, off, e, hb, fun i hi => ?_⟩
  obtain ⟨z, h1, h2⟩ := hc i hi
  exact ⟨z, (World.cell?_of_block (w := w) (w' := w') (a := ⟨b, off + i, none⟩) (hk b hb)).trans h1, h2⟩
theorem Rdr.more {w : World} {g p p' : Nat} (h : Rdr w g p) (hp : p ≤ p') : Rdr w g p' := by
  obtain ⟨a, len, cap, q, h0, h1, h2⟩ := h
  exact ⟨a, len, cap, q, by omega, h1, h2⟩
theorem Rdr.below {w w' : World} {g p B : Nat} (h : Rdr w g p) (hb : Below B w w') (hg : g < B) : Rdr w' g p := by
  obtain ⟨a, len, cap, q, h0, h1, h2⟩ := h
  exact ⟨a, len, cap, q, h0, (hb.block g hg).trans h1, h2.keep fun k hk => hb.block k (by omega)⟩
theorem Rdr.alloc {w : World} {g p : Nat} (h : Rdr w g p) (o : Obj) : Rdr (w.alloc o) g p := h.below ((Below.refl _ _).alloc (Nat.le_refl _) o) h.lt
theorem Rdr.drewN {w : World} {g p : Nat} (h : Rdr w g p) (n : Nat) : Rdr (w.drewN n) g p := h
theorem Rdr.drew {w : World} {g p : Nat} (h : Rdr w g p) : Rdr w.drew g p := h
theorem u8_bd {z : Int} (h : (Lit.int .u8 z).wf = true) : 0 ≤ z ∧ z ≤ 255 := by simpa [Lit.wf, IntKind.min, IntKind.max, IntKind.signed, IntKind.bits] using h
theorem xor_bd {x : Int} (h0 : 0 ≤ x) (h1 : x ≤ 1000000000000) : 0 ≤ bits BinOp.xor IntKind.i64 x (x / 64) ∧ bits BinOp.xor IntKind.i64 x (x / 64) ≤ 4611686018427387904 := by
  obtain ⟨n, rfl⟩ := Int.eq_ofNat_of_zero_le h0
  have hn : n < 2 ^ 40 := by omega
  have hm : n / 64 < 2 ^ 40 := by omega
  have hx : n ^^^ (n / 64) < 2 ^ 40 := Nat.xor_lt_two_pow hn hm
  have e : bits BinOp.xor IntKind.i64 (n : Int) ((n : Int) / 64) = ((n ^^^ (n / 64) : Nat) : Int) := by
    unfold bits
    have e1 : ((n : Int) / 64) = ((n / 64 : Nat) : Int) := by simp
    rw [e1]
    show IntKind.i64.wrap ((BitVec.ofInt 64 (n : Int) ^^^ BitVec.ofInt 64 ((n / 64 : Nat) : Int)).toNat : Int) = _
    rw [BitVec.toNat_xor, BitVec.ofInt_natCast, BitVec.ofInt_natCast, BitVec.toNat_ofNat, BitVec.toNat_ofNat, Nat.mod_eq_of_lt (by omega), Nat.mod_eq_of_lt (by omega)]
    exact IntWalk.i64_in _ (by omega)
  rw [e]
  omega
/-- What a call of pick leaves. -/
def Picked (n : Int) (w : World) (g p : Nat) (e : Ending) (w' : World) : Prop :=
  ∃ v : Int, e = .returned (.int .i64 v) ∧ ((1 ≤ n → 0 ≤ v ∧ v < n) ∧ (n < 1 → v = 0)) ∧ Rdr w' g (p + 1) ∧ w.grownBy w' (some g)
set_option maxHeartbeats 800000 in
theorem pick_any (n : Int) (w : World) (g p : Nat) (h : Rdr w g p) (hp : p ≤ 1000000) (n0 : -1000000000 ≤ n) (n1 : n ≤ 1000000000) :
    Calls Tryd.prog 53 #[.pointer (some ⟨g, 0, none⟩), .int .i64 n] w (Picked n w g p) := by
  have hlt := h.lt
  obtain ⟨a, len, cap, q, hq, hblk, hby⟩ := h
  have c0 : w.cell? ⟨g, 0, none⟩ = some (.slice a len cap) := by simp [World.cell?, hblk]
  have c1 : w.cell? ⟨g, 1, none⟩ = some (.int .i64 (q : Nat)) := by simp [World.cell?, hblk]
  have f1 : w.frozen? ⟨g, 1, none⟩ = false := by simp [World.frozen?, hblk]
  have hfin : ∀ k, Rdr ((w.setCell ⟨g, 1, none⟩ (.int .i64 ((q : Int) + 1))).drewN k) g (p + 1) ∧ w.grownBy ((w.setCell ⟨g, 1, none⟩ (.int .i64 ((q : Int) + 1))).drewN k) (some g) := by
    intro k
    refine ⟨⟨a, len, cap, q + 1, by omega, ?_, ?_⟩, ⟨rfl, rfl, rfl, by simp [World.setCell], fun j _ hj => Below.heap_setCell _ _ _ _ (fun e => hj (by rw [e]))⟩⟩
    · show (w.setCell ⟨g, 1, none⟩ (.int .i64 ((q : Int) + 1))).heap[g]? = _
      simp [World.setCell, Array.getElem?_modify, hblk]
    · exact hby.keep fun j hj => Below.heap_setCell _ _ _ _ (by show j ≠ g; omega)
  have HF := Lib.hid hfin; clear hfin
  by_cases hn : n < 1
  · go_enter Tryd.func53, Tryd.ntmps53
    go_wp2_with fail
    go_ret
    exact ⟨0, rfl, ⟨by omega, fun _ => rfl⟩, (HF.out 0).1, (HF.out 0).2⟩
  · by_cases hl : len = 0
    · have e0 : ((len : Int) == 0) = true := by simp [hl]
      have hn' : decide (n < 1) = false := by simpa using hn
      go_enter Tryd.func53, Tryd.ntmps53
      go_wp2_with fail
      go_ret
      exact ⟨0, rfl, ⟨by omega, by omega⟩, (HF.out 0).1, (HF.out 0).2⟩
    · obtain ⟨b, off, rfl, hbg, hbytes⟩ := hby.2 (by omega)
      have e0 : ((len : Int) == 0) = false := by simp [hl]
      have hn' : decide (n < 1) = false := by simpa using hn
      have hlen := hby.1
      have keep : ∀ i (z : Int), w.cell? ⟨b, off + i, none⟩ = some (.int .u8 z) → (w.setCell ⟨g, 1, none⟩ (.int .i64 ((q : Int) + 1))).cell? ⟨b, off + i, none⟩ = some (.int .u8 z) := fun i z hz =>
        (World.cell?_of_block (w := w) (a := ⟨b, off + i, none⟩) (Below.heap_setCell _ _ _ _ (by show b ≠ g; omega))).trans hz
      by_cases hq2 : q < len
      · obtain ⟨z, hz, z0, z1⟩ := hbytes q hq2
        have hz' := keep q z hz
        clear hz hbytes keep hby hblk
        have hm0 : 0 ≤ z % n := Int.emod_nonneg _ (by omega)
        have hm1 : z % n < n := Int.emod_lt_of_pos _ (by omega)
        go_enter Tryd.func53, Tryd.ntmps53
        go_wp2_with fail
        go_ret
        exact ⟨_, rfl, ⟨fun _ => ⟨hm0, hm1⟩, by omega⟩, (HF.out 0).1, (HF.out 0).2⟩
      · obtain ⟨j, hj⟩ : ∃ j, j = q % len := ⟨_, rfl⟩
        obtain ⟨i, hi⟩ : ∃ i, i = (q * 7 + 3) % len := ⟨_, rfl⟩
        obtain ⟨d, hd⟩ : ∃ d, d = q / len := ⟨_, rfl⟩
        have hjl : j < len := by rw [hj]; exact Nat.mod_lt _ (by omega)
        have hil : i < len := by rw [hi]; exact Nat.mod_lt _ (by omega)
        have hdq : d ≤ q := by rw [hd]; exact Nat.div_le_self _ _
        obtain ⟨z, hz, z0, z1⟩ := hbytes j hjl
        obtain ⟨y, hy, y0, y1⟩ := hbytes i hil
        have hz' := keep _ z hz
        have hy' := keep _ y hy
        have t1 : Int.tmod (q : Int) (len : Int) = (j : Int) := by rw [hj]; simp [Int.tmod_eq_emod_of_nonneg]
        have t2 : Int.tmod ((q : Int) * 7 + 3) (len : Int) = (i : Int) := by rw [hi, Int.tmod_eq_emod_of_nonneg (by omega)]; simp
        have t3 : Int.tdiv (q : Int) (len : Int) = (d : Int) := by rw [hd]; simp [Int.tdiv_eq_ediv_of_nonneg]
        clear hz hy hbytes keep hby hblk hj hi hd
        have b1 : (j : Int) < (len : Int) := by omega
        have b2 : (i : Int) < (len : Int) := by omega
        have s1 : IntKind.i64.wrap ((q : Int) * 7) = (q : Int) * 7 := IntWalk.i64_in _ (by omega)
        have s2 : IntKind.i64.wrap ((q : Int) * 7 + 3) = (q : Int) * 7 + 3 := IntWalk.i64_in _ (by omega)
        have s3 : IntKind.i64.wrap (z * 131) = z * 131 := IntWalk.i64_in _ (by omega)
        have s4 : IntKind.i64.wrap (y * 1117) = y * 1117 := IntWalk.i64_in _ (by omega)
        have s5 : IntKind.i64.wrap (z * 131 + y * 1117) = z * 131 + y * 1117 := IntWalk.i64_in _ (by omega)
        have s6 : IntKind.i64.wrap ((q : Int) * 29) = (q : Int) * 29 := IntWalk.i64_in _ (by omega)
        have s7 : IntKind.i64.wrap (z * 131 + y * 1117 + (q : Int) * 29) = z * 131 + y * 1117 + (q : Int) * 29 := IntWalk.i64_in _ (by omega)
        have s8 : IntKind.i64.wrap ((d : Int) * 53) = (d : Int) * 53 := IntWalk.i64_in _ (by omega)
        have s9 : IntKind.i64.wrap (z * 131 + y * 1117 + (q : Int) * 29 + (d : Int) * 53) = z * 131 + y * 1117 + (q : Int) * 29 + (d : Int) * 53 := IntWalk.i64_in _ (by omega)
        go_enter Tryd.func53, Tryd.ntmps53
        go_wp2_with fail
        go_quiet (fail)
        go_wp2_with fail
        go_ret
        obtain ⟨x0, x1⟩ := xor_bd (x := z * 131 + y * 1117 + (q : Int) * 29 + (d : Int) * 53) (by omega) (by omega)
        refine ⟨_, rfl, ⟨fun _ => ?_, by omega⟩, (HF.out _).1, (HF.out _).2⟩
        rw [Int.tmod_eq_emod_of_nonneg x0]
        exact ⟨Int.emod_nonneg _ (by omega), Int.emod_lt_of_pos _ (by omega)⟩
end Go.Proofs.YtkdooncfchmkfaaDoor
