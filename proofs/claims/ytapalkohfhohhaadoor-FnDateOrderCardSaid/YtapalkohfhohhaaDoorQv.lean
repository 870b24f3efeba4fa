/- The texts of prices, on both sides. -/
import Derived.Test.YtapalkohfhohhaaDoorFi
import Derived.Test.YtapalkohfhohhaaDoorQt
import Derived.Test.YtapalkohfhohhaaDoorBw
import Derived.Test.YtapalkohfhohhaaDoorShelf
import Derived.Lib.LaidTab
import Derived.Deep.DeepCutAuto
namespace Go.Proofs.YtapalkohfhohhaaDoor
open Go.RowKit
/-- The library's table of powers. -/
abbrev TabP (w : World) : Prop := Lib.TabIs Tryd.prog w "internal/strconv.uint64pow10" .u64 Lib.pow10Tab
theorem gPow : Tryd.prog.globalNamed "internal/strconv.uint64pow10" = some 2 := by kernel_rfl
theorem TabP.below {B : Nat} {W W' : World} (hv : TabP W) (h : Below B W W') (hB : 2 < B) : TabP W' := by
  unfold TabP Lib.TabIs World.var? at hv ⊢
  simp only [gPow, Option.bind_some] at hv ⊢
  rw [h.block _ hB]
  exact hv
theorem TabP.lt {W : World} (h : TabP W) : 2 < W.heap.size := by
  unfold TabP Lib.TabIs at h
  have h0 := World.var?_cell gPow h 0
  simp only [Lib.pow10Tab] at h0
  exact World.block_lt_of_cell? W _ (show W.cell? ⟨2, 0, none⟩ = some (.int .u64 1) by rw [h0]; rfl)
theorem TabP.next {W W' : World} (h : TabP W) (hb : Below W.heap.size W W') : TabP W' := h.below hb h.lt
theorem TabP.alloc {W : World} (h : TabP W) (o : Obj) : TabP (W.alloc o) := h.next ((Below.refl _ _).alloc (Nat.le_refl _) o)
theorem grow_below (w : World) (k : Nat) (os : Array Obj) : Below w.heap.size w (Sort.grow (w.drewN k) os) :=
  ⟨rfl, rfl, rfl, by rw [Sort.size_grow]; simp [World.drewN], fun i hi => Sort.heap_grow_old (w.drewN k) os hi⟩
theorem itoa_any (n : Int) (w : World) (hT : TabP w) (h0 : 0 ≤ n) (h1 : n ≤ 1000000000) :
    Calls Tryd.prog 36 #[.int .i64 n] w fun e w' => e = .returned (str (Lib.decDigits n.toNat)) ∧ Below w.heap.size w w' := by
  refine (Tryd.strconv_Itoa n (by omega) (by omega) w hT).mono ?_
  rintro e w' ⟨rfl, k, os, rfl⟩
  refine ⟨?_, grow_below w k os⟩
  unfold Lib.itoa
  rw [if_neg (by omega)]
theorem cut_one (c : UInt8) (l : List UInt8) : (ByteArray.mk (c :: l).toArray).extract 1 (ByteArray.mk (c :: l).toArray).size = ByteArray.mk l.toArray := by
  apply ByteArray.ext
  rw [ByteArray.data_extract]
  apply Array.toList_inj.1
  simp [ByteArray.size]
set_option maxHeartbeats 400000 in
theorem twoD_any (n : Int) (w : World) (hT : TabP w) (h0 : 0 ≤ n) (h1 : n < 100) :
    Calls Tryd.prog 37 #[.int .i64 n] w fun e w' => e = .returned (str (two n.toNat)) ∧ Below w.heap.size w w' := by
  have E := Lib.hid (show Lib.decDigits (100 + n).toNat = 49 :: two n.toNat by rw [← dec_hundred (k := n.toNat) (by omega)]; congr 1; omega)
  have IM := Lib.hid (fun W hT => itoa_any (100 + n) W hT (by omega) (by omega))
  go_enter Tryd.func37, Tryd.ntmps37
  go_wp2_with fail
  refine (IM.out _ hT).mono ?_
  rw [E.out]
  rintro e w1 ⟨rfl, hb⟩
  have hC := Lib.hid (cut_one 49 (two n.toNat))
  have hz : (ByteArray.mk (49 :: two n.toNat).toArray).size = 3 := by simp [ByteArray.size, two]
  go_wp2_with fail
  go_ret
  refine ⟨?_, hb⟩
  have e := hC.out
  rw [hz] at e
  show Ending.returned (Value.string ((ByteArray.mk (49 :: two n.toNat).toArray).extract 1 3)) = _
  rw [e]
theorem IsBd.below {B b : Nat} {bs : List Value} {w w' : World} (h : IsBd B b bs w) (hb : Below w.heap.size w w') : IsBd B b bs w' := by
  have key : ∀ p, Lib.BuilderAt 80 5 B b p bs w → Lib.BuilderAt 80 5 B b p bs w' := by
    intro p h
    have hlt := h.lt
    obtain ⟨hB, v, hbk, hown, hne⟩ := h
    exact ⟨hB, v, (hb.block b hlt).trans hbk, World.ownsRow.kept hown (row := none) ⟨hb.os, hb.tape, hb.output, hb.size, fun k hk _ => hb.block k hk⟩ (by cases v.ownBlock <;> simp), hne⟩
  rcases h with h | h
  · exact .inl (key _ h)
  · exact .inr (key _ h)
/-- The text of a price, if it is one. -/
def Qt.fmt (n : Int) : List UInt8 := if btw n 0 19200 = true then Qt.txt n.toNat else []
theorem Qt.fmt_no {n : Int} (h : btw n 0 19200 = false) : Qt.fmt n = [] := if_neg (by rw [h]; simp)
theorem Qt.fmt_yes {n : Int} (h : btw n 0 19200 = true) : Qt.fmt n = Qt.txt n.toNat := if_pos h
theorem Qt.txt_int {n : Int} (h0 : 0 ≤ n) : Qt.txt n.toNat = Lib.decDigits (n / 64).toNat ++ ([45] ++ (two (n % 64 / 2).toNat ++ (if n % 2 = 1 then [43] else []))) := by
  unfold Qt.txt
  rw [show n.toNat / 64 = (n / 64).toNat by omega, show n.toNat % 64 / 2 = (n % 64 / 2).toNat by omega]
  by_cases h : n % 2 = 1
  · rw [if_pos h, if_pos (by omega)]; rfl
  · rw [if_neg h, if_neg (by omega)]; rfl
/-- What a writer leaves of a builder that holds bytes. -/
theorem bdStr {B b : Nat} {l m : List UInt8} {w : World} (h : IsBd B b (Lib.byteCells l) w) (hl : l.length ≤ 1000000) (hm : m.length ≤ 1000000) (hBw : B ≤ w.heap.size) :
    Calls Tryd.prog 64 #[.pointer (some ⟨b, 0, none⟩), str m] w fun e w' => e = .returned (.tuple #[.int .i64 m.length, .nilIface]) ∧ (IsBd B b (Lib.byteCells (l ++ m)) w' ∧ Below B w w') := by
  refine (bdString B b _ _ w h (by rw [Lib.byteCells_length, str_size]; omega) hBw).mono ?_
  rintro e w' ⟨rfl, h1, h2⟩
  refine ⟨by rw [str_size], .inr ?_, h2⟩
  rw [Lib.byteCells_append]
  exact h1
theorem sadd_no (x : List UInt8) : x ++ [] = x := List.append_nil x
end Go.Proofs.YtapalkohfhohhaaDoor
