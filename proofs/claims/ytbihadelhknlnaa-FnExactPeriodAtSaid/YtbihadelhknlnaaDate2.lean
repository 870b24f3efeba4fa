/- The walks of the calendar's functions, second part. -/
import Derived.Test.YtbihadelhknlnaaDate
import Derived.Deep.QuietTactic
import Derived.BigQuiet
import Derived.StillTailTactics
namespace Go.Proofs.Ytbihadelhknlnaa
open Go.RowKit
theorem quiet_left {P : Program} {f : FuncId} {args : Array Value} {w : World} {n : Nat} {v : Value}
    (h : Calls P f args (w.drewN n) fun e w' => e = .returned v ∧ w.drewN n = w') : Calls P f args (w.drewN n) fun e w'' => e = .returned v ∧ ∃ m, w'' = w.drewN m :=
  h.mono fun _ _ ⟨he, hm⟩ => ⟨he, n, hm.symm⟩
theorem quiet_add_left {P : Program} {f : FuncId} {args : Array Value} {w : World} {a n : Nat} {v : Value}
    (h : Calls P f args (w.drewN (a + n)) fun e w' => e = .returned v ∧ w.drewN (a + n) = w') :
    Calls P f args (w.drewN (a + n)) fun e w'' => e = .returned v ∧ ∃ m, w'' = w.drewN (a + m) :=
  h.mono fun _ _ ⟨he, hm⟩ => ⟨he, n, hm.symm⟩
theorem Tab.drewN {w : World} (h : Tab w) (n : Nat) : Tab (w.drewN n) := h
theorem below_drewN {B : Nat} {a w : World} (h : Below B a w) (n : Nat) : Below B a (w.drewN n) := ⟨h.os, h.tape, h.output, h.size, h.block⟩
theorem bcell {W w1 : World} {B : Nat} (hb : Below B W w1) : (∀ b o, b < B → w1.cell? ⟨b, o, none⟩ = W.cell? ⟨b, o, none⟩) ∧ (∀ b o, b < B → w1.frozen? ⟨b, o, none⟩ = W.frozen? ⟨b, o, none⟩) :=
  ⟨fun b o h => hb.cell (p := ⟨b, o, none⟩) h, fun b o h => hb.frozen (p := ⟨b, o, none⟩) h⟩
theorem flipW {P : Program} {f : FuncId} {args : Array Value} {w : World} {v : Value}
    (h : Calls P f args w fun e w' => e = .returned v ∧ w = w') : Calls P f args w fun e w' => e = .returned v ∧ w' = w :=
  h.mono fun _ _ ⟨he, hm⟩ => ⟨he, hm.symm⟩
theorem still_tail {P : Program} {id : Nat} {Q : Exit → Act → World → Prop} {a : Act} {w : World} {l : List Oper} (n : Nat) (hm : P.follows .mixedOrders = true) (hB : Region.lexTailB .any l.toArray n = true)
    (h : wpStill P l.toArray w.drew (fun a' => wpList P l.toArray Q (l.drop n) a' w.drew) (l.take n) a) : (Code.region id l.toArray true).wp P Q a w := wp_region_still_tail n hm hB h
def dinV (y m : Int) : Int := if btw y 1990 2089 = true ∧ btw m 1 12 = true then Cal.dm y m else -1
theorem vldB_din (y m d : Int) : btw d 1 (dinV y m) = vldB y m d := by
  unfold vldB dinV
  cases ha : btw y 1990 2089 <;> cases hb : btw m 1 12 <;> simp
  all_goals exact btw_f (by omega)
def dayV (y m d : Int) : Int := if vldB y m d = true then Cal.num y m d else -1
def dayB (n : Int) : Bool := btw n 0 36524
noncomputable def addV (n k : Int) : Int :=
  if dayB n = true ∧ btw k (-600) 600 = true then
    dayV ((12 * Cal.Y n + Cal.M n - 1 + k) / 12) ((12 * Cal.Y n + Cal.M n - 1 + k) % 12 + 1)
      (min (Cal.D n) (dinV ((12 * Cal.Y n + Cal.M n - 1 + k) / 12) ((12 * Cal.Y n + Cal.M n - 1 + k) % 12 + 1)))
  else -1
theorem addV_no1 {n k : Int} (h : dayB n = false) : addV n k = -1 := by unfold addV; rw [if_neg (by simp [h])]
theorem addV_no2 {n k : Int} (h : btw k (-600) 600 = false) : addV n k = -1 := by unfold addV; rw [if_neg (by simp [h])]
end Go.Proofs.Ytbihadelhknlnaa
