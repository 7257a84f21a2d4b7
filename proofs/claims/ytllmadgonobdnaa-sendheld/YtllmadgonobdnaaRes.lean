/-
  What is told of trees: plain terms.
-/
import Derived.Test.YtllmadgonobdnaaPur
namespace Go.Proofs.Ytllmadgonobdnaa
set_option linter.unusedVariables false
set_option maxRecDepth 4000
set_option linter.unusedSimpArgs false
open Go.RowKit

/-- A tree and whether it was changed. -/
abbrev TBs (w : World) (h : Hd) (n : Nat) (l : List Pt) (O : Option (List Pt)) (r : Ending) (w' : World) : Prop := ∃ a' c', r = .returned (.tuple #[.agg (trc h (.slice a' n c')), .bool O.isSome]) ∧ SlAt w' a' n c' (O.getD l) ∧ Below w.heap.size w w'
/-- The ports that a call tells: those that it was handed, or new ones. -/
def Fr (w : World) (a a' : Option Addr) : Prop := a' = a ∨ ∀ x, a' = some x → w.heap.size ≤ x.block
abbrev TBf (w : World) (h : Hd) (a : Option Addr) (n : Nat) (l : List Pt) (O : Option (List Pt)) (r : Ending) (w' : World) : Prop := ∃ a' c', r = .returned (.tuple #[.agg (trc h (.slice a' n c')), .bool O.isSome]) ∧ Fr w a a' ∧ SlAt w' a' n c' (O.getD l) ∧ Below w.heap.size w w'
/-- A step of the version, of a port at a place. -/
def ppmO (l : List Pt) (k : Nat) : Option (List Pt) := if ppmC (gtP l k) = 0 then none else some (l.set k (ppmQ (gtP l k) (ppmC (gtP l k))))
theorem ppmO_no {l : List Pt} {k : Nat} (h : ppmC (gtP l k) = 0) : ppmO l k = none := if_pos h
theorem ppmO_yes {l : List Pt} {k c : Nat} (h : ppmC (gtP l k) = c) (h0 : c ≠ 0) : ppmO l k = some (l.set k (ppmQ (gtP l k) c)) := by
  unfold ppmO
  rw [h, if_neg h0]
/-- Is there such a port? -/
def inB (l : List Pt) (i : Int) : Prop := 0 ≤ i ∧ i < (l.length : Int)
def ppmI (l : List Pt) (i : Int) : Option (List Pt) := if 0 ≤ i ∧ i < (l.length : Int) then ppmO l i.toNat else none
theorem ppmI_in {l : List Pt} {k : Nat} (h : k < l.length) : ppmI l (k : Int) = ppmO l k := by
  unfold ppmI
  rw [if_pos ⟨by omega, by omega⟩]
  rfl
theorem ppmI_out {l : List Pt} {i : Int} (h : ¬ (0 ≤ i ∧ i < (l.length : Int))) : ppmI l i = none := if_neg h
end Go.Proofs.Ytllmadgonobdnaa
