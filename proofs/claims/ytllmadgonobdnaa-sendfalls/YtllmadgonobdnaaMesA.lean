/-
  What would go out of a port, in plain terms.
-/
import Derived.Test.YtllmadgonobdnaaMsgA
namespace Go.Proofs.Ytllmadgonobdnaa
set_option linter.unusedVariables false
set_option maxRecDepth 4000
set_option linter.unusedSimpArgs false
open Go.RowKit

/-- What would go out of a port at a place. -/
def msgI (l : List Pt) (i : Int) : Mg := if 0 ≤ i ∧ i < (l.length : Int) then msgP (gtP l i.toNat) else zeroM
theorem msgI_in {l : List Pt} {k : Nat} (h : k < l.length) : msgI l (k : Int) = msgP (gtP l k) := by
  unfold msgI
  rw [if_pos ⟨by omega, by omega⟩]
  rfl
theorem msgI_out {l : List Pt} {i : Int} (h : ¬ (0 ≤ i ∧ i < (l.length : Int))) : msgI l i = zeroM := if_neg h
theorem new_tm (w : World) (h : Hd) (x : Value) : ∃ W, (w.alloc (.cells (trc h x) 31)).alloc (.cells zeroM.cs 43) = W ∧ RvAt W w.heap.size 31 (trc h x) ∧ RvAt W (w.heap.size + 1) 43 zeroM.cs ∧ Below w.heap.size w W ∧ W.heap.size = w.heap.size + 2 := by
  obtain ⟨A, hA, rA, bA, zA⟩ := one_t w h x
  have rC := RvAt.new A 43 zeroM.cs
  have bC : Below A.heap.size A (A.alloc (.cells zeroM.cs 43)) := (Below.refl _ _).alloc (Nat.le_refl _) _
  rw [zA] at rC
  refine ⟨_, rfl, ?_⟩
  rw [hA]
  exact ⟨rA.below bC, rC, below_over bA bC, by simp; omega⟩
theorem bdM_zero (w : World) : (bdM #[]).run Try.prog w = .ok (.agg zeroM.cs) w := by kernel_rfl
end Go.Proofs.Ytllmadgonobdnaa
