/-
  A frame that is cut, in its variable: how all statements begin.
-/
import Derived.Test.YtnkchahjdacboaaAwake
namespace Go.Proofs.Ytnkchahjdacboaa
set_option linter.unusedVariables false
set_option linter.unusedSimpArgs false
open Go.RowKit

attribute [local go_sem ↓] slS_eq ldS23 ldS25 ldS28 stS28 nqS_eq eqS_eq eqM_eq

theorem FrAt.stx {w W : World} {b : Nat} {f g : Fr} {x y : Value} (h : FrAt W b f x) (hy : y.oneCell' = true) (hw : w.heap.size ≤ b) (hb : Below w.heap.size w W) :
    ∃ W', (stS 28 (.pointer (some ⟨b, 0, none⟩)) (.agg (fcs g y))).run Try.prog W = .ok () W' ∧ FrAt W' b g y ∧ Below w.heap.size w W' ∧ (∀ k, k ≠ b → W'.heap[k]? = W.heap[k]?) ∧ W'.heap.size = W.heap.size :=
  ⟨_, h.st hy, h.set, below_setRow hb hw _, fun k hk => setRow_other _ _ _ _ hk, by simp⟩
theorem take_le (l : List Int) (k : Nat) : (l.take k).length ≤ k := by simp; omega
theorem take_b {l : List Int} (hb : ∀ x ∈ l, 0 ≤ x ∧ x ≤ 255) (k : Nat) : ∀ x ∈ l.take k, 0 ≤ x ∧ x ≤ 255 := fun x hx => hb x (List.mem_of_mem_take hx)
end Go.Proofs.Ytnkchahjdacboaa
