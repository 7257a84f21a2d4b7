/-
  How all statements begin: frames that are cut, in their variables.
-/
import Derived.Test.YteljcgdenagcmaaBStart
import Derived.Test.YteljcgdenagcmaaBSames
namespace Go.Proofs.Yteljcgdenagcmaa
set_option linter.unusedVariables false
set_option maxRecDepth 4000
set_option linter.unusedSimpArgs false
open Go.RowKit

theorem FrAt.stx {w W : World} {b : Nat} {f g : Fr} {x y : Value} (h : FrAt W b f x) (hy : y.oneCell' = true) (hw : w.heap.size ≤ b) (hb : Below w.heap.size w W) :
    ∃ W', (stS 38 (.pointer (some ⟨b, 0, none⟩)) (.agg (fcs g y))).run Try.prog W = .ok () W' ∧ FrAt W' b g y ∧ Below w.heap.size w W' ∧ (∀ k, k ≠ b → W'.heap[k]? = W.heap[k]?) ∧ W'.heap.size = W.heap.size :=
  ⟨_, h.st hy, h.set, below_setRow hb hw _, fun k hk => setRow_other _ _ _ _ hk, by simp⟩
theorem BfAt.stx {w W : World} {b : Nat} {f g : Bf} {x y : Value} (h : BfAt W b f x) (hy : y.oneCell' = true) (hw : w.heap.size ≤ b) (hb : Below w.heap.size w W) :
    ∃ W', (stS 30 (.pointer (some ⟨b, 0, none⟩)) (.agg (bcs g y))).run Try.prog W = .ok () W' ∧ BfAt W' b g y ∧ Below w.heap.size w W' ∧ (∀ k, k ≠ b → W'.heap[k]? = W.heap[k]?) ∧ W'.heap.size = W.heap.size :=
  ⟨_, h.st hy, h.set, below_setRow hb hw _, fun k hk => setRow_other _ _ _ _ hk, by simp⟩
theorem src_nil (w : World) : Src w (.slice none 0 0) [] := ⟨none, 0, rfl, Nat.le_refl _, by simp, (fun _ => ⟨rfl, rfl⟩), (fun ad e => by cases e)⟩
theorem src_slice {W : World} {x : Value} {l : List Int} (h : Src W x l) : ∃ a c, x = .slice a l.length c := by
  obtain ⟨a, c, e, _⟩ := h
  exact ⟨a, c, e⟩
end Go.Proofs.Yteljcgdenagcmaa
