/-
  The walk of the bytes of a service's tag, for every tag.
-/
import Derived.Test.YtnkchahjdacboaaPut
namespace Go.Proofs.Ytnkchahjdacboaa
set_option linter.unusedVariables false
open Go.RowKit

theorem src6 {w : World} {b o : Nat} {a0 a1 a2 a3 a4 a5 : Int} (h0 : w.cell? ⟨b, o, none⟩ = some (.int .u8 a0)) (h1 : w.cell? ⟨b, o + 1, none⟩ = some (.int .u8 a1)) (h2 : w.cell? ⟨b, o + 2, none⟩ = some (.int .u8 a2))
    (h3 : w.cell? ⟨b, o + 3, none⟩ = some (.int .u8 a3)) (h4 : w.cell? ⟨b, o + 4, none⟩ = some (.int .u8 a4)) (h5 : w.cell? ⟨b, o + 5, none⟩ = some (.int .u8 a5)) : Src w (.slice (some ⟨b, o, none⟩) 6 6) [a0, a1, a2, a3, a4, a5] := by
  refine ⟨some ⟨b, o, none⟩, 6, rfl, Nat.le_refl _, by unfold maxLen; omega, (fun e => by cases e), (fun ad e j hj => ?_)⟩
  cases e
  have e : (⟨b, o, none⟩ : Addr).add j = ⟨b, o + j, none⟩ := by unfold Addr.add; split <;> simp_all
  rw [e]
  match j, hj with
  | 0, _ => exact h0
  | 1, _ => exact h1
  | 2, _ => exact h2
  | 3, _ => exact h3
  | 4, _ => exact h4
  | 5, _ => exact h5

end Go.Proofs.Ytnkchahjdacboaa
