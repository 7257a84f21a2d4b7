/-
  What ports and messages that are handed in are; closed facts of the program.
-/
import Derived.Test.YtlnammicialacaaPt
import Derived.Handy
import Derived.OpenShut
import Derived.ChangeSlices
import Derived.ShutString
import Derived.ChangeOld
namespace Go.Proofs.Ytlnammicialacaa
set_option linter.unusedVariables false
set_option maxRecDepth 4000
open Go.ChangeShapes Go.WideShapes Go.ChangeAt Go.RowKit

theorem laidOut : laidOutB Try.prog = true := by kernel_rfl
theorem own : ownKnob Try.prog.godebug = none := by kernel_rfl
theorem open_row {H : Type} {enc : TypeId × Value → H} {W : World} {base : Nat} {v : Value} {dd : DataW H} {pl : List MemPlace} {t : TypeId} {ks : List (Option IntKind)} (pt : PlainTy t ks)
    (hv : Value.okWide Try.prog W .any base t v) (h : DataW.Trod enc Try.prog W 0 (fun _ => true) true t v dd pl) : ∃ p : Row ks, v = .agg p.cs := by
  obtain ⟨fs, hu⟩ := pt.form
  obtain ⟨cs, rfl, hsz, _⟩ : ∃ cs, v = .agg cs ∧ cs.size = Try.prog.cellsOf t ∧ Row.okWide Try.prog W .any base t cs := by
    simpa [Value.okWide, hu] using hv
  obtain ⟨fuel, hf⟩ := h
  exact ⟨⟨cs.toList, fits_of_trod enc Try.prog W 0 _ 6 fuel _ ks cs.toList _ pt.kinds hf⟩, by simp [Row.cs]⟩
end Go.Proofs.Ytlnammicialacaa
