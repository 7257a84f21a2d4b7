/-
  Two bridges of the lowest numbers, reckoned. And what follows from it here.
-/
import Derived.Test.YtlchejbggnbccaaGreatB17a
namespace Go.Proofs.YtlchejbggnbccaaGreat
set_option linter.unusedVariables false
set_option linter.unusedSimpArgs false
set_option maxRecDepth 4000
section
namespace S17
set_option maxRecDepth 100000

theorem chkS1 : chkS 1 (by decide) = true := by kernel_rfl
theorem chkS2 : chkS 2 (by decide) = true := by kernel_rfl
theorem chkS3 : chkS 3 (by decide) = true := by kernel_rfl
theorem chkS4 : chkS 4 (by decide) = true := by kernel_rfl
theorem chkS5 : chkS 5 (by decide) = true := by kernel_rfl
end S17
end
end Go.Proofs.YtlchejbggnbccaaGreat
