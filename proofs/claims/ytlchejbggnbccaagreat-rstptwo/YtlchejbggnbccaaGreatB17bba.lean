/-
  Two bridges of the lowest numbers, reckoned. And what follows from it here.
-/
import Derived.Test.YtlchejbggnbccaaGreatB17a
namespace Go.Proofs.YtlchejbggnbccaaGreat
set_option linter.unusedVariables false
set_option linter.unusedSimpArgs false
set_option maxRecDepth 4000
section
namespace S17
set_option maxRecDepth 100000

theorem chkS6 : chkS 6 (by decide) = true := by kernel_rfl
theorem chkS7 : chkS 7 (by decide) = true := by kernel_rfl
theorem chkS8 : chkS 8 (by decide) = true := by kernel_rfl
theorem chkS9 : chkS 9 (by decide) = true := by kernel_rfl
theorem chkS10 : chkS 10 (by decide) = true := by kernel_rfl
end S17
end
end Go.Proofs.YtlchejbggnbccaaGreat
