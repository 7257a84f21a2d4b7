/-
  What trees that are handed in are; closed facts of the program. And what follows from it here.
-/
import Derived.Test.YtlchejbggnbccaaGreatBbb
import Derived.Handy
import Derived.OpenShut
import Derived.ChangeSlices
import Derived.ShutString
import Derived.ChangeOld
import Derived.Deep.Slices
namespace Go.Proofs.YtlchejbggnbccaaGreat
set_option linter.unusedVariables false
set_option linter.unusedSimpArgs false
set_option maxRecDepth 4000
section
open Go.ChangeShapes Go.WideShapes Go.ChangeAt Go.RowKit

theorem laidOut : laidOutB Tryz.prog = true := by kernel_rfl
theorem own : ownKnob Tryz.prog.godebug = none := by kernel_rfl
end
end Go.Proofs.YtlchejbggnbccaaGreat
