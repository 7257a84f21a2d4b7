/-
  Which vector is superior: the walk, for every input.
-/
import Derived.Test.YtcagdfdhpbeolaaVec
import Derived.Test.YtcagdfdhpbeolaaNum
namespace Go.Proofs.Ytcagdfdhpbeolaa
set_option linter.unusedVariables false
set_option maxRecDepth 4000
set_option linter.unusedSimpArgs false
open Go.RowKit

/-- Have two numbers one address? -/
def sameA (n m : Int) : Bool := decide (n % 281474976710656 = m % 281474976710656)
theorem eq6_ad (n m : Int) : eq6 (n / 1099511627776 % 256) (n / 4294967296 % 256) (n / 16777216 % 256) (n / 65536 % 256) (n / 256 % 256) (n % 256) (m / 1099511627776 % 256) (m / 4294967296 % 256) (m / 16777216 % 256) (m / 65536 % 256) (m / 256 % 256) (m % 256) = sameA n m := by
  unfold eq6 sameA
  apply decide_eq_decide.mpr
  constructor <;> intro h <;> omega
attribute [local go_sem ↓] ldV stV
end Go.Proofs.Ytcagdfdhpbeolaa
