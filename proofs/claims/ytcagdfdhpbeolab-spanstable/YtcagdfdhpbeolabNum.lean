/-
  Numbers of bridges and of ports: the walks of Number, Address, ID, Priority, each for every input.
-/
import Derived.Test.YtcagdfdhpbeolabRv
import Derived.Laws.BitsAllLaws
namespace Go.Proofs.Ytcagdfdhpbeolab
set_option linter.unusedVariables false
set_option maxRecDepth 4000
set_option linter.unusedSimpArgs false
open Go.RowKit

/-- Are two addresses one? -/
def eq6 (a b c d e f a' b' c' d' e' f' : Int) : Bool := decide (a = a' ∧ b = b' ∧ c = c' ∧ d = d' ∧ e = e' ∧ f = f')
theorem eq6_iff {a b c d e f a' b' c' d' e' f' : Int} : eq6 a b c d e f a' b' c' d' e' f' = true ↔ (a = a' ∧ b = b' ∧ c = c' ∧ d = d' ∧ e = e' ∧ f = f') := by simp [eq6]
theorem eq6_self (a b c d e f : Int) : eq6 a b c d e f a b c d e f = true := by simp [eq6]
@[go_sem] theorem eqMac (a b c d e f a' b' c' d' e' f' : Int) (w : World) :
    (Op.equalIn 10000 76 (.agg #[.int .u8 a, .int .u8 b, .int .u8 c, .int .u8 d, .int .u8 e, .int .u8 f]) (.agg #[.int .u8 a', .int .u8 b', .int .u8 c', .int .u8 d', .int .u8 e', .int .u8 f'])).run Try.prog w = .ok (eq6 a b c d e f a' b' c' d' e' f') w := by
  have u5 := Try.underlying5
  have a5 := Try.isAgg5
  have z5 := Try.sizeOf5
  rw [show (10000 : Nat) = 9999 + 1 from rfl, Op.equalIn]
  simp only [Sem.run_bind, run_underlying Try.underlying76, Result.andThen_ok]
  simp only [Std.Legacy.Range.forIn_eq_forIn_range', Std.Legacy.Range.size, Nat.sub_zero, Nat.add_sub_cancel, Nat.div_one, List.range'_succ, List.range'_zero, List.forIn_cons, List.forIn_nil]
  go_simp
  unfold eq6
  by_cases h1 : a = a' <;> simp [h1]
  by_cases h2 : b = b' <;> simp [h2]
  by_cases h3 : c = c' <;> simp [h3]
  by_cases h4 : d = d' <;> simp [h4]
  by_cases h5 : e = e' <;> simp [h5]
  by_cases h6 : f = f' <;> simp [h6]
set_option maxHeartbeats 400000 in
theorem address_any (n : Int) (w : World) (hn : 0 ≤ n ∧ n ≤ 18446744073709551615) :
    Calls Try.prog 31 #[.int .u64 n] w fun r w' => r = .returned (.agg #[.int .u8 (n / 1099511627776 % 256), .int .u8 (n / 4294967296 % 256), .int .u8 (n / 16777216 % 256), .int .u8 (n / 65536 % 256), .int .u8 (n / 256 % 256), .int .u8 (n % 256)]) ∧ Below w.heap.size w w' := by
  go_enter Try.func31, Try.ntmps31
  go_wp2
  go_rounds 7
  go_returns
  exact ⟨rfl, by go_grown⟩
end Go.Proofs.Ytcagdfdhpbeolab
