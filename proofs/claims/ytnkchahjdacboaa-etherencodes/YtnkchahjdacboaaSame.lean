/-
  A tag held against itself.
-/
import Derived.Test.YtnkchahjdacboaaMake
namespace Go.Proofs.Ytnkchahjdacboaa
set_option linter.unusedVariables false
set_option linter.unusedSimpArgs false
open Go.RowKit

theorem eq25_self (n : Nat) (a b c d e f : Int) (w : World) :
    (Op.equalIn (n + 2) 23 (.agg #[.int .u8 a, .int .u8 b, .int .u8 c, .int .u8 d, .int .u8 e, .int .u8 f]) (.agg #[.int .u8 a, .int .u8 b, .int .u8 c, .int .u8 d, .int .u8 e, .int .u8 f])).run Try.prog w = .ok true w := by
  have u5 := Try.underlying5
  have a5 := Try.isAgg5
  have z5 := Try.sizeOf5
  rw [Op.equalIn]
  simp only [Sem.run_bind, run_underlying Try.underlying23, Result.andThen_ok]
  simp only [Std.Legacy.Range.forIn_eq_forIn_range', Std.Legacy.Range.size, Nat.sub_zero, Nat.add_sub_cancel, Nat.div_one, List.range'_succ, List.range'_zero, List.forIn_cons, List.forIn_nil]
  go_simp

theorem eq23_self (p : Int) (d : Bool) (v : Int) (w : World) : (binOp .eql 25 (.agg #[.int .i64 p, .bool d, .int .i64 v]) (.agg #[.int .i64 p, .bool d, .int .i64 v])).run Try.prog w = .ok (.bool true) w := by
  go_simp
end Go.Proofs.Ytnkchahjdacboaa
