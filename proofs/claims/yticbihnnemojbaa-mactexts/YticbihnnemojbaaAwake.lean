/-
  The walk of the example that each statement ends with: it always answers true.
-/
import Derived.Test.YticbihnnemojbaaParseRef
import Derived.Test.YticbihnnemojbaaGroup
namespace Go.Proofs.Yticbihnnemojbaa
set_option linter.unusedVariables false
open Go.RowKit

theorem group_5000 (w : World) : Calls Try.prog 17 #[.int .i64 5000] w fun r w' => r = .returned (.tuple #[.agg #[.int .u8 1, .int .u8 30, .int .u8 131, .int .u8 0, .int .u8 19, .int .u8 136], .int .i64 0]) ∧ Below w.heap.size w w' :=
  group_yes 5000 w (by omega)

theorem isid_5000 (w : World) : Calls Try.prog 19 #[.agg #[.int .u8 1, .int .u8 30, .int .u8 131, .int .u8 0, .int .u8 19, .int .u8 136]] w fun r w' => r = .returned (.tuple #[.int .i64 5000, .bool true]) ∧ Below w.heap.size w w' :=
  isid_any 1 30 131 0 19 136 w (by omega) (by omega) (by omega) (by omega) (by omega) (by omega)

theorem parse_empty (w : World) : Calls Try.prog 13 #[.string ⟨#[]⟩] w fun r w' => r = .returned (.tuple #[.agg #[.int .u8 0, .int .u8 0, .int .u8 0, .int .u8 0, .int .u8 0, .int .u8 0], .int .i64 10]) ∧ Below w.heap.size w w' :=
  parse_no ⟨#[]⟩ w (by decide) (by decide)

theorem text_5000 (w : World) : Calls Try.prog 15 #[.agg #[.int .u8 1, .int .u8 30, .int .u8 131, .int .u8 0, .int .u8 19, .int .u8 136]] w fun r w' => r = .returned (.string ⟨#[48, 49, 45, 49, 101, 45, 56, 51, 45, 48, 48, 45, 49, 51, 45, 56, 56]⟩) ∧ Below w.heap.size w w' := by
  have e : txt 1 30 131 0 19 136 = ⟨#[48, 49, 45, 49, 101, 45, 56, 51, 45, 48, 48, 45, 49, 51, 45, 56, 56]⟩ := by decide
  rw [← e]
  exact text_any 1 30 131 0 19 136 w (by omega) (by omega) (by omega) (by omega) (by omega) (by omega)

theorem kind_5000 (w : World) : Calls Try.prog 9 #[.agg #[.int .u8 1, .int .u8 30, .int .u8 131, .int .u8 0, .int .u8 19, .int .u8 136]] w fun r w' => r = .returned (.int .i64 5) ∧ Below w.heap.size w w' :=
  kind_any 1 30 131 0 19 136 w (by omega)

theorem kind_2 (w : World) : Calls Try.prog 9 #[.agg #[.int .u8 2, .int .u8 0, .int .u8 0, .int .u8 0, .int .u8 0, .int .u8 0]] w fun r w' => r = .returned (.int .i64 1) ∧ Below w.heap.size w w' :=
  kind_any 2 0 0 0 0 0 w (by omega)

set_option maxHeartbeats 200000 in
theorem awake_any (w : World) : Calls Try.prog 12 #[] w fun r w' => r = .returned (.bool true) ∧ Below w.heap.size w w' := by
  have hx := @Later.cell
  have hy := @Later.frozen
  go_enter Try.func12, Try.ntmps12
  go_wp2_with fail
  refine Calls.on_later (group_5000 _) ?_
  intro x1
  go_wp2_with fail
  refine Calls.on_later (isid_5000 _) ?_
  intro x2
  go_wp2_with fail
  refine Calls.on_later2 (parse_empty _) ?_
  intro x3
  have hz := x3.below.size
  simp only [World.size_alloc] at hz
  have hz1 := Nat.lt_of_succ_le hz
  have hz2 := Nat.lt_succ_of_lt hz1
  clear hz
  go_wp2_with fail
  refine Calls.on_later (text_5000 _) ?_
  intro x4
  go_wp2_with fail
  refine Calls.on_later2 (kind_5000 _) ?_
  intro x5
  go_wp2_with fail
  refine Calls.on_later2 (kind_2 _) ?_
  intro x6
  go_wp2
  go_ret
  refine ⟨rfl, ?_⟩
  have b1 := x1.below
  have b3 := below_over b1 (below_later ((Below.refl _ _).alloc (Nat.le_refl _) _) x3)
  exact below_over b3 (below_later ((Below.refl _ _).alloc (Nat.le_refl _) _) x6)
end Go.Proofs.Yticbihnnemojbaa
