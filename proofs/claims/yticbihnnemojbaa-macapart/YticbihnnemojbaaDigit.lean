/-
  Walks of the functions on digits and letters of an address's text, each for every input.
-/
import Derived.Test.YticbihnnemojbaaKind
namespace Go.Proofs.Yticbihnnemojbaa
set_option linter.unusedVariables false
open Go.RowKit

/-- The letter of a digit below 16. -/
def dig (k : Int) : Int := if k < 10 then 48 + k else 87 + k
/-- The value of a letter; -1: it is no digit. -/
def val (c : Int) : Int := if 48 ≤ c ∧ c ≤ 57 then c - 48 else if 97 ≤ c ∧ c ≤ 102 then c - 87 else -1

/-- A digit's value, 0 for any other letter; whether it is a digit. -/
def dv (c : Int) : Int := if val c < 0 then 0 else val c
def dok (c : Int) : Bool := decide (0 ≤ val c)

theorem dig_fin : ∀ n : Fin 16, (((ByteArray.mk #[48, 49, 50, 51, 52, 53, 54, 55, 56, 57, 97, 98, 99, 100, 101, 102])[n.val]'(by have := n.isLt; simp [ByteArray.size])).toNat : Int) = dig (n.val : Int) := by decide

theorem dig_at (k : Int) (h0 : 0 ≤ k) (h : k < 16) (hh : k.toNat < (ByteArray.mk #[48, 49, 50, 51, 52, 53, 54, 55, 56, 57, 97, 98, 99, 100, 101, 102]).size) : (((ByteArray.mk #[48, 49, 50, 51, 52, 53, 54, 55, 56, 57, 97, 98, 99, 100, 101, 102])[k.toNat]'hh).toNat : Int) = dig k := by
  have := dig_fin ⟨k.toNat, by omega⟩
  simp only at this
  rw [this]
  congr 1
  omega

theorem digs_are : (((ByteArray.mk #[48, 49, 50, 51, 52, 53, 54, 55, 56, 57, 97, 98, 99, 100, 101, 102])[0]'(by decide)).toNat : Int) = 48 ∧ (((ByteArray.mk #[48, 49, 50, 51, 52, 53, 54, 55, 56, 57, 97, 98, 99, 100, 101, 102])[1]'(by decide)).toNat : Int) = 49 ∧ (((ByteArray.mk #[48, 49, 50, 51, 52, 53, 54, 55, 56, 57, 97, 98, 99, 100, 101, 102])[2]'(by decide)).toNat : Int) = 50 ∧ (((ByteArray.mk #[48, 49, 50, 51, 52, 53, 54, 55, 56, 57, 97, 98, 99, 100, 101, 102])[3]'(by decide)).toNat : Int) = 51 ∧ (((ByteArray.mk #[48, 49, 50, 51, 52, 53, 54, 55, 56, 57, 97, 98, 99, 100, 101, 102])[4]'(by decide)).toNat : Int) = 52 ∧ (((ByteArray.mk #[48, 49, 50, 51, 52, 53, 54, 55, 56, 57, 97, 98, 99, 100, 101, 102])[5]'(by decide)).toNat : Int) = 53 ∧ (((ByteArray.mk #[48, 49, 50, 51, 52, 53, 54, 55, 56, 57, 97, 98, 99, 100, 101, 102])[6]'(by decide)).toNat : Int) = 54 ∧ (((ByteArray.mk #[48, 49, 50, 51, 52, 53, 54, 55, 56, 57, 97, 98, 99, 100, 101, 102])[7]'(by decide)).toNat : Int) = 55 ∧ (((ByteArray.mk #[48, 49, 50, 51, 52, 53, 54, 55, 56, 57, 97, 98, 99, 100, 101, 102])[8]'(by decide)).toNat : Int) = 56 ∧ (((ByteArray.mk #[48, 49, 50, 51, 52, 53, 54, 55, 56, 57, 97, 98, 99, 100, 101, 102])[9]'(by decide)).toNat : Int) = 57 ∧ (((ByteArray.mk #[48, 49, 50, 51, 52, 53, 54, 55, 56, 57, 97, 98, 99, 100, 101, 102])[10]'(by decide)).toNat : Int) = 97 ∧ (((ByteArray.mk #[48, 49, 50, 51, 52, 53, 54, 55, 56, 57, 97, 98, 99, 100, 101, 102])[11]'(by decide)).toNat : Int) = 98 ∧ (((ByteArray.mk #[48, 49, 50, 51, 52, 53, 54, 55, 56, 57, 97, 98, 99, 100, 101, 102])[12]'(by decide)).toNat : Int) = 99 ∧ (((ByteArray.mk #[48, 49, 50, 51, 52, 53, 54, 55, 56, 57, 97, 98, 99, 100, 101, 102])[13]'(by decide)).toNat : Int) = 100 ∧ (((ByteArray.mk #[48, 49, 50, 51, 52, 53, 54, 55, 56, 57, 97, 98, 99, 100, 101, 102])[14]'(by decide)).toNat : Int) = 101 ∧ (((ByteArray.mk #[48, 49, 50, 51, 52, 53, 54, 55, 56, 57, 97, 98, 99, 100, 101, 102])[15]'(by decide)).toNat : Int) = 102 := by decide

set_option maxHeartbeats 1000000 in
theorem digit_ref (c : Int) (w : World) :
    Calls Try.prog 30 #[.int .u8 c] w fun r w' => r = .returned (.int .i64 (val c)) ∧ w = w' := by
  have hd := digs_are
  go_enter Try.func30, Try.ntmps30
  go_wp2
  go_rounds 17
  all_goals
    go_ret
    refine ⟨ret_int ?_, rfl⟩
    clear hd
    simp only [beq_iff_eq, beq_eq_false_iff_ne, ne_eq] at *
    unfold val
    (repeat' split) <;> omega

set_option maxHeartbeats 1000000 in
theorem digit_any (c : Int) (w : World) :
    Calls Try.prog 29 #[.int .u8 c] w fun r w' => r = .returned (.tuple #[.int .u8 (dv c), .bool (dok c)]) ∧ w = w' := by
  have hd := digs_are
  go_enter Try.func29, Try.ntmps29
  go_wp2
  go_rounds 17
  all_goals
    go_ret2
    refine ⟨ret_tup ?_ ?_, rfl⟩
    all_goals
      clear hd
      simp only [beq_iff_eq, beq_eq_false_iff_ne, ne_eq] at *
      first
        | (subst_vars; decide)
        | (unfold dv val; (repeat' split) <;> omega)
        | (unfold dok val; simp only [eq_comm (a := false), decide_eq_false_iff_not]; (repeat' split) <;> omega)

set_option maxHeartbeats 400000 in
theorem letter_0 (a b c d e f : Int) (w : World) (h : 0 ≤ a ∧ a ≤ 255) :
    Calls Try.prog 31 #[.agg #[.int .u8 a, .int .u8 b, .int .u8 c, .int .u8 d, .int .u8 e, .int .u8 f], .int .i64 0] w fun r w' => r = .returned (.int .u8 (dig (a / 16))) ∧ Below w.heap.size w w' := by
  go_enter Try.func31, Try.ntmps31
  go_wp2
  go_ret
  exact ⟨ret_int (dig_at _ (by omega) (by omega) _), by go_grown⟩

set_option maxHeartbeats 400000 in
theorem letter_1 (a b c d e f : Int) (w : World) (h : 0 ≤ a ∧ a ≤ 255) :
    Calls Try.prog 31 #[.agg #[.int .u8 a, .int .u8 b, .int .u8 c, .int .u8 d, .int .u8 e, .int .u8 f], .int .i64 1] w fun r w' => r = .returned (.int .u8 (dig (a % 16))) ∧ Below w.heap.size w w' := by
  go_enter Try.func31, Try.ntmps31
  go_wp2
  go_ret
  exact ⟨ret_int (dig_at _ (by omega) (by omega) _), by go_grown⟩

set_option maxHeartbeats 400000 in
theorem letter_2 (a b c d e f : Int) (w : World) :
    Calls Try.prog 31 #[.agg #[.int .u8 a, .int .u8 b, .int .u8 c, .int .u8 d, .int .u8 e, .int .u8 f], .int .i64 2] w fun r w' => r = .returned (.int .u8 45) ∧ Below w.heap.size w w' := by
  go_enter Try.func31, Try.ntmps31
  go_wp2
  go_ret
  exact ⟨rfl, by go_grown⟩

set_option maxHeartbeats 400000 in
theorem letter_3 (a b c d e f : Int) (w : World) (h : 0 ≤ b ∧ b ≤ 255) :
    Calls Try.prog 31 #[.agg #[.int .u8 a, .int .u8 b, .int .u8 c, .int .u8 d, .int .u8 e, .int .u8 f], .int .i64 3] w fun r w' => r = .returned (.int .u8 (dig (b / 16))) ∧ Below w.heap.size w w' := by
  go_enter Try.func31, Try.ntmps31
  go_wp2
  go_ret
  exact ⟨ret_int (dig_at _ (by omega) (by omega) _), by go_grown⟩

set_option maxHeartbeats 400000 in
theorem letter_4 (a b c d e f : Int) (w : World) (h : 0 ≤ b ∧ b ≤ 255) :
    Calls Try.prog 31 #[.agg #[.int .u8 a, .int .u8 b, .int .u8 c, .int .u8 d, .int .u8 e, .int .u8 f], .int .i64 4] w fun r w' => r = .returned (.int .u8 (dig (b % 16))) ∧ Below w.heap.size w w' := by
  go_enter Try.func31, Try.ntmps31
  go_wp2
  go_ret
  exact ⟨ret_int (dig_at _ (by omega) (by omega) _), by go_grown⟩

set_option maxHeartbeats 400000 in
theorem letter_5 (a b c d e f : Int) (w : World) :
    Calls Try.prog 31 #[.agg #[.int .u8 a, .int .u8 b, .int .u8 c, .int .u8 d, .int .u8 e, .int .u8 f], .int .i64 5] w fun r w' => r = .returned (.int .u8 45) ∧ Below w.heap.size w w' := by
  go_enter Try.func31, Try.ntmps31
  go_wp2
  go_ret
  exact ⟨rfl, by go_grown⟩

set_option maxHeartbeats 400000 in
theorem letter_6 (a b c d e f : Int) (w : World) (h : 0 ≤ c ∧ c ≤ 255) :
    Calls Try.prog 31 #[.agg #[.int .u8 a, .int .u8 b, .int .u8 c, .int .u8 d, .int .u8 e, .int .u8 f], .int .i64 6] w fun r w' => r = .returned (.int .u8 (dig (c / 16))) ∧ Below w.heap.size w w' := by
  go_enter Try.func31, Try.ntmps31
  go_wp2
  go_ret
  exact ⟨ret_int (dig_at _ (by omega) (by omega) _), by go_grown⟩

set_option maxHeartbeats 400000 in
theorem letter_7 (a b c d e f : Int) (w : World) (h : 0 ≤ c ∧ c ≤ 255) :
    Calls Try.prog 31 #[.agg #[.int .u8 a, .int .u8 b, .int .u8 c, .int .u8 d, .int .u8 e, .int .u8 f], .int .i64 7] w fun r w' => r = .returned (.int .u8 (dig (c % 16))) ∧ Below w.heap.size w w' := by
  go_enter Try.func31, Try.ntmps31
  go_wp2
  go_ret
  exact ⟨ret_int (dig_at _ (by omega) (by omega) _), by go_grown⟩

set_option maxHeartbeats 400000 in
theorem letter_8 (a b c d e f : Int) (w : World) :
    Calls Try.prog 31 #[.agg #[.int .u8 a, .int .u8 b, .int .u8 c, .int .u8 d, .int .u8 e, .int .u8 f], .int .i64 8] w fun r w' => r = .returned (.int .u8 45) ∧ Below w.heap.size w w' := by
  go_enter Try.func31, Try.ntmps31
  go_wp2
  go_ret
  exact ⟨rfl, by go_grown⟩

set_option maxHeartbeats 400000 in
theorem letter_9 (a b c d e f : Int) (w : World) (h : 0 ≤ d ∧ d ≤ 255) :
    Calls Try.prog 31 #[.agg #[.int .u8 a, .int .u8 b, .int .u8 c, .int .u8 d, .int .u8 e, .int .u8 f], .int .i64 9] w fun r w' => r = .returned (.int .u8 (dig (d / 16))) ∧ Below w.heap.size w w' := by
  go_enter Try.func31, Try.ntmps31
  go_wp2
  go_ret
  exact ⟨ret_int (dig_at _ (by omega) (by omega) _), by go_grown⟩

set_option maxHeartbeats 400000 in
theorem letter_10 (a b c d e f : Int) (w : World) (h : 0 ≤ d ∧ d ≤ 255) :
    Calls Try.prog 31 #[.agg #[.int .u8 a, .int .u8 b, .int .u8 c, .int .u8 d, .int .u8 e, .int .u8 f], .int .i64 10] w fun r w' => r = .returned (.int .u8 (dig (d % 16))) ∧ Below w.heap.size w w' := by
  go_enter Try.func31, Try.ntmps31
  go_wp2
  go_ret
  exact ⟨ret_int (dig_at _ (by omega) (by omega) _), by go_grown⟩

set_option maxHeartbeats 400000 in
theorem letter_11 (a b c d e f : Int) (w : World) :
    Calls Try.prog 31 #[.agg #[.int .u8 a, .int .u8 b, .int .u8 c, .int .u8 d, .int .u8 e, .int .u8 f], .int .i64 11] w fun r w' => r = .returned (.int .u8 45) ∧ Below w.heap.size w w' := by
  go_enter Try.func31, Try.ntmps31
  go_wp2
  go_ret
  exact ⟨rfl, by go_grown⟩

set_option maxHeartbeats 400000 in
theorem letter_12 (a b c d e f : Int) (w : World) (h : 0 ≤ e ∧ e ≤ 255) :
    Calls Try.prog 31 #[.agg #[.int .u8 a, .int .u8 b, .int .u8 c, .int .u8 d, .int .u8 e, .int .u8 f], .int .i64 12] w fun r w' => r = .returned (.int .u8 (dig (e / 16))) ∧ Below w.heap.size w w' := by
  go_enter Try.func31, Try.ntmps31
  go_wp2
  go_ret
  exact ⟨ret_int (dig_at _ (by omega) (by omega) _), by go_grown⟩

set_option maxHeartbeats 400000 in
theorem letter_13 (a b c d e f : Int) (w : World) (h : 0 ≤ e ∧ e ≤ 255) :
    Calls Try.prog 31 #[.agg #[.int .u8 a, .int .u8 b, .int .u8 c, .int .u8 d, .int .u8 e, .int .u8 f], .int .i64 13] w fun r w' => r = .returned (.int .u8 (dig (e % 16))) ∧ Below w.heap.size w w' := by
  go_enter Try.func31, Try.ntmps31
  go_wp2
  go_ret
  exact ⟨ret_int (dig_at _ (by omega) (by omega) _), by go_grown⟩

set_option maxHeartbeats 400000 in
theorem letter_14 (a b c d e f : Int) (w : World) :
    Calls Try.prog 31 #[.agg #[.int .u8 a, .int .u8 b, .int .u8 c, .int .u8 d, .int .u8 e, .int .u8 f], .int .i64 14] w fun r w' => r = .returned (.int .u8 45) ∧ Below w.heap.size w w' := by
  go_enter Try.func31, Try.ntmps31
  go_wp2
  go_ret
  exact ⟨rfl, by go_grown⟩

set_option maxHeartbeats 400000 in
theorem letter_15 (a b c d e f : Int) (w : World) (h : 0 ≤ f ∧ f ≤ 255) :
    Calls Try.prog 31 #[.agg #[.int .u8 a, .int .u8 b, .int .u8 c, .int .u8 d, .int .u8 e, .int .u8 f], .int .i64 15] w fun r w' => r = .returned (.int .u8 (dig (f / 16))) ∧ Below w.heap.size w w' := by
  go_enter Try.func31, Try.ntmps31
  go_wp2
  go_ret
  exact ⟨ret_int (dig_at _ (by omega) (by omega) _), by go_grown⟩

set_option maxHeartbeats 400000 in
theorem letter_16 (a b c d e f : Int) (w : World) (h : 0 ≤ f ∧ f ≤ 255) :
    Calls Try.prog 31 #[.agg #[.int .u8 a, .int .u8 b, .int .u8 c, .int .u8 d, .int .u8 e, .int .u8 f], .int .i64 16] w fun r w' => r = .returned (.int .u8 (dig (f % 16))) ∧ Below w.heap.size w w' := by
  go_enter Try.func31, Try.ntmps31
  go_wp2
  go_ret
  exact ⟨ret_int (dig_at _ (by omega) (by omega) _), by go_grown⟩

end Go.Proofs.Yticbihnnemojbaa
