/-
  Walks of the functions that turn an address into a number and back, each for every input.
-/
import Derived.Test.YticbihnnemojbaaRows
import Derived.Handy
import Derived.WalkSpells
import Derived.WalkLawsBesides
namespace Go.Proofs.Yticbihnnemojbaa
set_option linter.unusedVariables false
open Go.RowKit

/-- Six bytes as a number, the highest first. -/
def num (a b c d e f : Int) : Int := ((((a * 256 + b) * 256 + c) * 256 + d) * 256 + e) * 256 + f

theorem ret_tup {k : IntKind} {a a' : Int} {b b' : Bool} (h : a = a') (g : b = b') : Ending.returned (.tuple #[.int k a, .bool b]) = .returned (.tuple #[.int k a', .bool b']) := by rw [h, g]
theorem ret_int {k : IntKind} {a b : Int} (h : a = b) : Ending.returned (.int k a) = .returned (.int k b) := by rw [h]

/-- A number shifted by a byte, or a byte: their sum. -/
theorem or_byte (x y : Int) (hx : 0 ≤ x) (hx' : x < 72057594037927936) (hy : 0 ≤ y ∧ y ≤ 255) : bits .or .u64 (IntKind.u64.wrap (x * 256)) y = x * 256 + y := by
  obtain ⟨m, rfl⟩ := Int.eq_ofNat_of_zero_le hx
  obtain ⟨n, rfl⟩ := Int.eq_ofNat_of_zero_le hy.1
  have e : IntKind.u64.wrap ((m : Int) * 256) = ((m * 256 : Nat) : Int) := by
    rw [IntWalk.u64_in _ ⟨by omega, by omega⟩]; omega
  rw [e, u64_or_nat _ _ (by omega) (by omega)]
  have := Nat.shiftLeft_add_eq_or_of_lt (a := m) (b := n) (i := 8) (by omega)
  rw [Nat.shiftLeft_eq] at this
  have h2 : m * 256 ||| n = m * 256 + n := this.symm
  rw [h2]; omega

theorem or_zero (y : Int) (hy : 0 ≤ y ∧ y ≤ 255) : bits .or .u64 0 y = y := by
  obtain ⟨n, rfl⟩ := Int.eq_ofNat_of_zero_le hy.1
  have := u64_or_nat 0 n (by omega) (by omega)
  simpa using this

set_option maxHeartbeats 400000 in
theorem number_ref (a b c d e f : Int) (w : World) (ha : 0 ≤ a ∧ a ≤ 255) (hb : 0 ≤ b ∧ b ≤ 255) (hc : 0 ≤ c ∧ c ≤ 255) (hd : 0 ≤ d ∧ d ≤ 255) (he : 0 ≤ e ∧ e ≤ 255) (hf : 0 ≤ f ∧ f ≤ 255) :
    Calls Try.prog 22 #[.agg #[.int .u8 a, .int .u8 b, .int .u8 c, .int .u8 d, .int .u8 e, .int .u8 f]] w fun r w' => r = .returned (.int .u64 (num a b c d e f)) ∧ Below w.heap.size w w' := by
  go_enter Try.func22, Try.ntmps22
  go_wp2
  go_rounds 7
  go_ret
  exact ⟨rfl, by go_grown⟩

set_option maxHeartbeats 400000 in
theorem number_any (a b c d e f : Int) (w : World) (ha : 0 ≤ a ∧ a ≤ 255) (hb : 0 ≤ b ∧ b ≤ 255) (hc : 0 ≤ c ∧ c ≤ 255) (hd : 0 ≤ d ∧ d ≤ 255) (he : 0 ≤ e ∧ e ≤ 255) (hf : 0 ≤ f ∧ f ≤ 255) :
    Calls Try.prog 21 #[.agg #[.int .u8 a, .int .u8 b, .int .u8 c, .int .u8 d, .int .u8 e, .int .u8 f]] w fun r w' => r = .returned (.int .u64 (num a b c d e f)) ∧ Below w.heap.size w w' := by
  go_enter Try.func21, Try.ntmps21
  go_wp2
  go_rounds 7
  go_ret
  refine ⟨ret_int ?_, by go_grown⟩
  rw [or_zero a ha, or_byte a b (by omega) (by omega) hb, or_byte _ c (by omega) (by omega) hc, or_byte _ d (by omega) (by omega) hd, or_byte _ e (by omega) (by omega) he, or_byte _ f (by omega) (by omega) hf]
  rfl

theorem ret_agg6 {a b c d e f a' b' c' d' e' f' : Int} (ha : a = a') (hb : b = b') (hc : c = c') (hd : d = d') (he : e = e') (hf : f = f') :
    Ending.returned (.agg #[.int .u8 a, .int .u8 b, .int .u8 c, .int .u8 d, .int .u8 e, .int .u8 f]) = .returned (.agg #[.int .u8 a', .int .u8 b', .int .u8 c', .int .u8 d', .int .u8 e', .int .u8 f']) := by
  rw [ha, hb, hc, hd, he, hf]

set_option maxHeartbeats 400000 in
theorem from_ref (n : Int) (w : World) (hn : 0 ≤ n ∧ n ≤ 18446744073709551615) :
    Calls Try.prog 24 #[.int .u64 n] w fun r w' => r = .returned (.agg #[.int .u8 (n / 1099511627776 % 256), .int .u8 (n / 4294967296 % 256), .int .u8 (n / 16777216 % 256), .int .u8 (n / 65536 % 256), .int .u8 (n / 256 % 256), .int .u8 (n % 256)]) ∧ Below w.heap.size w w' := by
  go_enter Try.func24, Try.ntmps24
  go_wp2
  go_rounds 7
  go_returns
  refine ⟨ret_agg6 ?_ ?_ ?_ ?_ rfl rfl, by go_grown⟩
  all_goals omega

set_option maxHeartbeats 400000 in
theorem from_any (n : Int) (w : World) (hn : 0 ≤ n ∧ n ≤ 18446744073709551615) :
    Calls Try.prog 23 #[.int .u64 n] w fun r w' => r = .returned (.agg #[.int .u8 (n / 1099511627776 % 256), .int .u8 (n / 4294967296 % 256), .int .u8 (n / 16777216 % 256), .int .u8 (n / 65536 % 256), .int .u8 (n / 256 % 256), .int .u8 (n % 256)]) ∧ Below w.heap.size w w' := by
  go_enter Try.func23, Try.ntmps23
  go_wp2
  go_rounds 7
  go_returns
  exact ⟨rfl, by go_grown⟩
end Go.Proofs.Yticbihnnemojbaa
