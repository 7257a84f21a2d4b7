/-
  Numbers of bridges and of ports: the walks of Number, Address, ID, Priority, each for every input.
-/
import Derived.Test.YtdpaclfnjiegbabRv
import Derived.Laws.BitsAllLaws
namespace Go.Proofs.Ytdpaclfnjiegbab
set_option linter.unusedVariables false
set_option maxRecDepth 4000
set_option linter.unusedSimpArgs false
open Go.RowKit

/-- Are two addresses one? -/
def eq6 (a b c d e f a' b' c' d' e' f' : Int) : Bool := decide (a = a' ∧ b = b' ∧ c = c' ∧ d = d' ∧ e = e' ∧ f = f')
theorem eq6_iff {a b c d e f a' b' c' d' e' f' : Int} : eq6 a b c d e f a' b' c' d' e' f' = true ↔ (a = a' ∧ b = b' ∧ c = c' ∧ d = d' ∧ e = e' ∧ f = f') := by simp [eq6]
theorem eq6_self (a b c d e f : Int) : eq6 a b c d e f a b c d e f = true := by simp [eq6]
@[go_sem] theorem eqMac (a b c d e f a' b' c' d' e' f' : Int) (w : World) :
    (Op.equalIn 10000 25 (.agg #[.int .u8 a, .int .u8 b, .int .u8 c, .int .u8 d, .int .u8 e, .int .u8 f]) (.agg #[.int .u8 a', .int .u8 b', .int .u8 c', .int .u8 d', .int .u8 e', .int .u8 f'])).run Try.prog w = .ok (eq6 a b c d e f a' b' c' d' e' f') w := by
  have u5 := Try.underlying5
  have a5 := Try.isAgg5
  have z5 := Try.sizeOf5
  rw [show (10000 : Nat) = 9999 + 1 from rfl, Op.equalIn]
  simp only [Sem.run_bind, run_underlying Try.underlying25, Result.andThen_ok]
  simp only [Std.Legacy.Range.forIn_eq_forIn_range', Std.Legacy.Range.size, Nat.sub_zero, Nat.add_sub_cancel, Nat.div_one, List.range'_succ, List.range'_zero, List.forIn_cons, List.forIn_nil]
  go_simp
  unfold eq6
  by_cases h1 : a = a' <;> simp [h1]
  by_cases h2 : b = b' <;> simp [h2]
  by_cases h3 : c = c' <;> simp [h3]
  by_cases h4 : d = d' <;> simp [h4]
  by_cases h5 : e = e' <;> simp [h5]
  by_cases h6 : f = f' <;> simp [h6]
theorem and_num (p : Int) (hp : 0 ≤ p ∧ p ≤ 65535) : bits .and .u16 p 4095 = p % 4096 := by
  obtain ⟨n, rfl⟩ := Int.eq_ofNat_of_zero_le hp.1
  have h := u16_and_nat n 4095 (by omega) (by omega)
  have e : n &&& 4095 = n % 4096 := Nat.and_two_pow_sub_one_eq_mod n 12
  rw [e] at h
  rw [show (4095 : Int) = ((4095 : Nat) : Int) from rfl, h]
  omega
set_option maxHeartbeats 400000 in
theorem number_any (p : Int) (w : World) (hp : 0 ≤ p ∧ p ≤ 65535) :
    Calls Try.prog 12 #[.int .u16 p] w fun e w' => e = .returned (.int .u16 (p % 4096)) ∧ Below w.heap.size w w' := by
  go_enter Try.func12, Try.ntmps12
  go_wp2
  go_ret
  exact ⟨ret_int (and_num p hp), by go_grown⟩
set_option maxHeartbeats 400000 in
theorem priority_any (n : Int) (w : World) (hn : 0 ≤ n ∧ n ≤ 18446744073709551615) :
    Calls Try.prog 5 #[.int .u64 n] w fun e w' => e = .returned (.int .u16 (n / 281474976710656)) ∧ Below w.heap.size w w' := by
  go_enter Try.func5, Try.ntmps5
  go_wp2
  go_ret
  exact ⟨rfl, by go_grown⟩
set_option maxHeartbeats 400000 in
theorem address_any (n : Int) (w : World) (hn : 0 ≤ n ∧ n ≤ 18446744073709551615) :
    Calls Try.prog 6 #[.int .u64 n] w fun r w' => r = .returned (.agg #[.int .u8 (n / 1099511627776 % 256), .int .u8 (n / 4294967296 % 256), .int .u8 (n / 16777216 % 256), .int .u8 (n / 65536 % 256), .int .u8 (n / 256 % 256), .int .u8 (n % 256)]) ∧ Below w.heap.size w w' := by
  go_enter Try.func6, Try.ntmps6
  go_wp2
  go_rounds 7
  go_returns
  exact ⟨rfl, by go_grown⟩
/-- Six bytes as a number behind another, the highest first. -/
def num (q a b c d e f : Int) : Int := (((((q * 256 + a) * 256 + b) * 256 + c) * 256 + d) * 256 + e) * 256 + f
/-- A number shifted by a byte, or a byte: their sum. -/
theorem or_byte (x y : Int) (hx : 0 ≤ x) (hx' : x < 72057594037927936) (hy : 0 ≤ y ∧ y ≤ 255) : bits .or .u64 (IntKind.u64.wrap (x * 256)) y = x * 256 + y := by
  obtain ⟨m, rfl⟩ := Int.eq_ofNat_of_zero_le hx
  obtain ⟨n, rfl⟩ := Int.eq_ofNat_of_zero_le hy.1
  have e : IntKind.u64.wrap ((m : Int) * 256) = ((m * 256 : Nat) : Int) := by
    rw [IntWalk.u64_in _ ⟨by omega, by omega⟩]; omega
  rw [e, u64_or_nat _ _ (by omega) (by omega)]
  have := Nat.shiftLeft_add_eq_or_of_lt (a := m) (b := n) (i := 8) (by omega)
  rw [Nat.shiftLeft_eq] at this
  have h2 : m * 256 ||| n = m * 256 + n := this.symm
  rw [h2]; omega
@[go_sem] theorem ixM0 (a b c d e f : Int) (w : World) : (Instr.index 25 (.agg #[.int .u8 a, .int .u8 b, .int .u8 c, .int .u8 d, .int .u8 e, .int .u8 f]) (.int .i64 0)).run Try.prog w = .ok (.int .u8 a) w := by kernel_rfl
@[go_sem] theorem ixM1 (a b c d e f : Int) (w : World) : (Instr.index 25 (.agg #[.int .u8 a, .int .u8 b, .int .u8 c, .int .u8 d, .int .u8 e, .int .u8 f]) (.int .i64 1)).run Try.prog w = .ok (.int .u8 b) w := by kernel_rfl
@[go_sem] theorem ixM2 (a b c d e f : Int) (w : World) : (Instr.index 25 (.agg #[.int .u8 a, .int .u8 b, .int .u8 c, .int .u8 d, .int .u8 e, .int .u8 f]) (.int .i64 2)).run Try.prog w = .ok (.int .u8 c) w := by kernel_rfl
@[go_sem] theorem ixM3 (a b c d e f : Int) (w : World) : (Instr.index 25 (.agg #[.int .u8 a, .int .u8 b, .int .u8 c, .int .u8 d, .int .u8 e, .int .u8 f]) (.int .i64 3)).run Try.prog w = .ok (.int .u8 d) w := by kernel_rfl
@[go_sem] theorem ixM4 (a b c d e f : Int) (w : World) : (Instr.index 25 (.agg #[.int .u8 a, .int .u8 b, .int .u8 c, .int .u8 d, .int .u8 e, .int .u8 f]) (.int .i64 4)).run Try.prog w = .ok (.int .u8 e) w := by kernel_rfl
@[go_sem] theorem ixM5 (a b c d e f : Int) (w : World) : (Instr.index 25 (.agg #[.int .u8 a, .int .u8 b, .int .u8 c, .int .u8 d, .int .u8 e, .int .u8 f]) (.int .i64 5)).run Try.prog w = .ok (.int .u8 f) w := by kernel_rfl
set_option maxHeartbeats 400000 in
theorem id_any (q a b c d e f : Int) (w : World) (hq : 0 ≤ q ∧ q ≤ 65535) (ha : 0 ≤ a ∧ a ≤ 255) (hb : 0 ≤ b ∧ b ≤ 255) (hc : 0 ≤ c ∧ c ≤ 255) (hd : 0 ≤ d ∧ d ≤ 255) (he : 0 ≤ e ∧ e ≤ 255) (hf : 0 ≤ f ∧ f ≤ 255) :
    Calls Try.prog 4 #[.int .u16 q, .agg #[.int .u8 a, .int .u8 b, .int .u8 c, .int .u8 d, .int .u8 e, .int .u8 f]] w fun r w' => r = .returned (.int .u64 (num q a b c d e f)) ∧ Below w.heap.size w w' := by
  go_enter Try.func4, Try.ntmps4
  go_wp2
  go_rounds 7
  go_ret
  refine ⟨ret_int ?_, by go_grown⟩
  rw [show bits .or .u64 (q * 256) a = q * 256 + a by have h := or_byte q a (by omega) (by omega) ha; rwa [IntWalk.u64_in _ ⟨by omega, by omega⟩] at h, or_byte _ b (by omega) (by omega) hb, or_byte _ c (by omega) (by omega) hc, or_byte _ d (by omega) (by omega) hd, or_byte _ e (by omega) (by omega) he, or_byte _ f (by omega) (by omega) hf]
  rfl
end Go.Proofs.Ytdpaclfnjiegbab
