/-
  The walks of an address's class, of its number and back, each for every input.
-/
import Derived.Test.YtfpoopllkmnagaaDoorBase
namespace Go.Proofs.YtfpoopllkmnagaaDoor
set_option linter.unusedVariables false
set_option maxRecDepth 4000
set_option linter.unusedSimpArgs false
open Go.RowKit

/-- Are two addresses one? -/
def eq6 (a b c d e f a' b' c' d' e' f' : Int) : Bool := decide (a = a' ∧ b = b' ∧ c = c' ∧ d = d' ∧ e = e' ∧ f = f')
theorem eq6_iff {a b c d e f a' b' c' d' e' f' : Int} : eq6 a b c d e f a' b' c' d' e' f' = true ↔ (a = a' ∧ b = b' ∧ c = c' ∧ d = d' ∧ e = e' ∧ f = f') := by simp [eq6]
theorem eq6_self (a b c d e f : Int) : eq6 a b c d e f a b c d e f = true := by simp [eq6]
@[go_sem] theorem eq23 (a b c d e f a' b' c' d' e' f' : Int) (w : World) :
    (Op.equalIn 10000 49 (.agg #[.int .u8 a, .int .u8 b, .int .u8 c, .int .u8 d, .int .u8 e, .int .u8 f]) (.agg #[.int .u8 a', .int .u8 b', .int .u8 c', .int .u8 d', .int .u8 e', .int .u8 f'])).run Tryd.prog w = .ok (eq6 a b c d e f a' b' c' d' e' f') w := by
  have u5 := Tryd.underlying5
  have a5 := Tryd.isAgg5
  have z5 := Tryd.sizeOf5
  rw [show (10000 : Nat) = 9999 + 1 from rfl, Op.equalIn]
  simp only [Sem.run_bind, run_underlying Tryd.underlying49, Result.andThen_ok]
  simp only [Std.Legacy.Range.forIn_eq_forIn_range', Std.Legacy.Range.size, Nat.sub_zero, Nat.add_sub_cancel, Nat.div_one, List.range'_succ, List.range'_zero, List.forIn_cons, List.forIn_nil]
  go_simp
  unfold eq6
  by_cases h1 : a = a' <;> simp [h1]
  by_cases h2 : b = b' <;> simp [h2]
  by_cases h3 : c = c' <;> simp [h3]
  by_cases h4 : d = d' <;> simp [h4]
  by_cases h5 : e = e' <;> simp [h5]
  by_cases h6 : f = f' <;> simp [h6]
def isSvc (a b c : Int) : Bool := decide (a = 1 ∧ b = 30 ∧ c = 131)
def isRes (a b c d e f : Int) : Bool := decide (a = 1 ∧ b = 128 ∧ c = 194 ∧ d = 0 ∧ e = 0 ∧ f < 16)
def isMany (a : Int) : Bool := a % 2 == 1
set_option maxHeartbeats 400000 in
theorem many_any (a b c d e f : Int) (w : World) (ha : 0 ≤ a ∧ a ≤ 255) :
    Calls Tryd.prog 47 #[.agg #[.int .u8 a, .int .u8 b, .int .u8 c, .int .u8 d, .int .u8 e, .int .u8 f]] w fun r w' => r = .returned (.bool (isMany a)) ∧ Below w.heap.size w w' := by
  go_enter Tryd.func47, Tryd.ntmps47
  go_wp2
  go_ret
  exact ⟨rfl, by go_grown⟩
set_option maxHeartbeats 400000 in
theorem service_any (a b c d e f : Int) (w : World) :
    Calls Tryd.prog 46 #[.agg #[.int .u8 a, .int .u8 b, .int .u8 c, .int .u8 d, .int .u8 e, .int .u8 f]] w fun r w' => r = .returned (.bool (isSvc a b c)) ∧ Below w.heap.size w w' := by
  go_enter Tryd.func46, Tryd.ntmps46
  go_wp2
  go_ret
  refine ⟨ret_bool ?_, by go_grown⟩
  simp [eq6, isSvc]
set_option maxHeartbeats 400000 in
theorem reserved_any (a b c d e f : Int) (w : World) :
    Calls Tryd.prog 45 #[.agg #[.int .u8 a, .int .u8 b, .int .u8 c, .int .u8 d, .int .u8 e, .int .u8 f]] w fun r w' => r = .returned (.bool (isRes a b c d e f)) ∧ Below w.heap.size w w' := by
  by_cases h : f < 16
  · go_enter Tryd.func45, Tryd.ntmps45
    go_wp2
    go_ret
    refine ⟨ret_bool ?_, by go_grown⟩
    simp [eq6, isRes, h]
  · go_enter Tryd.func45, Tryd.ntmps45
    go_wp2
    go_ret
    refine ⟨ret_bool ?_, by go_grown⟩
    simp [isRes, h]
set_option maxHeartbeats 800000 in
theorem same_any (a b c d e f x : Int) (w : World) :
    Calls Tryd.prog 48 #[.agg #[.int .u8 a, .int .u8 b, .int .u8 c, .int .u8 d, .int .u8 e, .int .u8 f], .int .u8 x] w fun r w' => r = .returned (.bool (eq6 a b c d e f x x x x x x)) ∧ Below w.heap.size w w' := by
  go_enter Tryd.func48, Tryd.ntmps48
  go_wp2
  go_rounds 7
  all_goals
    go_ret
    refine ⟨ret_bool ?_, by go_grown⟩
    simp_all [eq6]
/-- An address's class. -/
def kindOf (a b c d e f : Int) : Int :=
  if eq6 a b c d e f 0 0 0 0 0 0 then 6 else if eq6 a b c d e f 255 255 255 255 255 255 then 3 else if isRes a b c d e f then 4 else if isSvc a b c then 5 else if isMany a then 2 else 1
set_option maxHeartbeats 800000 in
theorem kind_any (a b c d e f : Int) (w : World) (ha : 0 ≤ a ∧ a ≤ 255) :
    Calls Tryd.prog 35 #[.agg #[.int .u8 a, .int .u8 b, .int .u8 c, .int .u8 d, .int .u8 e, .int .u8 f]] w fun r w' => r = .returned (.int .i64 (kindOf a b c d e f)) ∧ Below w.heap.size w w' := by
  have hx := @Later.cell
  go_enter Tryd.func35, Tryd.ntmps35
  go_wp2_with (first
    | (go_at_call 45; refine Calls.on_later (reserved_any _ _ _ _ _ _ _) ?_; intro x)
    | (go_at_call 46; refine Calls.on_later2 (service_any _ _ _ _ _ _ _) ?_; intro x)
    | (go_at_call 47; refine Calls.on_later2 (many_any _ _ _ _ _ _ _ ha) ?_; intro x))
  all_goals
    go_ret
    refine ⟨ret_int ?_, by first | (with_reducible refine below_later ?_ _; go_grown) | go_grown⟩
    simp_all [kindOf]
set_option maxHeartbeats 800000 in
theorem kind_ref (a b c d e f : Int) (w : World) (ha : 0 ≤ a ∧ a ≤ 255) :
    Calls Tryd.prog 37 #[.agg #[.int .u8 a, .int .u8 b, .int .u8 c, .int .u8 d, .int .u8 e, .int .u8 f]] w fun r w' => r = .returned (.int .i64 (kindOf a b c d e f)) ∧ Below w.heap.size w w' := by
  have hx := @Later.cell
  go_enter Tryd.func37, Tryd.ntmps37
  go_wp2_with (first
    | (go_at_call 48; refine Calls.on_later2 (same_any _ _ _ _ _ _ _ _) ?_; intro x)
    | (go_at_call 48; refine Calls.on_later (same_any _ _ _ _ _ _ _ _) ?_; intro x))
  all_goals
    go_ret
    refine ⟨ret_int ?_, by first | (with_reducible refine below_later ?_ _; go_grown) | go_grown⟩
    first | (simp_all [kindOf, isRes, isSvc, isMany]; done) | (simp_all [kindOf, isRes, isSvc, isMany]; omega)
/-- Six bytes as a number, the highest first. -/
def num (a b c d e f : Int) : Int := ((((a * 256 + b) * 256 + c) * 256 + d) * 256 + e) * 256 + f
/-- A number shifted by a byte, or a byte: their sum. -/
theorem or_byte (x y : Int) (hx : 0 ≤ x) (hx' : x < 72057594037927936) (hy : 0 ≤ y ∧ y ≤ 255) : bits .or .u64 (IntKind.u64.wrap (x * 256)) y = x * 256 + y := by
  obtain ⟨m, rfl⟩ := Int.eq_ofNat_of_zero_le hx
  obtain ⟨n, rfl⟩ := Int.eq_ofNat_of_zero_le hy.1
  have e : IntKind.u64.wrap ((m : Int) * 256) = ((m * 256 : Nat) : Int) := by
    rw [IntWalk.u64_in _ ⟨by omega, by omega⟩]; omega
  rw [e, u64_or_nat _ _ (by omega) (by omega)]
  have := Nat.shiftLeft_add_eq_or_of_lt (a := m) (b := n) (i := 8) (by omega)
  rw [Nat.shiftLeft_eq] at this
  have h2 : m * 256 ||| n = m * 256 + n := this.symm
  rw [h2]; omega
theorem or_zero (y : Int) (hy : 0 ≤ y ∧ y ≤ 255) : bits .or .u64 0 y = y := by
  obtain ⟨n, rfl⟩ := Int.eq_ofNat_of_zero_le hy.1
  have := u64_or_nat 0 n (by omega) (by omega)
  simpa using this
set_option maxHeartbeats 400000 in
theorem number_any (a b c d e f : Int) (w : World) (ha : 0 ≤ a ∧ a ≤ 255) (hb : 0 ≤ b ∧ b ≤ 255) (hc : 0 ≤ c ∧ c ≤ 255) (hd : 0 ≤ d ∧ d ≤ 255) (he : 0 ≤ e ∧ e ≤ 255) (hf : 0 ≤ f ∧ f ≤ 255) :
    Calls Tryd.prog 36 #[.agg #[.int .u8 a, .int .u8 b, .int .u8 c, .int .u8 d, .int .u8 e, .int .u8 f]] w fun r w' => r = .returned (.int .u64 (num a b c d e f)) ∧ Below w.heap.size w w' := by
  go_enter Tryd.func36, Tryd.ntmps36
  go_wp2
  go_rounds 7
  go_ret
  refine ⟨ret_int ?_, by go_grown⟩
  rw [or_zero a ha, or_byte a b (by omega) (by omega) hb, or_byte _ c (by omega) (by omega) hc, or_byte _ d (by omega) (by omega) hd, or_byte _ e (by omega) (by omega) he, or_byte _ f (by omega) (by omega) hf]
  rfl
theorem ret_agg6 {a b c d e f a' b' c' d' e' f' : Int} (ha : a = a') (hb : b = b') (hc : c = c') (hd : d = d') (he : e = e') (hf : f = f') :
    Ending.returned (.agg #[.int .u8 a, .int .u8 b, .int .u8 c, .int .u8 d, .int .u8 e, .int .u8 f]) = .returned (.agg #[.int .u8 a', .int .u8 b', .int .u8 c', .int .u8 d', .int .u8 e', .int .u8 f']) := by
  rw [ha, hb, hc, hd, he, hf]
set_option maxHeartbeats 400000 in
theorem from_any (n : Int) (w : World) (hn : 0 ≤ n ∧ n ≤ 18446744073709551615) :
    Calls Tryd.prog 39 #[.int .u64 n] w fun r w' => r = .returned (.agg #[.int .u8 (n / 1099511627776 % 256), .int .u8 (n / 4294967296 % 256), .int .u8 (n / 16777216 % 256), .int .u8 (n / 65536 % 256), .int .u8 (n / 256 % 256), .int .u8 (n % 256)]) ∧ Below w.heap.size w w' := by
  go_enter Tryd.func39, Tryd.ntmps39
  go_wp2
  go_rounds 7
  go_returns
  exact ⟨rfl, by go_grown⟩
end Go.Proofs.YtfpoopllkmnagaaDoor
