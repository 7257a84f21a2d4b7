/-
  The walks of an address's class, of its number and back, each for every input.
-/
import Derived.Test.YtcejfkkhmlebdaaRv
import Derived.Laws.BitsAllLaws
namespace Go.Proofs.Ytcejfkkhmlebdaa
set_option linter.unusedVariables false
set_option maxRecDepth 4000
set_option linter.unusedSimpArgs false
open Go.RowKit

/-- Are two addresses one? -/
def eq6 (a b c d e f a' b' c' d' e' f' : Int) : Bool := decide (a = a' ∧ b = b' ∧ c = c' ∧ d = d' ∧ e = e' ∧ f = f')
theorem eq6_iff {a b c d e f a' b' c' d' e' f' : Int} : eq6 a b c d e f a' b' c' d' e' f' = true ↔ (a = a' ∧ b = b' ∧ c = c' ∧ d = d' ∧ e = e' ∧ f = f') := by simp [eq6]
theorem eq6_self (a b c d e f : Int) : eq6 a b c d e f a b c d e f = true := by simp [eq6]
theorem eqMac9 (n : Nat) (a b c d e f a' b' c' d' e' f' : Int) (w : World) :
    (Op.equalIn (n + 1 + 1) 42 (.agg #[.int .u8 a, .int .u8 b, .int .u8 c, .int .u8 d, .int .u8 e, .int .u8 f]) (.agg #[.int .u8 a', .int .u8 b', .int .u8 c', .int .u8 d', .int .u8 e', .int .u8 f'])).run Try.prog w = .ok (eq6 a b c d e f a' b' c' d' e' f') w := by
  have u5 := Try.underlying5
  have a5 := Try.isAgg5
  have z5 := Try.sizeOf5
  rw [Op.equalIn]
  simp only [Sem.run_bind, run_underlying Try.underlying42, Result.andThen_ok]
  simp only [Std.Legacy.Range.forIn_eq_forIn_range', Std.Legacy.Range.size, Nat.sub_zero, Nat.add_sub_cancel, Nat.div_one, List.range'_succ, List.range'_zero, List.forIn_cons, List.forIn_nil]
  go_simp
  unfold eq6
  by_cases h1 : a = a' <;> simp [h1]
  by_cases h2 : b = b' <;> simp [h2]
  by_cases h3 : c = c' <;> simp [h3]
  by_cases h4 : d = d' <;> simp [h4]
  by_cases h5 : e = e' <;> simp [h5]
  by_cases h6 : f = f' <;> simp [h6]
@[go_sem] theorem eqMac (a b c d e f a' b' c' d' e' f' : Int) (w : World) :
    (Op.equalIn 10000 42 (.agg #[.int .u8 a, .int .u8 b, .int .u8 c, .int .u8 d, .int .u8 e, .int .u8 f]) (.agg #[.int .u8 a', .int .u8 b', .int .u8 c', .int .u8 d', .int .u8 e', .int .u8 f'])).run Try.prog w = .ok (eq6 a b c d e f a' b' c' d' e' f') w := eqMac9 9998 a b c d e f a' b' c' d' e' f' w
def isSvc (a b c : Int) : Bool := decide (a = 1 ∧ b = 30 ∧ c = 131)
def isRes (a b c d e f : Int) : Bool := decide (a = 1 ∧ b = 128 ∧ c = 194 ∧ d = 0 ∧ e = 0 ∧ f < 16)
def isMany (a : Int) : Bool := a % 2 == 1
set_option maxHeartbeats 400000 in
theorem many_any (a b c d e f : Int) (w : World) (ha : 0 ≤ a ∧ a ≤ 255) :
    Calls Try.prog 18 #[.agg #[.int .u8 a, .int .u8 b, .int .u8 c, .int .u8 d, .int .u8 e, .int .u8 f]] w fun r w' => r = .returned (.bool (isMany a)) ∧ Below w.heap.size w w' := by
  go_enter Try.func18, Try.ntmps18
  go_wp2
  go_ret
  exact ⟨rfl, by go_grown⟩
set_option maxHeartbeats 400000 in
theorem service_any (a b c d e f : Int) (w : World) :
    Calls Try.prog 39 #[.agg #[.int .u8 a, .int .u8 b, .int .u8 c, .int .u8 d, .int .u8 e, .int .u8 f]] w fun r w' => r = .returned (.bool (isSvc a b c)) ∧ Below w.heap.size w w' := by
  go_enter Try.func39, Try.ntmps39
  go_wp2
  go_ret
  refine ⟨ret_bool ?_, by go_grown⟩
  simp [eq6, isSvc]
set_option maxHeartbeats 400000 in
theorem reserved_any (a b c d e f : Int) (w : World) :
    Calls Try.prog 38 #[.agg #[.int .u8 a, .int .u8 b, .int .u8 c, .int .u8 d, .int .u8 e, .int .u8 f]] w fun r w' => r = .returned (.bool (isRes a b c d e f)) ∧ Below w.heap.size w w' := by
  by_cases h : f < 16
  · go_enter Try.func38, Try.ntmps38
    go_wp2
    go_ret
    refine ⟨ret_bool ?_, by go_grown⟩
    simp [eq6, isRes, h]
  · go_enter Try.func38, Try.ntmps38
    go_wp2
    go_ret
    refine ⟨ret_bool ?_, by go_grown⟩
    simp [isRes, h]
set_option maxHeartbeats 800000 in
theorem same_any (a b c d e f x : Int) (w : World) :
    Calls Try.prog 30 #[.agg #[.int .u8 a, .int .u8 b, .int .u8 c, .int .u8 d, .int .u8 e, .int .u8 f], .int .u8 x] w fun r w' => r = .returned (.bool (eq6 a b c d e f x x x x x x)) ∧ Below w.heap.size w w' := by
  go_enter Try.func30, Try.ntmps30
  go_wp2
  go_rounds 7
  all_goals
    go_ret
    refine ⟨ret_bool ?_, by go_grown⟩
    simp_all [eq6]
/-- An address's class. -/
def kindOf (a b c d e f : Int) : Int :=
  if eq6 a b c d e f 0 0 0 0 0 0 then 6 else if eq6 a b c d e f 255 255 255 255 255 255 then 3 else if isRes a b c d e f then 4 else if isSvc a b c then 5 else if isMany a then 2 else 1
set_option maxHeartbeats 800000 in
theorem kind_any (a b c d e f : Int) (w : World) (ha : 0 ≤ a ∧ a ≤ 255) :
    Calls Try.prog 27 #[.agg #[.int .u8 a, .int .u8 b, .int .u8 c, .int .u8 d, .int .u8 e, .int .u8 f]] w fun r w' => r = .returned (.int .i64 (kindOf a b c d e f)) ∧ Below w.heap.size w w' := by
  have hx := @Later.cell
  go_enter Try.func27, Try.ntmps27
  go_wp2_with (first
    | (go_at_call 38; refine Calls.on_later (reserved_any _ _ _ _ _ _ _) ?_; intro x)
    | (go_at_call 39; refine Calls.on_later2 (service_any _ _ _ _ _ _ _) ?_; intro x)
    | (go_at_call 18; refine Calls.on_later2 (many_any _ _ _ _ _ _ _ ha) ?_; intro x))
  all_goals
    go_ret
    refine ⟨ret_int ?_, by first | (with_reducible refine below_later ?_ _; go_grown) | go_grown⟩
    simp_all [kindOf]
set_option maxHeartbeats 800000 in
theorem kind_ref (a b c d e f : Int) (w : World) (ha : 0 ≤ a ∧ a ≤ 255) :
    Calls Try.prog 22 #[.agg #[.int .u8 a, .int .u8 b, .int .u8 c, .int .u8 d, .int .u8 e, .int .u8 f]] w fun r w' => r = .returned (.int .i64 (kindOf a b c d e f)) ∧ Below w.heap.size w w' := by
  have hx := @Later.cell
  go_enter Try.func22, Try.ntmps22
  go_wp2_with (first
    | (go_at_call 30; refine Calls.on_later2 (same_any _ _ _ _ _ _ _ _) ?_; intro x)
    | (go_at_call 30; refine Calls.on_later (same_any _ _ _ _ _ _ _ _) ?_; intro x))
  all_goals
    go_ret
    refine ⟨ret_int ?_, by first | (with_reducible refine below_later ?_ _; go_grown) | go_grown⟩
    first | (simp_all [kindOf, isRes, isSvc, isMany]; done) | (simp_all [kindOf, isRes, isSvc, isMany]; omega)
/-- Six bytes as a number, the highest first. -/
def num (a b c d e f : Int) : Int := ((((a * 256 + b) * 256 + c) * 256 + d) * 256 + e) * 256 + f
end Go.Proofs.Ytcejfkkhmlebdaa
