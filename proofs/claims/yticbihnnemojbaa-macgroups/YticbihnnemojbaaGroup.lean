/-
  Walks of the functions on services' groups, each for every input.
-/
import Derived.Test.YticbihnnemojbaaKind
namespace Go.Proofs.Yticbihnnemojbaa
set_option linter.unusedVariables false
open Go.RowKit

set_option maxHeartbeats 400000 in
theorem group_no (n : Int) (w : World) (h : n < 1 ∨ 16777215 < n) :
    Calls Try.prog 17 #[.int .i64 n] w fun r w' => r = .returned (.tuple #[.agg #[.int .u8 0, .int .u8 0, .int .u8 0, .int .u8 0, .int .u8 0, .int .u8 0], .int .i64 1]) ∧ Below w.heap.size w w' := by
  go_enter Try.func17, Try.ntmps17
  by_cases h1 : n < 1
  all_goals
    go_wp2
    go_returns
    exact ⟨rfl, by go_grown⟩

set_option maxHeartbeats 400000 in
theorem group_ref_no (n : Int) (w : World) (h : n < 1 ∨ 16777215 < n) :
    Calls Try.prog 18 #[.int .i64 n] w fun r w' => r = .returned (.tuple #[.agg #[.int .u8 0, .int .u8 0, .int .u8 0, .int .u8 0, .int .u8 0, .int .u8 0], .int .i64 1]) ∧ Below w.heap.size w w' := by
  go_enter Try.func18, Try.ntmps18
  by_cases h1 : n < 1
  all_goals
    go_wp2
    go_returns
    exact ⟨rfl, by go_grown⟩

theorem from_group (n : Int) (w : World) (h : 1 ≤ n ∧ n ≤ 16777215) :
    Calls Try.prog 23 #[.int .u64 (1230558461952 + n)] w fun r w' => r = .returned (.agg #[.int .u8 1, .int .u8 30, .int .u8 131, .int .u8 (n / 65536), .int .u8 (n / 256 % 256), .int .u8 (n % 256)]) ∧ Below w.heap.size w w' := by
  refine (from_any (1230558461952 + n) w (by omega)).mono fun r w' ⟨hr, hb⟩ => ⟨hr.trans (ret_agg6 ?_ ?_ ?_ ?_ ?_ ?_), hb⟩
  all_goals omega

theorem from_ref_group (n : Int) (w : World) (h : 1 ≤ n ∧ n ≤ 16777215) :
    Calls Try.prog 24 #[.int .u64 (1230558461952 + n)] w fun r w' => r = .returned (.agg #[.int .u8 1, .int .u8 30, .int .u8 131, .int .u8 (n / 65536), .int .u8 (n / 256 % 256), .int .u8 (n % 256)]) ∧ Below w.heap.size w w' := by
  refine (from_ref (1230558461952 + n) w (by omega)).mono fun r w' ⟨hr, hb⟩ => ⟨hr.trans (ret_agg6 ?_ ?_ ?_ ?_ ?_ ?_), hb⟩
  all_goals omega

set_option maxHeartbeats 400000 in
theorem group_yes (n : Int) (w : World) (h : 1 ≤ n ∧ n ≤ 16777215) :
    Calls Try.prog 17 #[.int .i64 n] w fun r w' => r = .returned (.tuple #[.agg #[.int .u8 1, .int .u8 30, .int .u8 131, .int .u8 (n / 65536), .int .u8 (n / 256 % 256), .int .u8 (n % 256)], .int .i64 0]) ∧ Below w.heap.size w w' := by
  have hx := @Later.cell
  have hy := @Later.frozen
  go_enter Try.func17, Try.ntmps17
  go_wp2_with (go_at_call 23; refine Calls.on_later (from_group _ _ h) ?_; intro x)
  have hbx := below_later (w := w) (by go_grown) x
  refine bodyPost_ret (v := .tuple #[.agg #[.int .u8 1, .int .u8 30, .int .u8 131, .int .u8 (n / 65536), .int .u8 (n / 256 % 256), .int .u8 (n % 256)], .int .i64 0]) (by simp [results, Try.results17, go_sem, hx]) rfl ⟨rfl, by go_grown⟩

set_option maxHeartbeats 400000 in
theorem group_ref_yes (n : Int) (w : World) (h : 1 ≤ n ∧ n ≤ 16777215) :
    Calls Try.prog 18 #[.int .i64 n] w fun r w' => r = .returned (.tuple #[.agg #[.int .u8 1, .int .u8 30, .int .u8 131, .int .u8 (n / 65536), .int .u8 (n / 256 % 256), .int .u8 (n % 256)], .int .i64 0]) ∧ Below w.heap.size w w' := by
  have hx := @Later.cell
  have hy := @Later.frozen
  go_enter Try.func18, Try.ntmps18
  go_wp2_with (go_at_call 24; refine Calls.on_later (from_ref_group _ _ h) ?_; intro x)
  have hbx := below_later (w := w) (by go_grown) x
  refine bodyPost_ret (v := .tuple #[.agg #[.int .u8 1, .int .u8 30, .int .u8 131, .int .u8 (n / 65536), .int .u8 (n / 256 % 256), .int .u8 (n % 256)], .int .i64 0]) (by simp [results, Try.results18, go_sem, hx]) rfl ⟨rfl, by go_grown⟩

/-- Whose group an address is: 0: nobody's. -/
def isidOf (a b c d e f : Int) : Int := if isSvc a b c then (d * 256 + e) * 256 + f else 0

theorem and_low (x : Int) (h : 0 ≤ x) (h' : x < 18446744073709551616) : bits .and .u64 x 16777215 = x % 16777216 := by
  obtain ⟨m, rfl⟩ := Int.eq_ofNat_of_zero_le h
  rw [show (16777215 : Int) = ((16777215 : Nat) : Int) from rfl, u64_and_nat _ _ (by omega) (by omega)]
  have := Nat.and_two_pow_sub_one_eq_mod m 24
  have e : m &&& 16777215 = m % 16777216 := this
  rw [e]; rfl



theorem num_bd {a b c d e f : Int} (ha : 0 ≤ a ∧ a ≤ 255) (hb : 0 ≤ b ∧ b ≤ 255) (hc : 0 ≤ c ∧ c ≤ 255) (hd : 0 ≤ d ∧ d ≤ 255) (he : 0 ≤ e ∧ e ≤ 255) (hf : 0 ≤ f ∧ f ≤ 255) :
    0 ≤ num a b c d e f ∧ num a b c d e f ≤ 281474976710655 := by unfold num; omega

set_option maxHeartbeats 400000 in
theorem isid_any (a b c d e f : Int) (w : World) (ha : 0 ≤ a ∧ a ≤ 255) (hb : 0 ≤ b ∧ b ≤ 255) (hc : 0 ≤ c ∧ c ≤ 255) (hd : 0 ≤ d ∧ d ≤ 255) (he : 0 ≤ e ∧ e ≤ 255) (hf : 0 ≤ f ∧ f ≤ 255) :
    Calls Try.prog 19 #[.agg #[.int .u8 a, .int .u8 b, .int .u8 c, .int .u8 d, .int .u8 e, .int .u8 f]] w fun r w' => r = .returned (.tuple #[.int .i64 (isidOf a b c d e f), .bool (isidOf a b c d e f != 0)]) ∧ Below w.heap.size w w' := by
  have hx := @Later.cell
  have hn := num_bd ha hb hc hd he hf
  have hl : bits .and .u64 (num a b c d e f) 16777215 = (d * 256 + e) * 256 + f := by rw [and_low _ (by omega) (by omega)]; unfold num; omega
  go_enter Try.func19, Try.ntmps19
  go_wp2_with (first
    | (go_at_call 21; refine Calls.on_later (number_any _ _ _ _ _ _ _ ha hb hc hd he hf) ?_; intro x)
    | (go_at_call 27; refine Calls.on_later2 (service_any _ _ _ _ _ _ _) ?_; intro x))
  all_goals
    go_ret2
    refine ⟨ret_tup ?_ ?_, below_later (by go_grown) _⟩
    all_goals simp_all [isidOf]

set_option maxHeartbeats 400000 in
theorem isid_ref (a b c d e f : Int) (w : World) (ha : 0 ≤ a ∧ a ≤ 255) (hb : 0 ≤ b ∧ b ≤ 255) (hc : 0 ≤ c ∧ c ≤ 255) (hd : 0 ≤ d ∧ d ≤ 255) (he : 0 ≤ e ∧ e ≤ 255) (hf : 0 ≤ f ∧ f ≤ 255) :
    Calls Try.prog 20 #[.agg #[.int .u8 a, .int .u8 b, .int .u8 c, .int .u8 d, .int .u8 e, .int .u8 f]] w fun r w' => r = .returned (.tuple #[.int .i64 (isidOf a b c d e f), .bool (isidOf a b c d e f != 0)]) ∧ Below w.heap.size w w' := by
  have hx := @Later.cell
  have hn := num_bd ha hb hc hd he hf
  have hs : Hid (isSvc a b c = decide (num a b c d e f / 16777216 = 73347)) := by
    unfold Hid isSvc num; rw [decide_eq_decide]; omega
  have hm : Hid (num a b c d e f % 16777216 = (d * 256 + e) * 256 + f) := by unfold Hid num; omega
  go_enter Try.func20, Try.ntmps20
  go_wp2_with (first
    | (go_at_call 22; refine Calls.on_later (number_ref _ _ _ _ _ _ _ ha hb hc hd he hf) ?_; intro x))
  all_goals
    go_ret2
    refine ⟨ret_tup ?_ ?_, below_later (by go_grown) _⟩
    all_goals (have h1 := hs.out; have h2 := hm.out; unfold isidOf; rw [← h2, h1]; simp_all)
end Go.Proofs.Yticbihnnemojbaa
