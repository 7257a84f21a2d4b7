/-
  MacApart: for every two numbers and three addresses, groups of unlike services are unlike, of class Service and to more than one, and package mac's order is one order. No condition.
-/
import Derived.Test.YticbihnnemojbaaOpen
import Derived.Test.YticbihnnemojbaaAwake
namespace Go.Proofs.Yticbihnnemojbaa
open Go.ChangeShapes Go.WideShapes Go.ChangeAt Go.RowKit
open Go.ChangeMaps (open_string shut_string)
set_option linter.unusedVariables false

theorem less_yes (a b c d e f a' b' c' d' e' f' : Int) (w : World) (ha : 0 ≤ a ∧ a ≤ 255) (hb : 0 ≤ b ∧ b ≤ 255) (hc : 0 ≤ c ∧ c ≤ 255) (hd : 0 ≤ d ∧ d ≤ 255) (he : 0 ≤ e ∧ e ≤ 255) (hf : 0 ≤ f ∧ f ≤ 255)
    (ha' : 0 ≤ a' ∧ a' ≤ 255) (hb' : 0 ≤ b' ∧ b' ≤ 255) (hc' : 0 ≤ c' ∧ c' ≤ 255) (hd' : 0 ≤ d' ∧ d' ≤ 255) (he' : 0 ≤ e' ∧ e' ≤ 255) (hf' : 0 ≤ f' ∧ f' ≤ 255) (h : num a b c d e f < num a' b' c' d' e' f') :
    Calls Try.prog 25 #[.agg #[.int .u8 a, .int .u8 b, .int .u8 c, .int .u8 d, .int .u8 e, .int .u8 f], .agg #[.int .u8 a', .int .u8 b', .int .u8 c', .int .u8 d', .int .u8 e', .int .u8 f']] w fun r w' => r = .returned (.bool true) ∧ Below w.heap.size w w' := by
  have := less_any a b c d e f a' b' c' d' e' f' w ha hb hc hd he hf ha' hb' hc' hd' he' hf'
  rwa [decide_eq_true h] at this
theorem less_no (a b c d e f a' b' c' d' e' f' : Int) (w : World) (ha : 0 ≤ a ∧ a ≤ 255) (hb : 0 ≤ b ∧ b ≤ 255) (hc : 0 ≤ c ∧ c ≤ 255) (hd : 0 ≤ d ∧ d ≤ 255) (he : 0 ≤ e ∧ e ≤ 255) (hf : 0 ≤ f ∧ f ≤ 255)
    (ha' : 0 ≤ a' ∧ a' ≤ 255) (hb' : 0 ≤ b' ∧ b' ≤ 255) (hc' : 0 ≤ c' ∧ c' ≤ 255) (hd' : 0 ≤ d' ∧ d' ≤ 255) (he' : 0 ≤ e' ∧ e' ≤ 255) (hf' : 0 ≤ f' ∧ f' ≤ 255) (h : ¬ num a b c d e f < num a' b' c' d' e' f') :
    Calls Try.prog 25 #[.agg #[.int .u8 a, .int .u8 b, .int .u8 c, .int .u8 d, .int .u8 e, .int .u8 f], .agg #[.int .u8 a', .int .u8 b', .int .u8 c', .int .u8 d', .int .u8 e', .int .u8 f']] w fun r w' => r = .returned (.bool false) ∧ Below w.heap.size w w' := by
  have := less_any a b c d e f a' b' c' d' e' f' w ha hb hc hd he hf ha' hb' hc' hd' he' hf'
  rwa [decide_eq_false h] at this
theorem kind_group (n : Int) (w : World) (h : 1 ≤ n ∧ n ≤ 16777215) : Calls Try.prog 9 #[.agg #[.int .u8 1, .int .u8 30, .int .u8 131, .int .u8 (n / 65536), .int .u8 (n / 256 % 256), .int .u8 (n % 256)]] w fun r w' => r = .returned (.int .i64 5) ∧ Below w.heap.size w w' := by
  have := kind_any 1 30 131 (n / 65536) (n / 256 % 256) (n % 256) w (by omega)
  rwa [show kindOf 1 30 131 (n / 65536) (n / 256 % 256) (n % 256) = 5 from by simp [kindOf, eq6, isRes, isSvc]] at this
theorem many_group (n : Int) (w : World) : Calls Try.prog 11 #[.agg #[.int .u8 1, .int .u8 30, .int .u8 131, .int .u8 (n / 65536), .int .u8 (n / 256 % 256), .int .u8 (n % 256)]] w fun r w' => r = .returned (.bool true) ∧ Below w.heap.size w w' :=
  many_any 1 30 131 (n / 65536) (n / 256 % 256) (n % 256) w (by omega)
theorem eq_group (n m : Int) (h : 1 ≤ n ∧ n ≤ 16777215) (k : 1 ≤ m ∧ m ≤ 16777215) : eq6 1 30 131 (n / 65536) (n / 256 % 256) (n % 256) 1 30 131 (m / 65536) (m / 256 % 256) (m % 256) = (n == m) := by
  unfold eq6
  by_cases e : n = m
  · subst e; simp
  · rw [decide_eq_false (by omega)]; simp [e]
theorem tri (a b c d e f a' b' c' d' e' f' : Int) (ha : 0 ≤ a ∧ a ≤ 255) (hb : 0 ≤ b ∧ b ≤ 255) (hc : 0 ≤ c ∧ c ≤ 255) (hd : 0 ≤ d ∧ d ≤ 255) (he : 0 ≤ e ∧ e ≤ 255) (hf : 0 ≤ f ∧ f ≤ 255)
    (ha' : 0 ≤ a' ∧ a' ≤ 255) (hb' : 0 ≤ b' ∧ b' ≤ 255) (hc' : 0 ≤ c' ∧ c' ≤ 255) (hd' : 0 ≤ d' ∧ d' ≤ 255) (he' : 0 ≤ e' ∧ e' ≤ 255) (hf' : 0 ≤ f' ∧ f' ≤ 255) :
    (num a b c d e f < num a' b' c' d' e' f' ∧ ¬ num a' b' c' d' e' f' < num a b c d e f ∧ eq6 a b c d e f a' b' c' d' e' f' = false) ∨
    (¬ num a b c d e f < num a' b' c' d' e' f' ∧ num a' b' c' d' e' f' < num a b c d e f ∧ eq6 a b c d e f a' b' c' d' e' f' = false) ∨
    (¬ num a b c d e f < num a' b' c' d' e' f' ∧ ¬ num a' b' c' d' e' f' < num a b c d e f ∧ eq6 a b c d e f a' b' c' d' e' f' = true) := by
  by_cases h : eq6 a b c d e f a' b' c' d' e' f' = true
  · have h' := eq6_iff.mp h
    obtain ⟨rfl, rfl, rfl, rfl, rfl, rfl⟩ := h'
    exact .inr (.inr ⟨by omega, by omega, h⟩)
  · have h' : ¬ (a = a' ∧ b = b' ∧ c = c' ∧ d = d' ∧ e = e' ∧ f = f') := fun k => h (eq6_iff.mpr k)
    have hf : eq6 a b c d e f a' b' c' d' e' f' = false := by simpa using h
    have hne : num a b c d e f ≠ num a' b' c' d' e' f' := by unfold num; omega
    by_cases l : num a b c d e f < num a' b' c' d' e' f'
    · exact .inl ⟨l, by omega, hf⟩
    · exact .inr (.inl ⟨l, by omega, hf⟩)

set_option maxHeartbeats 1000000 in
theorem apart_yy (x0 x1 : Int) (x20 x21 x22 x23 x24 x25 x30 x31 x32 x33 x34 x35 x40 x41 x42 x43 x44 x45 : Int) (w : World) (w0 : (Lit.int .i64 x0).wf = true) (w1 : (Lit.int .i64 x1).wf = true) (b20 : 0 ≤ x20 ∧ x20 ≤ 255) (b21 : 0 ≤ x21 ∧ x21 ≤ 255) (b22 : 0 ≤ x22 ∧ x22 ≤ 255) (b23 : 0 ≤ x23 ∧ x23 ≤ 255) (b24 : 0 ≤ x24 ∧ x24 ≤ 255) (b25 : 0 ≤ x25 ∧ x25 ≤ 255) (b30 : 0 ≤ x30 ∧ x30 ≤ 255) (b31 : 0 ≤ x31 ∧ x31 ≤ 255) (b32 : 0 ≤ x32 ∧ x32 ≤ 255) (b33 : 0 ≤ x33 ∧ x33 ≤ 255) (b34 : 0 ≤ x34 ∧ x34 ≤ 255) (b35 : 0 ≤ x35 ∧ x35 ≤ 255) (b40 : 0 ≤ x40 ∧ x40 ≤ 255) (b41 : 0 ≤ x41 ∧ x41 ≤ 255) (b42 : 0 ≤ x42 ∧ x42 ≤ 255) (b43 : 0 ≤ x43 ∧ x43 ≤ 255) (b44 : 0 ≤ x44 ∧ x44 ≤ 255) (b45 : 0 ≤ x45 ∧ x45 ≤ 255) (h0 : 1 ≤ x0 ∧ x0 ≤ 16777215) (h1 : 1 ≤ x1 ∧ x1 ≤ 16777215) :
    Calls Try.prog 8 #[.int .i64 x0, .int .i64 x1, .agg #[.int .u8 x20, .int .u8 x21, .int .u8 x22, .int .u8 x23, .int .u8 x24, .int .u8 x25], .agg #[.int .u8 x30, .int .u8 x31, .int .u8 x32, .int .u8 x33, .int .u8 x34, .int .u8 x35], .agg #[.int .u8 x40, .int .u8 x41, .int .u8 x42, .int .u8 x43, .int .u8 x44, .int .u8 x45]] w fun r w' => r = .returned (.bool true) ∧ Below w.heap.size w w' := by
  have hx := @Later.cell
  have hg := eq_group x0 x1 h0 h1
  go_enter Try.func8, Try.ntmps8
  go_wp2_with fail
  refine Calls.on_later (group_yes _ _ h0) ?_
  intro y1
  have hz := y1.below.size
  simp only [World.size_alloc] at hz
  have z0 : w.heap.size < y1.val.heap.size := by omega
  have z1 : w.heap.size + 1 < y1.val.heap.size := by omega
  have z2 : w.heap.size + 1 + 1 < y1.val.heap.size := by omega
  clear hz
  go_wp2_with fail
  refine Calls.on_later (group_yes _ _ h1) ?_
  intro y2
  have hz := y2.below.size
  simp only [World.size_alloc] at hz
  have z3 : w.heap.size < y1.val.heap.size + 1 := by omega
  have z4 : w.heap.size + 1 < y1.val.heap.size + 1 := by omega
  have z5 : w.heap.size + 1 + 1 < y1.val.heap.size + 1 := by omega
  have z6 : w.heap.size < y2.val.heap.size := by omega
  have z7 : w.heap.size + 1 < y2.val.heap.size := by omega
  have z8 : w.heap.size + 1 + 1 < y2.val.heap.size := by omega
  have z9 : y1.val.heap.size < y2.val.heap.size := by omega
  have u6 : w.heap.size < y2.val.heap.size + 1 := by omega
  have u7 : w.heap.size + 1 < y2.val.heap.size + 1 := by omega
  have u8 : w.heap.size + 1 + 1 < y2.val.heap.size + 1 := by omega
  have u9 : y1.val.heap.size < y2.val.heap.size + 1 := by omega
  clear hz
  go_wp2_with fail
  refine Calls.on_later (kind_group _ _ h0) ?_
  intro y3
  go_wp2_with fail
  refine Calls.on_later2 (many_group _ _) ?_
  intro y4
  go_wp2_with fail
  rcases tri _ _ _ _ _ _ _ _ _ _ _ _ b20 b21 b22 b23 b24 b25 b30 b31 b32 b33 b34 b35 with ⟨l1, l2, q⟩ | ⟨l1, l2, q⟩ | ⟨l1, l2, q⟩
  · refine Calls.on_later2 (less_yes _ _ _ _ _ _ _ _ _ _ _ _ _ b20 b21 b22 b23 b24 b25 b30 b31 b32 b33 b34 b35 (by omega)) ?_
    intro y5
    go_wp2_with fail
    refine Calls.on_later2 (less_no _ _ _ _ _ _ _ _ _ _ _ _ _ b30 b31 b32 b33 b34 b35 b20 b21 b22 b23 b24 b25 (by omega)) ?_
    intro y6
    go_wp2_with fail
    refine Calls.on_later2 (less_yes _ _ _ _ _ _ _ _ _ _ _ _ _ b20 b21 b22 b23 b24 b25 b30 b31 b32 b33 b34 b35 (by omega)) ?_
    intro y7
    go_wp2_with fail
    by_cases k : num x30 x31 x32 x33 x34 x35 < num x40 x41 x42 x43 x44 x45
    · refine Calls.on_later2 (less_yes _ _ _ _ _ _ _ _ _ _ _ _ _ b30 b31 b32 b33 b34 b35 b40 b41 b42 b43 b44 b45 (by omega)) ?_
      intro y8
      go_wp2_with fail
      refine Calls.on_later2 (less_yes _ _ _ _ _ _ _ _ _ _ _ _ _ b20 b21 b22 b23 b24 b25 b40 b41 b42 b43 b44 b45 (by omega)) ?_
      intro y10
      go_wp2_with fail
      refine Calls.on_later2 (awake_any _) ?_
      intro y9
      go_wp2
      go_ret
      refine ⟨rfl, ?_⟩
      have c1 := below_later (w := w) (by go_grown) y1
      have c2 := below_over c1 (below_later ((Below.refl _ _).alloc (Nat.le_refl _) _) y2)
      exact below_over c2 (below_later ((Below.refl _ _).alloc (Nat.le_refl _) _) y9)
    · refine Calls.on_later2 (less_no _ _ _ _ _ _ _ _ _ _ _ _ _ b30 b31 b32 b33 b34 b35 b40 b41 b42 b43 b44 b45 (by omega)) ?_
      intro y8
      go_wp2_with fail
      refine Calls.on_later2 (awake_any _) ?_
      intro y9
      go_wp2
      go_ret
      refine ⟨rfl, ?_⟩
      have c1 := below_later (w := w) (by go_grown) y1
      have c2 := below_over c1 (below_later ((Below.refl _ _).alloc (Nat.le_refl _) _) y2)
      exact below_over c2 (below_later ((Below.refl _ _).alloc (Nat.le_refl _) _) y9)
  · refine Calls.on_later2 (less_no _ _ _ _ _ _ _ _ _ _ _ _ _ b20 b21 b22 b23 b24 b25 b30 b31 b32 b33 b34 b35 (by omega)) ?_
    intro y5
    go_wp2_with fail
    refine Calls.on_later2 (less_yes _ _ _ _ _ _ _ _ _ _ _ _ _ b30 b31 b32 b33 b34 b35 b20 b21 b22 b23 b24 b25 (by omega)) ?_
    intro y6
    go_wp2_with fail
    refine Calls.on_later2 (less_no _ _ _ _ _ _ _ _ _ _ _ _ _ b20 b21 b22 b23 b24 b25 b30 b31 b32 b33 b34 b35 (by omega)) ?_
    intro y7
    go_wp2_with fail
    refine Calls.on_later2 (awake_any _) ?_
    intro y9
    go_wp2
    go_ret
    refine ⟨rfl, ?_⟩
    have c1 := below_later (w := w) (by go_grown) y1
    have c2 := below_over c1 (below_later ((Below.refl _ _).alloc (Nat.le_refl _) _) y2)
    exact below_over c2 (below_later ((Below.refl _ _).alloc (Nat.le_refl _) _) y9)
  · refine Calls.on_later2 (less_no _ _ _ _ _ _ _ _ _ _ _ _ _ b20 b21 b22 b23 b24 b25 b30 b31 b32 b33 b34 b35 (by omega)) ?_
    intro y5
    go_wp2_with fail
    refine Calls.on_later2 (less_no _ _ _ _ _ _ _ _ _ _ _ _ _ b30 b31 b32 b33 b34 b35 b20 b21 b22 b23 b24 b25 (by omega)) ?_
    intro y6
    go_wp2_with fail
    refine Calls.on_later2 (less_no _ _ _ _ _ _ _ _ _ _ _ _ _ b20 b21 b22 b23 b24 b25 b30 b31 b32 b33 b34 b35 (by omega)) ?_
    intro y7
    go_wp2_with fail
    refine Calls.on_later2 (awake_any _) ?_
    intro y9
    go_wp2
    go_ret
    refine ⟨rfl, ?_⟩
    have c1 := below_later (w := w) (by go_grown) y1
    have c2 := below_over c1 (below_later ((Below.refl _ _).alloc (Nat.le_refl _) _) y2)
    exact below_over c2 (below_later ((Below.refl _ _).alloc (Nat.le_refl _) _) y9)

set_option maxHeartbeats 1000000 in
theorem apart_yn (x0 x1 : Int) (x20 x21 x22 x23 x24 x25 x30 x31 x32 x33 x34 x35 x40 x41 x42 x43 x44 x45 : Int) (w : World) (w0 : (Lit.int .i64 x0).wf = true) (w1 : (Lit.int .i64 x1).wf = true) (b20 : 0 ≤ x20 ∧ x20 ≤ 255) (b21 : 0 ≤ x21 ∧ x21 ≤ 255) (b22 : 0 ≤ x22 ∧ x22 ≤ 255) (b23 : 0 ≤ x23 ∧ x23 ≤ 255) (b24 : 0 ≤ x24 ∧ x24 ≤ 255) (b25 : 0 ≤ x25 ∧ x25 ≤ 255) (b30 : 0 ≤ x30 ∧ x30 ≤ 255) (b31 : 0 ≤ x31 ∧ x31 ≤ 255) (b32 : 0 ≤ x32 ∧ x32 ≤ 255) (b33 : 0 ≤ x33 ∧ x33 ≤ 255) (b34 : 0 ≤ x34 ∧ x34 ≤ 255) (b35 : 0 ≤ x35 ∧ x35 ≤ 255) (b40 : 0 ≤ x40 ∧ x40 ≤ 255) (b41 : 0 ≤ x41 ∧ x41 ≤ 255) (b42 : 0 ≤ x42 ∧ x42 ≤ 255) (b43 : 0 ≤ x43 ∧ x43 ≤ 255) (b44 : 0 ≤ x44 ∧ x44 ≤ 255) (b45 : 0 ≤ x45 ∧ x45 ≤ 255) (h0 : 1 ≤ x0 ∧ x0 ≤ 16777215) (h1 : ¬ (1 ≤ x1 ∧ x1 ≤ 16777215)) :
    Calls Try.prog 8 #[.int .i64 x0, .int .i64 x1, .agg #[.int .u8 x20, .int .u8 x21, .int .u8 x22, .int .u8 x23, .int .u8 x24, .int .u8 x25], .agg #[.int .u8 x30, .int .u8 x31, .int .u8 x32, .int .u8 x33, .int .u8 x34, .int .u8 x35], .agg #[.int .u8 x40, .int .u8 x41, .int .u8 x42, .int .u8 x43, .int .u8 x44, .int .u8 x45]] w fun r w' => r = .returned (.bool true) ∧ Below w.heap.size w w' := by
  have hx := @Later.cell
  have h1' : x1 < 1 ∨ 16777215 < x1 := by omega
  clear h1
  go_enter Try.func8, Try.ntmps8
  go_wp2_with fail
  refine Calls.on_later (group_yes _ _ h0) ?_
  intro y1
  have hz := y1.below.size
  simp only [World.size_alloc] at hz
  have z0 : w.heap.size < y1.val.heap.size := by omega
  have z1 : w.heap.size + 1 < y1.val.heap.size := by omega
  have z2 : w.heap.size + 1 + 1 < y1.val.heap.size := by omega
  clear hz
  go_wp2_with fail
  refine Calls.on_later (group_no _ _ h1') ?_
  intro y2
  have hz := y2.below.size
  simp only [World.size_alloc] at hz
  have z3 : w.heap.size < y1.val.heap.size + 1 := by omega
  have z4 : w.heap.size + 1 < y1.val.heap.size + 1 := by omega
  have z5 : w.heap.size + 1 + 1 < y1.val.heap.size + 1 := by omega
  have z6 : w.heap.size < y2.val.heap.size := by omega
  have z7 : w.heap.size + 1 < y2.val.heap.size := by omega
  have z8 : w.heap.size + 1 + 1 < y2.val.heap.size := by omega
  have z9 : y1.val.heap.size < y2.val.heap.size := by omega
  have u6 : w.heap.size < y2.val.heap.size + 1 := by omega
  have u7 : w.heap.size + 1 < y2.val.heap.size + 1 := by omega
  have u8 : w.heap.size + 1 + 1 < y2.val.heap.size + 1 := by omega
  have u9 : y1.val.heap.size < y2.val.heap.size + 1 := by omega
  clear hz
  go_wp2_with fail
  rcases tri _ _ _ _ _ _ _ _ _ _ _ _ b20 b21 b22 b23 b24 b25 b30 b31 b32 b33 b34 b35 with ⟨l1, l2, q⟩ | ⟨l1, l2, q⟩ | ⟨l1, l2, q⟩
  · refine Calls.on_later (less_yes _ _ _ _ _ _ _ _ _ _ _ _ _ b20 b21 b22 b23 b24 b25 b30 b31 b32 b33 b34 b35 (by omega)) ?_
    intro y5
    go_wp2_with fail
    refine Calls.on_later2 (less_no _ _ _ _ _ _ _ _ _ _ _ _ _ b30 b31 b32 b33 b34 b35 b20 b21 b22 b23 b24 b25 (by omega)) ?_
    intro y6
    go_wp2_with fail
    refine Calls.on_later2 (less_yes _ _ _ _ _ _ _ _ _ _ _ _ _ b20 b21 b22 b23 b24 b25 b30 b31 b32 b33 b34 b35 (by omega)) ?_
    intro y7
    go_wp2_with fail
    by_cases k : num x30 x31 x32 x33 x34 x35 < num x40 x41 x42 x43 x44 x45
    · refine Calls.on_later2 (less_yes _ _ _ _ _ _ _ _ _ _ _ _ _ b30 b31 b32 b33 b34 b35 b40 b41 b42 b43 b44 b45 (by omega)) ?_
      intro y8
      go_wp2_with fail
      refine Calls.on_later2 (less_yes _ _ _ _ _ _ _ _ _ _ _ _ _ b20 b21 b22 b23 b24 b25 b40 b41 b42 b43 b44 b45 (by omega)) ?_
      intro y10
      go_wp2_with fail
      refine Calls.on_later2 (awake_any _) ?_
      intro y9
      go_wp2
      go_ret
      refine ⟨rfl, ?_⟩
      have c1 := below_later (w := w) (by go_grown) y1
      have c2 := below_over c1 (below_later ((Below.refl _ _).alloc (Nat.le_refl _) _) y2)
      exact below_over c2 (below_later ((Below.refl _ _).alloc (Nat.le_refl _) _) y9)
    · refine Calls.on_later2 (less_no _ _ _ _ _ _ _ _ _ _ _ _ _ b30 b31 b32 b33 b34 b35 b40 b41 b42 b43 b44 b45 (by omega)) ?_
      intro y8
      go_wp2_with fail
      refine Calls.on_later2 (awake_any _) ?_
      intro y9
      go_wp2
      go_ret
      refine ⟨rfl, ?_⟩
      have c1 := below_later (w := w) (by go_grown) y1
      have c2 := below_over c1 (below_later ((Below.refl _ _).alloc (Nat.le_refl _) _) y2)
      exact below_over c2 (below_later ((Below.refl _ _).alloc (Nat.le_refl _) _) y9)
  · refine Calls.on_later (less_no _ _ _ _ _ _ _ _ _ _ _ _ _ b20 b21 b22 b23 b24 b25 b30 b31 b32 b33 b34 b35 (by omega)) ?_
    intro y5
    go_wp2_with fail
    refine Calls.on_later2 (less_yes _ _ _ _ _ _ _ _ _ _ _ _ _ b30 b31 b32 b33 b34 b35 b20 b21 b22 b23 b24 b25 (by omega)) ?_
    intro y6
    go_wp2_with fail
    refine Calls.on_later2 (less_no _ _ _ _ _ _ _ _ _ _ _ _ _ b20 b21 b22 b23 b24 b25 b30 b31 b32 b33 b34 b35 (by omega)) ?_
    intro y7
    go_wp2_with fail
    refine Calls.on_later2 (awake_any _) ?_
    intro y9
    go_wp2
    go_ret
    refine ⟨rfl, ?_⟩
    have c1 := below_later (w := w) (by go_grown) y1
    have c2 := below_over c1 (below_later ((Below.refl _ _).alloc (Nat.le_refl _) _) y2)
    exact below_over c2 (below_later ((Below.refl _ _).alloc (Nat.le_refl _) _) y9)
  · refine Calls.on_later (less_no _ _ _ _ _ _ _ _ _ _ _ _ _ b20 b21 b22 b23 b24 b25 b30 b31 b32 b33 b34 b35 (by omega)) ?_
    intro y5
    go_wp2_with fail
    refine Calls.on_later2 (less_no _ _ _ _ _ _ _ _ _ _ _ _ _ b30 b31 b32 b33 b34 b35 b20 b21 b22 b23 b24 b25 (by omega)) ?_
    intro y6
    go_wp2_with fail
    refine Calls.on_later2 (less_no _ _ _ _ _ _ _ _ _ _ _ _ _ b20 b21 b22 b23 b24 b25 b30 b31 b32 b33 b34 b35 (by omega)) ?_
    intro y7
    go_wp2_with fail
    refine Calls.on_later2 (awake_any _) ?_
    intro y9
    go_wp2
    go_ret
    refine ⟨rfl, ?_⟩
    have c1 := below_later (w := w) (by go_grown) y1
    have c2 := below_over c1 (below_later ((Below.refl _ _).alloc (Nat.le_refl _) _) y2)
    exact below_over c2 (below_later ((Below.refl _ _).alloc (Nat.le_refl _) _) y9)

set_option maxHeartbeats 1000000 in
theorem apart_ny (x0 x1 : Int) (x20 x21 x22 x23 x24 x25 x30 x31 x32 x33 x34 x35 x40 x41 x42 x43 x44 x45 : Int) (w : World) (w0 : (Lit.int .i64 x0).wf = true) (w1 : (Lit.int .i64 x1).wf = true) (b20 : 0 ≤ x20 ∧ x20 ≤ 255) (b21 : 0 ≤ x21 ∧ x21 ≤ 255) (b22 : 0 ≤ x22 ∧ x22 ≤ 255) (b23 : 0 ≤ x23 ∧ x23 ≤ 255) (b24 : 0 ≤ x24 ∧ x24 ≤ 255) (b25 : 0 ≤ x25 ∧ x25 ≤ 255) (b30 : 0 ≤ x30 ∧ x30 ≤ 255) (b31 : 0 ≤ x31 ∧ x31 ≤ 255) (b32 : 0 ≤ x32 ∧ x32 ≤ 255) (b33 : 0 ≤ x33 ∧ x33 ≤ 255) (b34 : 0 ≤ x34 ∧ x34 ≤ 255) (b35 : 0 ≤ x35 ∧ x35 ≤ 255) (b40 : 0 ≤ x40 ∧ x40 ≤ 255) (b41 : 0 ≤ x41 ∧ x41 ≤ 255) (b42 : 0 ≤ x42 ∧ x42 ≤ 255) (b43 : 0 ≤ x43 ∧ x43 ≤ 255) (b44 : 0 ≤ x44 ∧ x44 ≤ 255) (b45 : 0 ≤ x45 ∧ x45 ≤ 255) (h0 : ¬ (1 ≤ x0 ∧ x0 ≤ 16777215)) (h1 : 1 ≤ x1 ∧ x1 ≤ 16777215) :
    Calls Try.prog 8 #[.int .i64 x0, .int .i64 x1, .agg #[.int .u8 x20, .int .u8 x21, .int .u8 x22, .int .u8 x23, .int .u8 x24, .int .u8 x25], .agg #[.int .u8 x30, .int .u8 x31, .int .u8 x32, .int .u8 x33, .int .u8 x34, .int .u8 x35], .agg #[.int .u8 x40, .int .u8 x41, .int .u8 x42, .int .u8 x43, .int .u8 x44, .int .u8 x45]] w fun r w' => r = .returned (.bool true) ∧ Below w.heap.size w w' := by
  have hx := @Later.cell
  have h0' : x0 < 1 ∨ 16777215 < x0 := by omega
  clear h0
  go_enter Try.func8, Try.ntmps8
  go_wp2_with fail
  refine Calls.on_later (group_no _ _ h0') ?_
  intro y1
  have hz := y1.below.size
  simp only [World.size_alloc] at hz
  have z0 : w.heap.size < y1.val.heap.size := by omega
  have z1 : w.heap.size + 1 < y1.val.heap.size := by omega
  have z2 : w.heap.size + 1 + 1 < y1.val.heap.size := by omega
  clear hz
  go_wp2_with fail
  refine Calls.on_later (group_yes _ _ h1) ?_
  intro y2
  have hz := y2.below.size
  simp only [World.size_alloc] at hz
  have z3 : w.heap.size < y1.val.heap.size + 1 := by omega
  have z4 : w.heap.size + 1 < y1.val.heap.size + 1 := by omega
  have z5 : w.heap.size + 1 + 1 < y1.val.heap.size + 1 := by omega
  have z6 : w.heap.size < y2.val.heap.size := by omega
  have z7 : w.heap.size + 1 < y2.val.heap.size := by omega
  have z8 : w.heap.size + 1 + 1 < y2.val.heap.size := by omega
  have z9 : y1.val.heap.size < y2.val.heap.size := by omega
  have u6 : w.heap.size < y2.val.heap.size + 1 := by omega
  have u7 : w.heap.size + 1 < y2.val.heap.size + 1 := by omega
  have u8 : w.heap.size + 1 + 1 < y2.val.heap.size + 1 := by omega
  have u9 : y1.val.heap.size < y2.val.heap.size + 1 := by omega
  clear hz
  go_wp2_with fail
  rcases tri _ _ _ _ _ _ _ _ _ _ _ _ b20 b21 b22 b23 b24 b25 b30 b31 b32 b33 b34 b35 with ⟨l1, l2, q⟩ | ⟨l1, l2, q⟩ | ⟨l1, l2, q⟩
  · refine Calls.on_later (less_yes _ _ _ _ _ _ _ _ _ _ _ _ _ b20 b21 b22 b23 b24 b25 b30 b31 b32 b33 b34 b35 (by omega)) ?_
    intro y5
    go_wp2_with fail
    refine Calls.on_later2 (less_no _ _ _ _ _ _ _ _ _ _ _ _ _ b30 b31 b32 b33 b34 b35 b20 b21 b22 b23 b24 b25 (by omega)) ?_
    intro y6
    go_wp2_with fail
    refine Calls.on_later2 (less_yes _ _ _ _ _ _ _ _ _ _ _ _ _ b20 b21 b22 b23 b24 b25 b30 b31 b32 b33 b34 b35 (by omega)) ?_
    intro y7
    go_wp2_with fail
    by_cases k : num x30 x31 x32 x33 x34 x35 < num x40 x41 x42 x43 x44 x45
    · refine Calls.on_later2 (less_yes _ _ _ _ _ _ _ _ _ _ _ _ _ b30 b31 b32 b33 b34 b35 b40 b41 b42 b43 b44 b45 (by omega)) ?_
      intro y8
      go_wp2_with fail
      refine Calls.on_later2 (less_yes _ _ _ _ _ _ _ _ _ _ _ _ _ b20 b21 b22 b23 b24 b25 b40 b41 b42 b43 b44 b45 (by omega)) ?_
      intro y10
      go_wp2_with fail
      refine Calls.on_later2 (awake_any _) ?_
      intro y9
      go_wp2
      go_ret
      refine ⟨rfl, ?_⟩
      have c1 := below_later (w := w) (by go_grown) y1
      have c2 := below_over c1 (below_later ((Below.refl _ _).alloc (Nat.le_refl _) _) y2)
      exact below_over c2 (below_later ((Below.refl _ _).alloc (Nat.le_refl _) _) y9)
    · refine Calls.on_later2 (less_no _ _ _ _ _ _ _ _ _ _ _ _ _ b30 b31 b32 b33 b34 b35 b40 b41 b42 b43 b44 b45 (by omega)) ?_
      intro y8
      go_wp2_with fail
      refine Calls.on_later2 (awake_any _) ?_
      intro y9
      go_wp2
      go_ret
      refine ⟨rfl, ?_⟩
      have c1 := below_later (w := w) (by go_grown) y1
      have c2 := below_over c1 (below_later ((Below.refl _ _).alloc (Nat.le_refl _) _) y2)
      exact below_over c2 (below_later ((Below.refl _ _).alloc (Nat.le_refl _) _) y9)
  · refine Calls.on_later (less_no _ _ _ _ _ _ _ _ _ _ _ _ _ b20 b21 b22 b23 b24 b25 b30 b31 b32 b33 b34 b35 (by omega)) ?_
    intro y5
    go_wp2_with fail
    refine Calls.on_later2 (less_yes _ _ _ _ _ _ _ _ _ _ _ _ _ b30 b31 b32 b33 b34 b35 b20 b21 b22 b23 b24 b25 (by omega)) ?_
    intro y6
    go_wp2_with fail
    refine Calls.on_later2 (less_no _ _ _ _ _ _ _ _ _ _ _ _ _ b20 b21 b22 b23 b24 b25 b30 b31 b32 b33 b34 b35 (by omega)) ?_
    intro y7
    go_wp2_with fail
    refine Calls.on_later2 (awake_any _) ?_
    intro y9
    go_wp2
    go_ret
    refine ⟨rfl, ?_⟩
    have c1 := below_later (w := w) (by go_grown) y1
    have c2 := below_over c1 (below_later ((Below.refl _ _).alloc (Nat.le_refl _) _) y2)
    exact below_over c2 (below_later ((Below.refl _ _).alloc (Nat.le_refl _) _) y9)
  · refine Calls.on_later (less_no _ _ _ _ _ _ _ _ _ _ _ _ _ b20 b21 b22 b23 b24 b25 b30 b31 b32 b33 b34 b35 (by omega)) ?_
    intro y5
    go_wp2_with fail
    refine Calls.on_later2 (less_no _ _ _ _ _ _ _ _ _ _ _ _ _ b30 b31 b32 b33 b34 b35 b20 b21 b22 b23 b24 b25 (by omega)) ?_
    intro y6
    go_wp2_with fail
    refine Calls.on_later2 (less_no _ _ _ _ _ _ _ _ _ _ _ _ _ b20 b21 b22 b23 b24 b25 b30 b31 b32 b33 b34 b35 (by omega)) ?_
    intro y7
    go_wp2_with fail
    refine Calls.on_later2 (awake_any _) ?_
    intro y9
    go_wp2
    go_ret
    refine ⟨rfl, ?_⟩
    have c1 := below_later (w := w) (by go_grown) y1
    have c2 := below_over c1 (below_later ((Below.refl _ _).alloc (Nat.le_refl _) _) y2)
    exact below_over c2 (below_later ((Below.refl _ _).alloc (Nat.le_refl _) _) y9)

set_option maxHeartbeats 1000000 in
theorem apart_nn (x0 x1 : Int) (x20 x21 x22 x23 x24 x25 x30 x31 x32 x33 x34 x35 x40 x41 x42 x43 x44 x45 : Int) (w : World) (w0 : (Lit.int .i64 x0).wf = true) (w1 : (Lit.int .i64 x1).wf = true) (b20 : 0 ≤ x20 ∧ x20 ≤ 255) (b21 : 0 ≤ x21 ∧ x21 ≤ 255) (b22 : 0 ≤ x22 ∧ x22 ≤ 255) (b23 : 0 ≤ x23 ∧ x23 ≤ 255) (b24 : 0 ≤ x24 ∧ x24 ≤ 255) (b25 : 0 ≤ x25 ∧ x25 ≤ 255) (b30 : 0 ≤ x30 ∧ x30 ≤ 255) (b31 : 0 ≤ x31 ∧ x31 ≤ 255) (b32 : 0 ≤ x32 ∧ x32 ≤ 255) (b33 : 0 ≤ x33 ∧ x33 ≤ 255) (b34 : 0 ≤ x34 ∧ x34 ≤ 255) (b35 : 0 ≤ x35 ∧ x35 ≤ 255) (b40 : 0 ≤ x40 ∧ x40 ≤ 255) (b41 : 0 ≤ x41 ∧ x41 ≤ 255) (b42 : 0 ≤ x42 ∧ x42 ≤ 255) (b43 : 0 ≤ x43 ∧ x43 ≤ 255) (b44 : 0 ≤ x44 ∧ x44 ≤ 255) (b45 : 0 ≤ x45 ∧ x45 ≤ 255) (h0 : ¬ (1 ≤ x0 ∧ x0 ≤ 16777215)) (h1 : ¬ (1 ≤ x1 ∧ x1 ≤ 16777215)) :
    Calls Try.prog 8 #[.int .i64 x0, .int .i64 x1, .agg #[.int .u8 x20, .int .u8 x21, .int .u8 x22, .int .u8 x23, .int .u8 x24, .int .u8 x25], .agg #[.int .u8 x30, .int .u8 x31, .int .u8 x32, .int .u8 x33, .int .u8 x34, .int .u8 x35], .agg #[.int .u8 x40, .int .u8 x41, .int .u8 x42, .int .u8 x43, .int .u8 x44, .int .u8 x45]] w fun r w' => r = .returned (.bool true) ∧ Below w.heap.size w w' := by
  have hx := @Later.cell
  have h0' : x0 < 1 ∨ 16777215 < x0 := by omega
  have h1' : x1 < 1 ∨ 16777215 < x1 := by omega
  clear h0 h1
  go_enter Try.func8, Try.ntmps8
  go_wp2_with fail
  refine Calls.on_later (group_no _ _ h0') ?_
  intro y1
  have hz := y1.below.size
  simp only [World.size_alloc] at hz
  have z0 : w.heap.size < y1.val.heap.size := by omega
  have z1 : w.heap.size + 1 < y1.val.heap.size := by omega
  have z2 : w.heap.size + 1 + 1 < y1.val.heap.size := by omega
  clear hz
  go_wp2_with fail
  refine Calls.on_later (group_no _ _ h1') ?_
  intro y2
  have hz := y2.below.size
  simp only [World.size_alloc] at hz
  have z3 : w.heap.size < y1.val.heap.size + 1 := by omega
  have z4 : w.heap.size + 1 < y1.val.heap.size + 1 := by omega
  have z5 : w.heap.size + 1 + 1 < y1.val.heap.size + 1 := by omega
  have z6 : w.heap.size < y2.val.heap.size := by omega
  have z7 : w.heap.size + 1 < y2.val.heap.size := by omega
  have z8 : w.heap.size + 1 + 1 < y2.val.heap.size := by omega
  have z9 : y1.val.heap.size < y2.val.heap.size := by omega
  have u6 : w.heap.size < y2.val.heap.size + 1 := by omega
  have u7 : w.heap.size + 1 < y2.val.heap.size + 1 := by omega
  have u8 : w.heap.size + 1 + 1 < y2.val.heap.size + 1 := by omega
  have u9 : y1.val.heap.size < y2.val.heap.size + 1 := by omega
  clear hz
  go_wp2_with fail
  rcases tri _ _ _ _ _ _ _ _ _ _ _ _ b20 b21 b22 b23 b24 b25 b30 b31 b32 b33 b34 b35 with ⟨l1, l2, q⟩ | ⟨l1, l2, q⟩ | ⟨l1, l2, q⟩
  · refine Calls.on_later (less_yes _ _ _ _ _ _ _ _ _ _ _ _ _ b20 b21 b22 b23 b24 b25 b30 b31 b32 b33 b34 b35 (by omega)) ?_
    intro y5
    go_wp2_with fail
    refine Calls.on_later2 (less_no _ _ _ _ _ _ _ _ _ _ _ _ _ b30 b31 b32 b33 b34 b35 b20 b21 b22 b23 b24 b25 (by omega)) ?_
    intro y6
    go_wp2_with fail
    refine Calls.on_later2 (less_yes _ _ _ _ _ _ _ _ _ _ _ _ _ b20 b21 b22 b23 b24 b25 b30 b31 b32 b33 b34 b35 (by omega)) ?_
    intro y7
    go_wp2_with fail
    by_cases k : num x30 x31 x32 x33 x34 x35 < num x40 x41 x42 x43 x44 x45
    · refine Calls.on_later2 (less_yes _ _ _ _ _ _ _ _ _ _ _ _ _ b30 b31 b32 b33 b34 b35 b40 b41 b42 b43 b44 b45 (by omega)) ?_
      intro y8
      go_wp2_with fail
      refine Calls.on_later2 (less_yes _ _ _ _ _ _ _ _ _ _ _ _ _ b20 b21 b22 b23 b24 b25 b40 b41 b42 b43 b44 b45 (by omega)) ?_
      intro y10
      go_wp2_with fail
      refine Calls.on_later2 (awake_any _) ?_
      intro y9
      go_wp2
      go_ret
      refine ⟨rfl, ?_⟩
      have c1 := below_later (w := w) (by go_grown) y1
      have c2 := below_over c1 (below_later ((Below.refl _ _).alloc (Nat.le_refl _) _) y2)
      exact below_over c2 (below_later ((Below.refl _ _).alloc (Nat.le_refl _) _) y9)
    · refine Calls.on_later2 (less_no _ _ _ _ _ _ _ _ _ _ _ _ _ b30 b31 b32 b33 b34 b35 b40 b41 b42 b43 b44 b45 (by omega)) ?_
      intro y8
      go_wp2_with fail
      refine Calls.on_later2 (awake_any _) ?_
      intro y9
      go_wp2
      go_ret
      refine ⟨rfl, ?_⟩
      have c1 := below_later (w := w) (by go_grown) y1
      have c2 := below_over c1 (below_later ((Below.refl _ _).alloc (Nat.le_refl _) _) y2)
      exact below_over c2 (below_later ((Below.refl _ _).alloc (Nat.le_refl _) _) y9)
  · refine Calls.on_later (less_no _ _ _ _ _ _ _ _ _ _ _ _ _ b20 b21 b22 b23 b24 b25 b30 b31 b32 b33 b34 b35 (by omega)) ?_
    intro y5
    go_wp2_with fail
    refine Calls.on_later2 (less_yes _ _ _ _ _ _ _ _ _ _ _ _ _ b30 b31 b32 b33 b34 b35 b20 b21 b22 b23 b24 b25 (by omega)) ?_
    intro y6
    go_wp2_with fail
    refine Calls.on_later2 (less_no _ _ _ _ _ _ _ _ _ _ _ _ _ b20 b21 b22 b23 b24 b25 b30 b31 b32 b33 b34 b35 (by omega)) ?_
    intro y7
    go_wp2_with fail
    refine Calls.on_later2 (awake_any _) ?_
    intro y9
    go_wp2
    go_ret
    refine ⟨rfl, ?_⟩
    have c1 := below_later (w := w) (by go_grown) y1
    have c2 := below_over c1 (below_later ((Below.refl _ _).alloc (Nat.le_refl _) _) y2)
    exact below_over c2 (below_later ((Below.refl _ _).alloc (Nat.le_refl _) _) y9)
  · refine Calls.on_later (less_no _ _ _ _ _ _ _ _ _ _ _ _ _ b20 b21 b22 b23 b24 b25 b30 b31 b32 b33 b34 b35 (by omega)) ?_
    intro y5
    go_wp2_with fail
    refine Calls.on_later2 (less_no _ _ _ _ _ _ _ _ _ _ _ _ _ b30 b31 b32 b33 b34 b35 b20 b21 b22 b23 b24 b25 (by omega)) ?_
    intro y6
    go_wp2_with fail
    refine Calls.on_later2 (less_no _ _ _ _ _ _ _ _ _ _ _ _ _ b20 b21 b22 b23 b24 b25 b30 b31 b32 b33 b34 b35 (by omega)) ?_
    intro y7
    go_wp2_with fail
    refine Calls.on_later2 (awake_any _) ?_
    intro y9
    go_wp2
    go_ret
    refine ⟨rfl, ?_⟩
    have c1 := below_later (w := w) (by go_grown) y1
    have c2 := below_over c1 (below_later ((Below.refl _ _).alloc (Nat.le_refl _) _) y2)
    exact below_over c2 (below_later ((Below.refl _ _).alloc (Nat.le_refl _) _) y9)

theorem MacApart_walk (x0 x1 : Int) (x20 x21 x22 x23 x24 x25 x30 x31 x32 x33 x34 x35 x40 x41 x42 x43 x44 x45 : Int) (w : World) (w0 : (Lit.int .i64 x0).wf = true) (w1 : (Lit.int .i64 x1).wf = true) (b20 : 0 ≤ x20 ∧ x20 ≤ 255) (b21 : 0 ≤ x21 ∧ x21 ≤ 255) (b22 : 0 ≤ x22 ∧ x22 ≤ 255) (b23 : 0 ≤ x23 ∧ x23 ≤ 255) (b24 : 0 ≤ x24 ∧ x24 ≤ 255) (b25 : 0 ≤ x25 ∧ x25 ≤ 255) (b30 : 0 ≤ x30 ∧ x30 ≤ 255) (b31 : 0 ≤ x31 ∧ x31 ≤ 255) (b32 : 0 ≤ x32 ∧ x32 ≤ 255) (b33 : 0 ≤ x33 ∧ x33 ≤ 255) (b34 : 0 ≤ x34 ∧ x34 ≤ 255) (b35 : 0 ≤ x35 ∧ x35 ≤ 255) (b40 : 0 ≤ x40 ∧ x40 ≤ 255) (b41 : 0 ≤ x41 ∧ x41 ≤ 255) (b42 : 0 ≤ x42 ∧ x42 ≤ 255) (b43 : 0 ≤ x43 ∧ x43 ≤ 255) (b44 : 0 ≤ x44 ∧ x44 ≤ 255) (b45 : 0 ≤ x45 ∧ x45 ≤ 255) :
    Calls Try.prog 8 #[.int .i64 x0, .int .i64 x1, .agg #[.int .u8 x20, .int .u8 x21, .int .u8 x22, .int .u8 x23, .int .u8 x24, .int .u8 x25], .agg #[.int .u8 x30, .int .u8 x31, .int .u8 x32, .int .u8 x33, .int .u8 x34, .int .u8 x35], .agg #[.int .u8 x40, .int .u8 x41, .int .u8 x42, .int .u8 x43, .int .u8 x44, .int .u8 x45]] w fun r w' => r = .returned (.bool true) ∧ Below w.heap.size w w' := by
  by_cases h0 : 1 ≤ x0 ∧ x0 ≤ 16777215
  · by_cases h1 : 1 ≤ x1 ∧ x1 ≤ 16777215
    · exact apart_yy _ _ _ _ _ _ _ _ _ _ _ _ _ _ _ _ _ _ _ _ w w0 w1 b20 b21 b22 b23 b24 b25 b30 b31 b32 b33 b34 b35 b40 b41 b42 b43 b44 b45 h0 h1
    · exact apart_yn _ _ _ _ _ _ _ _ _ _ _ _ _ _ _ _ _ _ _ _ w w0 w1 b20 b21 b22 b23 b24 b25 b30 b31 b32 b33 b34 b35 b40 b41 b42 b43 b44 b45 h0 h1
  · by_cases h1 : 1 ≤ x1 ∧ x1 ≤ 16777215
    · exact apart_ny _ _ _ _ _ _ _ _ _ _ _ _ _ _ _ _ _ _ _ _ w w0 w1 b20 b21 b22 b23 b24 b25 b30 b31 b32 b33 b34 b35 b40 b41 b42 b43 b44 b45 h0 h1
    · exact apart_nn _ _ _ _ _ _ _ _ _ _ _ _ _ _ _ _ _ _ _ _ w w0 w1 b20 b21 b22 b23 b24 b25 b30 b31 b32 b33 b34 b35 b40 b41 b42 b43 b44 b45 h0 h1

set_option maxRecDepth 100000 in
theorem MacApart_lifted (os : Os) (started : os.Started) (H : Type) (enc : TypeId × Value → H) :
    ReturnsInHanded {} Try.checked os 8 .any (Rows.macApartSpec.pre6 enc Try.prog Try.f8 Rows.macApartRow.domain false) (Rows.macApartSpec.post enc Try.prog Try.f8 false true false false) := by
  refine returnsInHanded_of_change (C := Try.checked) own started (by kernel_rfl) Try.func8
    (ChangeSpec.witness6 (enc := enc) (C := Try.checked) false ⟨#[], #[.int .i64 0, .int .i64 0, .agg #[.int .u8 0, .int .u8 0, .int .u8 0, .int .u8 0, .int .u8 0, .int .u8 0], .agg #[.int .u8 0, .int .u8 0, .int .u8 0, .int .u8 0, .int .u8 0, .int .u8 0], .agg #[.int .u8 0, .int .u8 0, .int .u8 0, .int .u8 0, .int .u8 0, .int .u8 0]], []⟩ 8 (by kernel_rfl) (by kernel_rfl) (by kernel_rfl) (by kernel_rfl)) ?_
  intro W base args ds gs before hval0 hW hcnd _
  have hval : ∀ (j : Nat) t v, Try.f8.params[j]? = some t → args[j]? = some v → Value.okWide Try.prog W .any base t v := hval0
  have hW' := hW
  obtain ⟨p, q, hA0, hV, rfl, hfz, hnd⟩ := hW
  have hA : DataW.TrodAll enc Try.prog W 0 (fun _ => true) true Try.f8.params.toList args.toList ds p := hA0
  rw [Try.params8] at hA hval
  obtain ⟨v0, vs0, d0, ds0, p0, q0, hargs, rfl, rfl, h0, r0⟩ := trodAll_cons hA
  obtain ⟨v1, vs1, d1, ds1, p1, q1, rfl, rfl, rfl, h1, r1⟩ := trodAll_cons r0
  obtain ⟨v2, vs2, d2, ds2, p2, q2, rfl, rfl, rfl, h2, r2⟩ := trodAll_cons r1
  obtain ⟨v3, vs3, d3, ds3, p3, q3, rfl, rfl, rfl, h3, r3⟩ := trodAll_cons r2
  obtain ⟨v4, vs4, d4, ds4, p4, q4, rfl, rfl, rfl, h4, r4⟩ := trodAll_cons r3
  obtain ⟨rfl, rfl, rfl⟩ := trodAll_nil r4
  obtain rfl : args = #[v0, v1, v2, v3, v4] := by cases args; simp_all
  obtain ⟨rfl, rfl⟩ := trodVars_none hV
  have k0 := h0
  have lt0 : ∀ x ∈ p0, x.block < W.heap.size := by obtain ⟨m, hm⟩ := k0; exact DataW.trod_lt m _ _ _ hm
  obtain ⟨x0, rfl, rfl, rfl, w0⟩ := open_int Try.underlying3 (hval 0 3 v0 rfl rfl) h0
  have k1 := h1
  have lt1 : ∀ x ∈ p1, x.block < W.heap.size := by obtain ⟨m, hm⟩ := k1; exact DataW.trod_lt m _ _ _ hm
  obtain ⟨x1, rfl, rfl, rfl, w1⟩ := open_int Try.underlying3 (hval 1 3 v1 rfl rfl) h1
  have k2 := h2
  have lt2 : ∀ x ∈ p2, x.block < W.heap.size := by obtain ⟨m, hm⟩ := k2; exact DataW.trod_lt m _ _ _ hm
  obtain ⟨x20, x21, x22, x23, x24, x25, rfl, b20, b21, b22, b23, b24, b25⟩ := open_mac (hval 2 23 v2 rfl rfl) h2
  have k3 := h3
  have lt3 : ∀ x ∈ p3, x.block < W.heap.size := by obtain ⟨m, hm⟩ := k3; exact DataW.trod_lt m _ _ _ hm
  obtain ⟨x30, x31, x32, x33, x34, x35, rfl, b30, b31, b32, b33, b34, b35⟩ := open_mac (hval 3 23 v3 rfl rfl) h3
  have k4 := h4
  have lt4 : ∀ x ∈ p4, x.block < W.heap.size := by obtain ⟨m, hm⟩ := k4; exact DataW.trod_lt m _ _ _ hm
  obtain ⟨x40, x41, x42, x43, x44, x45, rfl, b40, b41, b42, b43, b44, b45⟩ := open_mac (hval 4 23 v4 rfl rfl) h4
  clear hA0 hval0
  refine (MacApart_walk x0 x1 x20 x21 x22 x23 x24 x25 x30 x31 x32 x33 x34 x35 x40 x41 x42 x43 x44 x45 W w0 w1 b20 b21 b22 b23 b24 b25 b30 b31 b32 b33 b34 b35 b40 b41 b42 b43 b44 b45).mono fun e W' ⟨he, bel⟩ => ?_
  subst he
  exact ⟨_, rfl, _, _, _, [], _, [], hW', trodAll_mk1 (shut_bool Try.underlying4 _), (trodAll_cons_mk (Below.trod laidOut (by kernel_rfl) (of_decide_eq_true (by kernel_rfl)) k0 bel lt0) (trodAll_cons_mk (Below.trod laidOut (by kernel_rfl) (of_decide_eq_true (by kernel_rfl)) k1 bel lt1) (trodAll_cons_mk (Below.trod laidOut (by kernel_rfl) (of_decide_eq_true (by kernel_rfl)) k2 bel lt2) (trodAll_cons_mk (Below.trod laidOut (by kernel_rfl) (of_decide_eq_true (by kernel_rfl)) k3 bel lt3) (trodAll_cons_mk (Below.trod laidOut (by kernel_rfl) (of_decide_eq_true (by kernel_rfl)) k4 bel lt4) trodAll_mk0))))), rfl, bel.frame _, fun h => by cases h⟩

theorem MacApart_holds : Rows.MacApartSaid :=
  OpenClaim.holds_of_wide 8 Try.f8 rfl rfl rfl rfl rfl rfl rfl ⟨rfl, rfl, rfl, rfl, rfl⟩ rfl rfl rfl rfl rfl (by kernel_rfl) Try.func8 (by kernel_rfl)
    (of_decide_eq_true (by kernel_rfl)) (by unfold Func.isWrapper; first | (rw [if_pos (by decide +kernel)]; kernel_rfl) | (rw [if_neg (by decide +kernel)]; exact ⟨rfl, rfl⟩))
    (fun os started H enc _ => MacApart_lifted os started H enc)

#print axioms MacApart_holds

end Go.Proofs.Yticbihnnemojbaa
