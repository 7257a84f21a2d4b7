/-
  More cost, one's own vector, times, the parts of numbers: code and definition, the walks, each for every input; vectors and times held against each other.
-/
import Derived.Test.YtdpaclfnjiegbaaRefs
namespace Go.Proofs.Ytdpaclfnjiegbaa
set_option linter.unusedVariables false
set_option maxRecDepth 4000
set_option linter.unusedSimpArgs false
open Go.RowKit

/-- Are vectors one? -/
def eq4 (a b c d a' b' c' d' : Int) : Bool := decide (a = a' ∧ b = b' ∧ c = c' ∧ d = d')
theorem eq4_self (a b c d : Int) : eq4 a b c d a b c d = true := by simp [eq4]
@[go_sem] theorem eqVec (a b c d a' b' c' d' : Int) (w : World) :
    (Op.equalIn 10000 26 (.agg #[.int .u64 a, .int .u32 b, .int .u64 c, .int .u16 d]) (.agg #[.int .u64 a', .int .u32 b', .int .u64 c', .int .u16 d'])).run Try.prog w = .ok (eq4 a b c d a' b' c' d') w := by
  rw [show (10000 : Nat) = 9999 + 1 from rfl, Op.equalIn]
  simp only [Sem.run_bind, run_underlying Try.underlying26, Result.andThen_ok]
  go_simp
  unfold eq4
  by_cases h1 : a = a' <;> by_cases h2 : b = b' <;> by_cases h3 : c = c' <;> by_cases h4 : d = d' <;> simp [h1, h2, h3, h4]
@[go_sem] theorem eqTim (a b c d a' b' c' d' : Int) (w : World) :
    (Op.equalIn 10000 44 (.agg #[.int .u8 a, .int .u8 b, .int .u8 c, .int .u8 d]) (.agg #[.int .u8 a', .int .u8 b', .int .u8 c', .int .u8 d'])).run Try.prog w = .ok (eq4 a b c d a' b' c' d') w := by
  rw [show (10000 : Nat) = 9999 + 1 from rfl, Op.equalIn]
  simp only [Sem.run_bind, run_underlying Try.underlying44, Result.andThen_ok]
  go_simp
  unfold eq4
  by_cases h1 : a = a' <;> by_cases h2 : b = b' <;> by_cases h3 : c = c' <;> by_cases h4 : d = d' <;> simp [h1, h2, h3, h4]
/-- A vector with more cost. -/
def addV (v : Vc) (k : Int) : Vc := ⟨v.r, IntKind.u32.wrap (v.c + k), v.b, v.p⟩
theorem addV_wf {v : Vc} (h : v.wf) (k : Int) : (addV v k).wf := by
  refine ⟨h.r, ?_, h.b, h.p⟩
  unfold addV
  have e : IntKind.u32.wrap (v.c + k) = (v.c + k) % 4294967296 := by rfl
  simp only [e]
  omega
set_option maxHeartbeats 400000 in
theorem add_any (v : Vc) (k : Int) (w : World) (h : v.wf) (hk : 0 ≤ k ∧ k ≤ 4294967295) :
    Calls Try.prog 16 #[.agg v.cs, .int .u32 k] w fun e w' => e = .returned (.agg (addV v k).cs) ∧ Below w.heap.size w w' := by
  obtain ⟨r, c, b, p⟩ := v
  obtain ⟨hr, hc, hb, hp⟩ := h
  simp only at hr hc hb hp
  show Calls Try.prog 16 #[.agg #[.int .u64 r, .int .u32 c, .int .u64 b, .int .u16 p], .int .u32 k] w _
  go_enter Try.func16, Try.ntmps16
  go_wp2
  go_returns
  exact ⟨rfl, by go_grown⟩
set_option maxHeartbeats 400000 in
theorem addref_any (v : Vc) (k : Int) (w : World) (h : v.wf) (hk : 0 ≤ k ∧ k ≤ 4294967295) :
    Calls Try.prog 17 #[.agg v.cs, .int .u32 k] w fun e w' => e = .returned (.agg (addV v k).cs) ∧ Below w.heap.size w w' := by
  obtain ⟨r, c, b, p⟩ := v
  obtain ⟨hr, hc, hb, hp⟩ := h
  simp only at hr hc hb hp
  show Calls Try.prog 17 #[.agg #[.int .u64 r, .int .u32 c, .int .u64 b, .int .u16 p], .int .u32 k] w _
  go_enter Try.func17, Try.ntmps17
  go_wp2
  go_returns
  exact ⟨rfl, by go_grown⟩
set_option maxHeartbeats 400000 in
theorem own_any (n : Int) (w : World) :
    Calls Try.prog 18 #[.int .u64 n] w fun e w' => e = .returned (.agg #[.int .u64 n, .int .u32 0, .int .u64 n, .int .u16 0]) ∧ Below w.heap.size w w' := by
  go_enter Try.func18, Try.ntmps18
  go_wp2
  go_returns
  exact ⟨rfl, by go_grown⟩
set_option maxHeartbeats 400000 in
theorem ownref_any (n : Int) (w : World) :
    Calls Try.prog 19 #[.int .u64 n] w fun e w' => e = .returned (.agg #[.int .u64 n, .int .u32 0, .int .u64 n, .int .u16 0]) ∧ Below w.heap.size w w' := by
  go_enter Try.func19, Try.ntmps19
  go_wp2
  go_returns
  exact ⟨rfl, by go_grown⟩
set_option maxHeartbeats 400000 in
theorem prioref_any (n : Int) (w : World) (hn : 0 ≤ n ∧ n ≤ 18446744073709551615) :
    Calls Try.prog 23 #[.int .u64 n] w fun e w' => e = .returned (.int .u16 (n / 281474976710656)) ∧ Below w.heap.size w w' := by
  go_enter Try.func23, Try.ntmps23
  go_wp2
  go_ret
  exact ⟨rfl, by go_grown⟩
theorem ret_agg6 {a b c d e f a' b' c' d' e' f' : Int} (ha : a = a') (hb : b = b') (hc : c = c') (hd : d = d') (he : e = e') (hf : f = f') :
    Ending.returned (.agg #[.int .u8 a, .int .u8 b, .int .u8 c, .int .u8 d, .int .u8 e, .int .u8 f]) = .returned (.agg #[.int .u8 a', .int .u8 b', .int .u8 c', .int .u8 d', .int .u8 e', .int .u8 f']) := by
  rw [ha, hb, hc, hd, he, hf]
set_option maxHeartbeats 400000 in
theorem addrref_any (n : Int) (w : World) (hn : 0 ≤ n ∧ n ≤ 18446744073709551615) :
    Calls Try.prog 25 #[.int .u64 n] w fun r w' => r = .returned (.agg #[.int .u8 (n / 1099511627776 % 256), .int .u8 (n / 4294967296 % 256), .int .u8 (n / 16777216 % 256), .int .u8 (n / 65536 % 256), .int .u8 (n / 256 % 256), .int .u8 (n % 256)]) ∧ Below w.heap.size w w' := by
  go_enter Try.func25, Try.ntmps25
  go_wp2
  go_rounds 7
  go_returns
  refine ⟨ret_agg6 ?_ ?_ ?_ ?_ ?_ ?_, by go_grown⟩ <;> omega
set_option maxHeartbeats 400000 in
theorem idref_any (q a b c d e f : Int) (w : World) (hq : 0 ≤ q ∧ q ≤ 65535) (ha : 0 ≤ a ∧ a ≤ 255) (hb : 0 ≤ b ∧ b ≤ 255) (hc : 0 ≤ c ∧ c ≤ 255) (hd : 0 ≤ d ∧ d ≤ 255) (he : 0 ≤ e ∧ e ≤ 255) (hf : 0 ≤ f ∧ f ≤ 255) :
    Calls Try.prog 27 #[.int .u16 q, .agg #[.int .u8 a, .int .u8 b, .int .u8 c, .int .u8 d, .int .u8 e, .int .u8 f]] w fun r w' => r = .returned (.int .u64 (num q a b c d e f)) ∧ Below w.heap.size w w' := by
  go_enter Try.func27, Try.ntmps27
  go_wp2
  go_rounds 7
  go_ret
  exact ⟨rfl, by go_grown⟩
set_option maxHeartbeats 400000 in
theorem within_any (n l m : Int) (w : World) :
    Calls Try.prog 36 #[.int .i64 n, .int .i64 l, .int .i64 m] w fun r w' => r = .returned (.bool (decide (l ≤ n ∧ n ≤ m))) ∧ Below w.heap.size w w' := by
  by_cases h : l ≤ n
  all_goals
    go_enter Try.func36, Try.ntmps36
    go_wp2
    go_ret
    refine ⟨ret_bool ?_, by go_grown⟩
    first | (simp [h]; done) | (simp [h]; omega)
/-- May a bridge's times be? -/
def chkT (x h d : Int) : Int := if 6 ≤ x ∧ x ≤ 40 ∧ 1 ≤ h ∧ h ≤ 2 ∧ 4 ≤ d ∧ d ≤ 30 ∧ x ≤ 2 * (d - 1) ∧ 2 * (h + 1) ≤ x then 0 else 60
set_option maxHeartbeats 1000000 in
theorem older_any (a x h d : Int) (w : World) (ha : 0 ≤ a ∧ a ≤ 255) :
    Calls Try.prog 32 #[.agg #[.int .u8 a, .int .u8 x, .int .u8 h, .int .u8 d]] w fun r w' => r = .returned (.agg #[.int .u8 (if a < 255 then a + 1 else 255), .int .u8 x, .int .u8 h, .int .u8 d]) ∧ Below w.heap.size w w' := by
  by_cases hlt : a < 255
  · have hw : 0 ≤ a + 1 ∧ a + 1 ≤ 255 := by omega
    rw [if_pos hlt]
    go_enter Try.func32, Try.ntmps32
    go_wp2
    go_returns
    exact ⟨rfl, by go_grown⟩
  · obtain rfl : a = 255 := by omega
    rw [if_neg hlt]
    go_enter Try.func32, Try.ntmps32
    go_wp2
    go_returns
    exact ⟨rfl, by go_grown⟩
set_option maxHeartbeats 1000000 in
theorem oldref_any (a x h d : Int) (w : World) (ha : 0 ≤ a ∧ a ≤ 255) :
    Calls Try.prog 33 #[.agg #[.int .u8 a, .int .u8 x, .int .u8 h, .int .u8 d]] w fun r w' => r = .returned (.agg #[.int .u8 (if a < 255 then a + 1 else 255), .int .u8 x, .int .u8 h, .int .u8 d]) ∧ Below w.heap.size w w' := by
  by_cases hlt : a < 255
  · have hw : 0 ≤ a + 1 ∧ a + 1 ≤ 255 := by omega
    rw [if_pos hlt]
    go_enter Try.func33, Try.ntmps33
    go_wp2
    go_returns
    exact ⟨rfl, by go_grown⟩
  · obtain rfl : a = 255 := by omega
    rw [if_neg hlt]
    go_enter Try.func33, Try.ntmps33
    go_wp2
    go_returns
    exact ⟨rfl, by go_grown⟩
theorem within_is {n l m : Int} {b : Bool} (h : decide (l ≤ n ∧ n ≤ m) = b) (w : World) :
    Calls Try.prog 36 #[.int .i64 n, .int .i64 l, .int .i64 m] w fun r w' => r = .returned (.bool b) ∧ Below w.heap.size w w' := by
  have := within_any n l m w
  rwa [h] at this
set_option maxHeartbeats 2000000 in
theorem check_any (a x h d : Int) (w : World) (hx : 0 ≤ x ∧ x ≤ 255) (hh : 0 ≤ h ∧ h ≤ 255) (hd : 0 ≤ d ∧ d ≤ 255) :
    Calls Try.prog 30 #[.agg #[.int .u8 a, .int .u8 x, .int .u8 h, .int .u8 d]] w fun r w' => r = .returned (.int .i64 (chkT x h d)) ∧ Below w.heap.size w w' := by
  have q := @Later.cell
  cases p1 : decide (6 ≤ x ∧ x ≤ 40) <;> cases p2 : decide (1 ≤ h ∧ h ≤ 2) <;> cases p3 : decide (4 ≤ d ∧ d ≤ 30)
  all_goals
    have P1 : Hid (∀ w : World, _) := within_is p1
    have P2 : Hid (∀ w : World, _) := within_is p2
    have P3 : Hid (∀ w : World, _) := within_is p3
    simp only [decide_eq_true_eq, decide_eq_false_iff_not] at p1 p2 p3
    go_enter Try.func30, Try.ntmps30
    go_wp2_with fail
    refine wp_region_later (by kernel_rfl) (by kernel_rfl) ?_
    repeat (go_big_quiet_step (first | exact rfl))
    refine wpQuiet_nil ?_
    intro _ hw'
    obtain ⟨y, rfl⟩ := hw'
    go_wp2_with (first
      | (go_at_call 36; with_reducible refine Calls.on_later2 (P1.out _) ?_; intro y1)
      | (go_at_call 36; with_reducible refine Calls.on_later2 (P2.out _) ?_; intro y1)
      | (go_at_call 36; with_reducible refine Calls.on_later2 (P3.out _) ?_; intro y1))
    all_goals
      go_ret
      refine ⟨ret_int ?_, below_later (by go_grown) _⟩
      unfold chkT
      split <;> omega
set_option maxHeartbeats 2000000 in
theorem chkref_any (a x h d : Int) (w : World) (hx : 0 ≤ x ∧ x ≤ 255) (hh : 0 ≤ h ∧ h ≤ 255) (hd : 0 ≤ d ∧ d ≤ 255) :
    Calls Try.prog 31 #[.agg #[.int .u8 a, .int .u8 x, .int .u8 h, .int .u8 d]] w fun r w' => r = .returned (.int .i64 (chkT x h d)) ∧ Below w.heap.size w w' := by
  have q := @Later.cell
  go_enter Try.func31, Try.ntmps31
  go_wp2_with fail
  refine wp_region_later (by kernel_rfl) (by kernel_rfl) ?_
  repeat (go_big_quiet_step (first | exact rfl))
  refine wpQuiet_nil ?_
  intro _ hw'
  obtain ⟨y, rfl⟩ := hw'
  go_wp2_with fail
  all_goals
    go_ret
    refine ⟨ret_int ?_, below_later (by go_grown) _⟩
    unfold chkT
    split <;> first | omega | (simp at *; omega)
end Go.Proofs.Ytdpaclfnjiegbaa
