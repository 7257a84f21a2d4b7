/-
  The walks of parsing a text, for every text.
-/
import Derived.Test.YticbihnnemojbaaTextRef
namespace Go.Proofs.Yticbihnnemojbaa
set_option linter.unusedVariables false
open Go.RowKit

/-- Byte k of a string, as a number; 0 behind its end. -/
def bt (s : ByteArray) (k : Nat) : Int := if h : k < s.size then ((s[k]'h).toNat : Int) else 0
theorem get_bt (s : ByteArray) : ∀ (n : Nat) (h : n < s.size), ((s[n]'h).toNat : Int) = bt s n := fun n h => by unfold bt; rw [dif_pos h]

/-- Is it the text of an address? -/
def okT (s : ByteArray) : Bool := decide (s.size = 17 ∧ dok (bt s 0) = true ∧ dok (bt s 1) = true ∧ bt s 2 = 45 ∧ dok (bt s 3) = true ∧ dok (bt s 4) = true ∧ bt s 5 = 45 ∧ dok (bt s 6) = true ∧ dok (bt s 7) = true ∧ bt s 8 = 45 ∧ dok (bt s 9) = true ∧ dok (bt s 10) = true ∧ bt s 11 = 45 ∧ dok (bt s 12) = true ∧ dok (bt s 13) = true ∧ bt s 14 = 45 ∧ dok (bt s 15) = true ∧ dok (bt s 16) = true)

theorem val_bd (c : Int) : -1 ≤ val c ∧ val c ≤ 15 := by unfold val; (repeat' split) <;> omega
theorem dv_bd (c : Int) : 0 ≤ dv c ∧ dv c ≤ 15 := by have := val_bd c; unfold dv; split <;> omega

theorem or_nil (y : Int) (h : 0 ≤ y ∧ y ≤ 15) : bits .or .u8 0 y = y := by
  obtain ⟨n, rfl⟩ := Int.eq_ofNat_of_zero_le h.1
  have := u8_or_nat 0 n (by omega) (by omega)
  simpa using this
theorem or_nib (x y : Int) (hx : 0 ≤ x ∧ x ≤ 15) (hy : 0 ≤ y ∧ y ≤ 15) : bits .or .u8 (x * 16 % 256) y = x * 16 + y := by
  obtain ⟨m, rfl⟩ := Int.eq_ofNat_of_zero_le hx.1
  obtain ⟨n, rfl⟩ := Int.eq_ofNat_of_zero_le hy.1
  have e : (m : Int) * 16 % 256 = ((m * 16 : Nat) : Int) := by omega
  rw [e, u8_or_nat _ _ (by omega) (by omega)]
  have := Nat.shiftLeft_add_eq_or_of_lt (a := m) (b := n) (i := 4) (by omega)
  rw [Nat.shiftLeft_eq] at this
  have h2 : m * 16 ||| n = m * 16 + n := this.symm
  rw [h2]; omega

theorem bad_0 (s : ByteArray) (h : (!dok (bt s 0)) = true) : okT s = false := by
  have h' : ¬ dok (bt s 0) = true := by simpa using h
  unfold okT; rw [decide_eq_false_iff_not]; intro ho; simp [h'] at ho
theorem bad_1 (s : ByteArray) (h : (!dok (bt s 1)) = true) : okT s = false := by
  have h' : ¬ dok (bt s 1) = true := by simpa using h
  unfold okT; rw [decide_eq_false_iff_not]; intro ho; simp [h'] at ho
theorem bad_2 (s : ByteArray) (h : (bt s 2 != 45) = true) : okT s = false := by
  have h' : ¬ bt s 2 = 45 := by simpa using h
  unfold okT; rw [decide_eq_false_iff_not]; intro ho; simp [h'] at ho
theorem bad_3 (s : ByteArray) (h : (!dok (bt s 3)) = true) : okT s = false := by
  have h' : ¬ dok (bt s 3) = true := by simpa using h
  unfold okT; rw [decide_eq_false_iff_not]; intro ho; simp [h'] at ho
theorem bad_4 (s : ByteArray) (h : (!dok (bt s 4)) = true) : okT s = false := by
  have h' : ¬ dok (bt s 4) = true := by simpa using h
  unfold okT; rw [decide_eq_false_iff_not]; intro ho; simp [h'] at ho
theorem bad_5 (s : ByteArray) (h : (bt s 5 != 45) = true) : okT s = false := by
  have h' : ¬ bt s 5 = 45 := by simpa using h
  unfold okT; rw [decide_eq_false_iff_not]; intro ho; simp [h'] at ho
theorem bad_6 (s : ByteArray) (h : (!dok (bt s 6)) = true) : okT s = false := by
  have h' : ¬ dok (bt s 6) = true := by simpa using h
  unfold okT; rw [decide_eq_false_iff_not]; intro ho; simp [h'] at ho
theorem bad_7 (s : ByteArray) (h : (!dok (bt s 7)) = true) : okT s = false := by
  have h' : ¬ dok (bt s 7) = true := by simpa using h
  unfold okT; rw [decide_eq_false_iff_not]; intro ho; simp [h'] at ho
theorem bad_8 (s : ByteArray) (h : (bt s 8 != 45) = true) : okT s = false := by
  have h' : ¬ bt s 8 = 45 := by simpa using h
  unfold okT; rw [decide_eq_false_iff_not]; intro ho; simp [h'] at ho
theorem bad_9 (s : ByteArray) (h : (!dok (bt s 9)) = true) : okT s = false := by
  have h' : ¬ dok (bt s 9) = true := by simpa using h
  unfold okT; rw [decide_eq_false_iff_not]; intro ho; simp [h'] at ho
theorem bad_10 (s : ByteArray) (h : (!dok (bt s 10)) = true) : okT s = false := by
  have h' : ¬ dok (bt s 10) = true := by simpa using h
  unfold okT; rw [decide_eq_false_iff_not]; intro ho; simp [h'] at ho
theorem bad_11 (s : ByteArray) (h : (bt s 11 != 45) = true) : okT s = false := by
  have h' : ¬ bt s 11 = 45 := by simpa using h
  unfold okT; rw [decide_eq_false_iff_not]; intro ho; simp [h'] at ho
theorem bad_12 (s : ByteArray) (h : (!dok (bt s 12)) = true) : okT s = false := by
  have h' : ¬ dok (bt s 12) = true := by simpa using h
  unfold okT; rw [decide_eq_false_iff_not]; intro ho; simp [h'] at ho
theorem bad_13 (s : ByteArray) (h : (!dok (bt s 13)) = true) : okT s = false := by
  have h' : ¬ dok (bt s 13) = true := by simpa using h
  unfold okT; rw [decide_eq_false_iff_not]; intro ho; simp [h'] at ho
theorem bad_14 (s : ByteArray) (h : (bt s 14 != 45) = true) : okT s = false := by
  have h' : ¬ bt s 14 = 45 := by simpa using h
  unfold okT; rw [decide_eq_false_iff_not]; intro ho; simp [h'] at ho
theorem bad_15 (s : ByteArray) (h : (!dok (bt s 15)) = true) : okT s = false := by
  have h' : ¬ dok (bt s 15) = true := by simpa using h
  unfold okT; rw [decide_eq_false_iff_not]; intro ho; simp [h'] at ho
theorem bad_16 (s : ByteArray) (h : (!dok (bt s 16)) = true) : okT s = false := by
  have h' : ¬ dok (bt s 16) = true := by simpa using h
  unfold okT; rw [decide_eq_false_iff_not]; intro ho; simp [h'] at ho
theorem good (s : ByteArray) (h : s.size = 17) (h0 : (!dok (bt s 0)) = false) (h1 : (!dok (bt s 1)) = false) (h2 : (bt s 2 != 45) = false) (h3 : (!dok (bt s 3)) = false) (h4 : (!dok (bt s 4)) = false) (h5 : (bt s 5 != 45) = false) (h6 : (!dok (bt s 6)) = false) (h7 : (!dok (bt s 7)) = false) (h8 : (bt s 8 != 45) = false) (h9 : (!dok (bt s 9)) = false) (h10 : (!dok (bt s 10)) = false) (h11 : (bt s 11 != 45) = false) (h12 : (!dok (bt s 12)) = false) (h13 : (!dok (bt s 13)) = false) (h14 : (bt s 14 != 45) = false) (h15 : (!dok (bt s 15)) = false) (h16 : (!dok (bt s 16)) = false) : okT s = true := by
  simp only [bne_eq_false_iff_eq, Bool.not_eq_eq_eq_not, Bool.not_false] at *
  unfold okT; rw [decide_eq_true_iff]
  exact ⟨h, h0, h1, h2, h3, h4, h5, h6, h7, h8, h9, h10, h11, h12, h13, h14, h15, h16⟩

set_option maxHeartbeats 4000000 in
theorem parse_17 (s : ByteArray) (w : World) (h : s.size = 17) :
    Calls Try.prog 13 #[.string s] w fun r w' => (okT s = true → r = .returned (.tuple #[.agg #[.int .u8 (dv (bt s 0) * 16 + dv (bt s 1)), .int .u8 (dv (bt s 3) * 16 + dv (bt s 4)), .int .u8 (dv (bt s 6) * 16 + dv (bt s 7)), .int .u8 (dv (bt s 9) * 16 + dv (bt s 10)), .int .u8 (dv (bt s 12) * 16 + dv (bt s 13)), .int .u8 (dv (bt s 15) * 16 + dv (bt s 16))], .int .i64 0])) ∧ (okT s = false → r = .returned (.tuple #[.agg #[.int .u8 0, .int .u8 0, .int .u8 0, .int .u8 0, .int .u8 0, .int .u8 0], .int .i64 10])) ∧ Below w.heap.size w w' := by
  have hg := get_bt s
  have hn : ∀ c, bits .or .u8 0 (dv c) = dv c := fun c => or_nil _ (dv_bd c)
  have hm : ∀ c c', bits .or .u8 (dv c * 16 % 256) (dv c') = dv c * 16 + dv c' := fun c c' => or_nib _ _ (dv_bd c) (dv_bd c')
  go_enter Try.func13, Try.ntmps13
  go_wp2
  refine wp_loop_rounds 18 ?_
  rw [rounds_succ]
  go_wp2_with (go_at_call 29; refine (digit_any _ _).mono ?_; rintro e w' ⟨rfl, rfl⟩)
  · go_returns
    exact ⟨fun ho => absurd ho (by rw [bad_0 s ‹_›]; decide), fun _ => rfl, by go_grown⟩
  rw [rounds_succ]
  go_wp2_with (go_at_call 29; refine (digit_any _ _).mono ?_; rintro e w' ⟨rfl, rfl⟩)
  · go_returns
    exact ⟨fun ho => absurd ho (by rw [bad_1 s ‹_›]; decide), fun _ => rfl, by go_grown⟩
  rw [rounds_succ]
  go_wp2_with (go_at_call 29; refine (digit_any _ _).mono ?_; rintro e w' ⟨rfl, rfl⟩)
  · go_returns
    exact ⟨fun ho => absurd ho (by rw [bad_2 s ‹_›]; decide), fun _ => rfl, by go_grown⟩
  rw [rounds_succ]
  go_wp2_with (go_at_call 29; refine (digit_any _ _).mono ?_; rintro e w' ⟨rfl, rfl⟩)
  · go_returns
    exact ⟨fun ho => absurd ho (by rw [bad_3 s ‹_›]; decide), fun _ => rfl, by go_grown⟩
  rw [rounds_succ]
  go_wp2_with (go_at_call 29; refine (digit_any _ _).mono ?_; rintro e w' ⟨rfl, rfl⟩)
  · go_returns
    exact ⟨fun ho => absurd ho (by rw [bad_4 s ‹_›]; decide), fun _ => rfl, by go_grown⟩
  rw [rounds_succ]
  go_wp2_with (go_at_call 29; refine (digit_any _ _).mono ?_; rintro e w' ⟨rfl, rfl⟩)
  · go_returns
    exact ⟨fun ho => absurd ho (by rw [bad_5 s ‹_›]; decide), fun _ => rfl, by go_grown⟩
  rw [rounds_succ]
  go_wp2_with (go_at_call 29; refine (digit_any _ _).mono ?_; rintro e w' ⟨rfl, rfl⟩)
  · go_returns
    exact ⟨fun ho => absurd ho (by rw [bad_6 s ‹_›]; decide), fun _ => rfl, by go_grown⟩
  rw [rounds_succ]
  go_wp2_with (go_at_call 29; refine (digit_any _ _).mono ?_; rintro e w' ⟨rfl, rfl⟩)
  · go_returns
    exact ⟨fun ho => absurd ho (by rw [bad_7 s ‹_›]; decide), fun _ => rfl, by go_grown⟩
  rw [rounds_succ]
  go_wp2_with (go_at_call 29; refine (digit_any _ _).mono ?_; rintro e w' ⟨rfl, rfl⟩)
  · go_returns
    exact ⟨fun ho => absurd ho (by rw [bad_8 s ‹_›]; decide), fun _ => rfl, by go_grown⟩
  rw [rounds_succ]
  go_wp2_with (go_at_call 29; refine (digit_any _ _).mono ?_; rintro e w' ⟨rfl, rfl⟩)
  · go_returns
    exact ⟨fun ho => absurd ho (by rw [bad_9 s ‹_›]; decide), fun _ => rfl, by go_grown⟩
  rw [rounds_succ]
  go_wp2_with (go_at_call 29; refine (digit_any _ _).mono ?_; rintro e w' ⟨rfl, rfl⟩)
  · go_returns
    exact ⟨fun ho => absurd ho (by rw [bad_10 s ‹_›]; decide), fun _ => rfl, by go_grown⟩
  rw [rounds_succ]
  go_wp2_with (go_at_call 29; refine (digit_any _ _).mono ?_; rintro e w' ⟨rfl, rfl⟩)
  · go_returns
    exact ⟨fun ho => absurd ho (by rw [bad_11 s ‹_›]; decide), fun _ => rfl, by go_grown⟩
  rw [rounds_succ]
  go_wp2_with (go_at_call 29; refine (digit_any _ _).mono ?_; rintro e w' ⟨rfl, rfl⟩)
  · go_returns
    exact ⟨fun ho => absurd ho (by rw [bad_12 s ‹_›]; decide), fun _ => rfl, by go_grown⟩
  rw [rounds_succ]
  go_wp2_with (go_at_call 29; refine (digit_any _ _).mono ?_; rintro e w' ⟨rfl, rfl⟩)
  · go_returns
    exact ⟨fun ho => absurd ho (by rw [bad_13 s ‹_›]; decide), fun _ => rfl, by go_grown⟩
  rw [rounds_succ]
  go_wp2_with (go_at_call 29; refine (digit_any _ _).mono ?_; rintro e w' ⟨rfl, rfl⟩)
  · go_returns
    exact ⟨fun ho => absurd ho (by rw [bad_14 s ‹_›]; decide), fun _ => rfl, by go_grown⟩
  rw [rounds_succ]
  go_wp2_with (go_at_call 29; refine (digit_any _ _).mono ?_; rintro e w' ⟨rfl, rfl⟩)
  · go_returns
    exact ⟨fun ho => absurd ho (by rw [bad_15 s ‹_›]; decide), fun _ => rfl, by go_grown⟩
  rw [rounds_succ]
  go_wp2_with (go_at_call 29; refine (digit_any _ _).mono ?_; rintro e w' ⟨rfl, rfl⟩)
  · go_returns
    exact ⟨fun ho => absurd ho (by rw [bad_16 s ‹_›]; decide), fun _ => rfl, by go_grown⟩
  rw [rounds_succ]
  go_wp2
  go_returns
  exact ⟨fun _ => rfl, fun ho => absurd (good s h ‹_› ‹_› ‹_› ‹_› ‹_› ‹_› ‹_› ‹_› ‹_› ‹_› ‹_› ‹_› ‹_› ‹_› ‹_› ‹_› ‹_›) (by rw [ho]; decide), by go_grown⟩
end Go.Proofs.Yticbihnnemojbaa
