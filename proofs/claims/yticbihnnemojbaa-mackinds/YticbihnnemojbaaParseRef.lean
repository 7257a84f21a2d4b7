/-
  The walks of parsing a text by the definition, for every text; and of texts of other lengths.
-/
import Derived.Test.YticbihnnemojbaaParse
namespace Go.Proofs.Yticbihnnemojbaa
set_option linter.unusedVariables false
open Go.RowKit

set_option maxHeartbeats 400000 in
theorem parse_no (s : ByteArray) (w : World) (hs : s.size ≤ maxLen) (h : s.size ≠ 17) :
    Calls Try.prog 13 #[.string s] w fun r w' => r = .returned (.tuple #[.agg #[.int .u8 0, .int .u8 0, .int .u8 0, .int .u8 0, .int .u8 0, .int .u8 0], .int .i64 10]) ∧ Below w.heap.size w w' := by
  unfold maxLen at hs
  have h' : ((s.size : Int) != 17) = true := by simp; omega
  go_enter Try.func13, Try.ntmps13
  go_wp2
  go_returns
  exact ⟨rfl, by go_grown⟩

set_option maxHeartbeats 400000 in
theorem parse_ref_no (s : ByteArray) (w : World) (hs : s.size ≤ maxLen) (h : s.size ≠ 17) :
    Calls Try.prog 14 #[.string s] w fun r w' => r = .returned (.tuple #[.agg #[.int .u8 0, .int .u8 0, .int .u8 0, .int .u8 0, .int .u8 0, .int .u8 0], .int .i64 10]) ∧ Below w.heap.size w w' := by
  unfold maxLen at hs
  have h' : ((s.size : Int) != 17) = true := by simp; omega
  go_enter Try.func14, Try.ntmps14
  go_wp2
  go_returns
  exact ⟨rfl, by go_grown⟩

theorem digit_ref' (c : Int) (w : World) : Calls Try.prog 30 #[.int .u8 c] w fun r w' => r = .returned (.int .i64 (val c)) ∧ w' = w :=
  (digit_ref c w).mono fun _ _ h => ⟨h.1, h.2.symm⟩

theorem bA_0 (s : ByteArray) (h : val (bt s 0) < 0) : okT s = false := bad_0 s (by simp [dok]; omega)
theorem bB_0 (s : ByteArray) (h : val (bt s 1) < 0) : okT s = false := bad_1 s (by simp [dok]; omega)
theorem bC_0 (s : ByteArray) (h : (val (bt s 0) < 0 ∨ val (bt s 1) < 0) ∨ (bt s 2 != 45) = true) : okT s = false := by
  rcases h with (h | h) | h
  · exact bA_0 s h
  · exact bB_0 s h
  · exact bad_2 s h
theorem bA_1 (s : ByteArray) (h : val (bt s 3) < 0) : okT s = false := bad_3 s (by simp [dok]; omega)
theorem bB_1 (s : ByteArray) (h : val (bt s 4) < 0) : okT s = false := bad_4 s (by simp [dok]; omega)
theorem bC_1 (s : ByteArray) (h : (val (bt s 3) < 0 ∨ val (bt s 4) < 0) ∨ (bt s 5 != 45) = true) : okT s = false := by
  rcases h with (h | h) | h
  · exact bA_1 s h
  · exact bB_1 s h
  · exact bad_5 s h
theorem bA_2 (s : ByteArray) (h : val (bt s 6) < 0) : okT s = false := bad_6 s (by simp [dok]; omega)
theorem bB_2 (s : ByteArray) (h : val (bt s 7) < 0) : okT s = false := bad_7 s (by simp [dok]; omega)
theorem bC_2 (s : ByteArray) (h : (val (bt s 6) < 0 ∨ val (bt s 7) < 0) ∨ (bt s 8 != 45) = true) : okT s = false := by
  rcases h with (h | h) | h
  · exact bA_2 s h
  · exact bB_2 s h
  · exact bad_8 s h
theorem bA_3 (s : ByteArray) (h : val (bt s 9) < 0) : okT s = false := bad_9 s (by simp [dok]; omega)
theorem bB_3 (s : ByteArray) (h : val (bt s 10) < 0) : okT s = false := bad_10 s (by simp [dok]; omega)
theorem bC_3 (s : ByteArray) (h : (val (bt s 9) < 0 ∨ val (bt s 10) < 0) ∨ (bt s 11 != 45) = true) : okT s = false := by
  rcases h with (h | h) | h
  · exact bA_3 s h
  · exact bB_3 s h
  · exact bad_11 s h
theorem bA_4 (s : ByteArray) (h : val (bt s 12) < 0) : okT s = false := bad_12 s (by simp [dok]; omega)
theorem bB_4 (s : ByteArray) (h : val (bt s 13) < 0) : okT s = false := bad_13 s (by simp [dok]; omega)
theorem bC_4 (s : ByteArray) (h : (val (bt s 12) < 0 ∨ val (bt s 13) < 0) ∨ (bt s 14 != 45) = true) : okT s = false := by
  rcases h with (h | h) | h
  · exact bA_4 s h
  · exact bB_4 s h
  · exact bad_14 s h
theorem bA_5 (s : ByteArray) (h : val (bt s 15) < 0) : okT s = false := bad_15 s (by simp [dok]; omega)
theorem bB_5 (s : ByteArray) (h : val (bt s 16) < 0) : okT s = false := bad_16 s (by simp [dok]; omega)
theorem below_dn {B : Nat} {a w : World} (h : Below B a w) (n : Nat) : Below B a (w.drewN n) := h.trans ⟨rfl, rfl, rfl, Nat.le_refl _, fun _ _ => rfl⟩
theorem pairT {x y : Int} (hx : 0 ≤ val x) (hy : 0 ≤ val y) : 16 * val x + val y = dv x * 16 + dv y := by unfold dv; rw [if_neg (by omega), if_neg (by omega)]; omega
theorem dokt {c : Int} (h : 0 ≤ val c) : (!dok c) = false := by simp [dok]; exact h
theorem dvt {c : Int} (h : 0 ≤ val c) : dv c = val c := by unfold dv; rw [if_neg (by omega)]
theorem goodR (s : ByteArray) (h : s.size = 17) (h0 : (0 ≤ val (bt s 0) ∧ 0 ≤ val (bt s 1)) ∧ (bt s 2 != 45) = false) (h1 : (0 ≤ val (bt s 3) ∧ 0 ≤ val (bt s 4)) ∧ (bt s 5 != 45) = false) (h2 : (0 ≤ val (bt s 6) ∧ 0 ≤ val (bt s 7)) ∧ (bt s 8 != 45) = false) (h3 : (0 ≤ val (bt s 9) ∧ 0 ≤ val (bt s 10)) ∧ (bt s 11 != 45) = false) (h4 : (0 ≤ val (bt s 12) ∧ 0 ≤ val (bt s 13)) ∧ (bt s 14 != 45) = false) (h5 : 0 ≤ val (bt s 15)) (h6 : 0 ≤ val (bt s 16)) : okT s = true :=
  good s h (dokt h0.1.1) (dokt h0.1.2) h0.2 (dokt h1.1.1) (dokt h1.1.2) h1.2 (dokt h2.1.1) (dokt h2.1.2) h2.2 (dokt h3.1.1) (dokt h3.1.2) h3.2 (dokt h4.1.1) (dokt h4.1.2) h4.2 (dokt h5) (dokt h6)

set_option maxHeartbeats 4000000 in
theorem parse_ref_17 (s : ByteArray) (w : World) (h : s.size = 17) :
    Calls Try.prog 14 #[.string s] w fun r w' => (okT s = true → r = .returned (.tuple #[.agg #[.int .u8 (dv (bt s 0) * 16 + dv (bt s 1)), .int .u8 (dv (bt s 3) * 16 + dv (bt s 4)), .int .u8 (dv (bt s 6) * 16 + dv (bt s 7)), .int .u8 (dv (bt s 9) * 16 + dv (bt s 10)), .int .u8 (dv (bt s 12) * 16 + dv (bt s 13)), .int .u8 (dv (bt s 15) * 16 + dv (bt s 16))], .int .i64 0])) ∧ (okT s = false → r = .returned (.tuple #[.agg #[.int .u8 0, .int .u8 0, .int .u8 0, .int .u8 0, .int .u8 0, .int .u8 0], .int .i64 10])) ∧ Below w.heap.size w w' := by
  have hg := get_bt s
  have v0 := val_bd (bt s 0)
  have v1 := val_bd (bt s 1)
  have v3 := val_bd (bt s 3)
  have v4 := val_bd (bt s 4)
  have v6 := val_bd (bt s 6)
  have v7 := val_bd (bt s 7)
  have v9 := val_bd (bt s 9)
  have v10 := val_bd (bt s 10)
  have v12 := val_bd (bt s 12)
  have v13 := val_bd (bt s 13)
  have v15 := val_bd (bt s 15)
  have v16 := val_bd (bt s 16)
  go_enter Try.func14, Try.ntmps14
  go_wp2
  refine wp_loop_rounds 7 ?_
  rw [rounds_succ]
  go_wp2
  go_quiet ((go_at_call 30; exact Calls.quiet_of_same (digit_ref' _ _)))
  go_wp2
  case _ =>
    go_returns
    exact ⟨fun ho => absurd ho (by rw [show okT s = false from bC_0 s ‹_›]; decide), fun _ => rfl, by repeat' (first | (with_reducible exact Below.refl _ _) | (with_reducible refine Below.setCell ?_ ?_ _) | (with_reducible refine below_dn ?_ _) | (with_reducible refine Below.alloc ?_ ?_ _) | go_size)⟩
  rotate_left
  case _ =>
    go_returns
    exact ⟨fun ho => absurd ho (by rw [show okT s = false from bB_0 s ‹_›]; decide), fun _ => rfl, by repeat' (first | (with_reducible exact Below.refl _ _) | (with_reducible refine Below.setCell ?_ ?_ _) | (with_reducible refine below_dn ?_ _) | (with_reducible refine Below.alloc ?_ ?_ _) | go_size)⟩
  case _ =>
    go_returns
    exact ⟨fun ho => absurd ho (by rw [show okT s = false from bA_0 s ‹_›]; decide), fun _ => rfl, by repeat' (first | (with_reducible exact Below.refl _ _) | (with_reducible refine Below.setCell ?_ ?_ _) | (with_reducible refine below_dn ?_ _) | (with_reducible refine Below.alloc ?_ ?_ _) | go_size)⟩
  rw [rounds_succ]
  go_wp2
  go_quiet ((go_at_call 30; exact Calls.quiet_of_same (digit_ref' _ _)))
  go_wp2
  case _ =>
    go_returns
    exact ⟨fun ho => absurd ho (by rw [show okT s = false from bC_1 s ‹_›]; decide), fun _ => rfl, by repeat' (first | (with_reducible exact Below.refl _ _) | (with_reducible refine Below.setCell ?_ ?_ _) | (with_reducible refine below_dn ?_ _) | (with_reducible refine Below.alloc ?_ ?_ _) | go_size)⟩
  rotate_left
  case _ =>
    go_returns
    exact ⟨fun ho => absurd ho (by rw [show okT s = false from bB_1 s ‹_›]; decide), fun _ => rfl, by repeat' (first | (with_reducible exact Below.refl _ _) | (with_reducible refine Below.setCell ?_ ?_ _) | (with_reducible refine below_dn ?_ _) | (with_reducible refine Below.alloc ?_ ?_ _) | go_size)⟩
  case _ =>
    go_returns
    exact ⟨fun ho => absurd ho (by rw [show okT s = false from bA_1 s ‹_›]; decide), fun _ => rfl, by repeat' (first | (with_reducible exact Below.refl _ _) | (with_reducible refine Below.setCell ?_ ?_ _) | (with_reducible refine below_dn ?_ _) | (with_reducible refine Below.alloc ?_ ?_ _) | go_size)⟩
  rw [rounds_succ]
  go_wp2
  go_quiet ((go_at_call 30; exact Calls.quiet_of_same (digit_ref' _ _)))
  go_wp2
  case _ =>
    go_returns
    exact ⟨fun ho => absurd ho (by rw [show okT s = false from bC_2 s ‹_›]; decide), fun _ => rfl, by repeat' (first | (with_reducible exact Below.refl _ _) | (with_reducible refine Below.setCell ?_ ?_ _) | (with_reducible refine below_dn ?_ _) | (with_reducible refine Below.alloc ?_ ?_ _) | go_size)⟩
  rotate_left
  case _ =>
    go_returns
    exact ⟨fun ho => absurd ho (by rw [show okT s = false from bB_2 s ‹_›]; decide), fun _ => rfl, by repeat' (first | (with_reducible exact Below.refl _ _) | (with_reducible refine Below.setCell ?_ ?_ _) | (with_reducible refine below_dn ?_ _) | (with_reducible refine Below.alloc ?_ ?_ _) | go_size)⟩
  case _ =>
    go_returns
    exact ⟨fun ho => absurd ho (by rw [show okT s = false from bA_2 s ‹_›]; decide), fun _ => rfl, by repeat' (first | (with_reducible exact Below.refl _ _) | (with_reducible refine Below.setCell ?_ ?_ _) | (with_reducible refine below_dn ?_ _) | (with_reducible refine Below.alloc ?_ ?_ _) | go_size)⟩
  rw [rounds_succ]
  go_wp2
  go_quiet ((go_at_call 30; exact Calls.quiet_of_same (digit_ref' _ _)))
  go_wp2
  case _ =>
    go_returns
    exact ⟨fun ho => absurd ho (by rw [show okT s = false from bC_3 s ‹_›]; decide), fun _ => rfl, by repeat' (first | (with_reducible exact Below.refl _ _) | (with_reducible refine Below.setCell ?_ ?_ _) | (with_reducible refine below_dn ?_ _) | (with_reducible refine Below.alloc ?_ ?_ _) | go_size)⟩
  rotate_left
  case _ =>
    go_returns
    exact ⟨fun ho => absurd ho (by rw [show okT s = false from bB_3 s ‹_›]; decide), fun _ => rfl, by repeat' (first | (with_reducible exact Below.refl _ _) | (with_reducible refine Below.setCell ?_ ?_ _) | (with_reducible refine below_dn ?_ _) | (with_reducible refine Below.alloc ?_ ?_ _) | go_size)⟩
  case _ =>
    go_returns
    exact ⟨fun ho => absurd ho (by rw [show okT s = false from bA_3 s ‹_›]; decide), fun _ => rfl, by repeat' (first | (with_reducible exact Below.refl _ _) | (with_reducible refine Below.setCell ?_ ?_ _) | (with_reducible refine below_dn ?_ _) | (with_reducible refine Below.alloc ?_ ?_ _) | go_size)⟩
  rw [rounds_succ]
  go_wp2
  go_quiet ((go_at_call 30; exact Calls.quiet_of_same (digit_ref' _ _)))
  go_wp2
  case _ =>
    go_returns
    exact ⟨fun ho => absurd ho (by rw [show okT s = false from bC_4 s ‹_›]; decide), fun _ => rfl, by repeat' (first | (with_reducible exact Below.refl _ _) | (with_reducible refine Below.setCell ?_ ?_ _) | (with_reducible refine below_dn ?_ _) | (with_reducible refine Below.alloc ?_ ?_ _) | go_size)⟩
  rotate_left
  case _ =>
    go_returns
    exact ⟨fun ho => absurd ho (by rw [show okT s = false from bB_4 s ‹_›]; decide), fun _ => rfl, by repeat' (first | (with_reducible exact Below.refl _ _) | (with_reducible refine Below.setCell ?_ ?_ _) | (with_reducible refine below_dn ?_ _) | (with_reducible refine Below.alloc ?_ ?_ _) | go_size)⟩
  case _ =>
    go_returns
    exact ⟨fun ho => absurd ho (by rw [show okT s = false from bA_4 s ‹_›]; decide), fun _ => rfl, by repeat' (first | (with_reducible exact Below.refl _ _) | (with_reducible refine Below.setCell ?_ ?_ _) | (with_reducible refine below_dn ?_ _) | (with_reducible refine Below.alloc ?_ ?_ _) | go_size)⟩
  rw [rounds_succ]
  go_wp2
  go_quiet ((go_at_call 30; exact Calls.quiet_of_same (digit_ref' _ _)))
  go_wp2
  rotate_left
  case _ =>
    go_returns
    exact ⟨fun ho => absurd ho (by rw [show okT s = false from bB_5 s ‹_›]; decide), fun _ => rfl, by repeat' (first | (with_reducible exact Below.refl _ _) | (with_reducible refine Below.setCell ?_ ?_ _) | (with_reducible refine below_dn ?_ _) | (with_reducible refine Below.alloc ?_ ?_ _) | go_size)⟩
  case _ =>
    go_returns
    exact ⟨fun ho => absurd ho (by rw [show okT s = false from bA_5 s ‹_›]; decide), fun _ => rfl, by repeat' (first | (with_reducible exact Below.refl _ _) | (with_reducible refine Below.setCell ?_ ?_ _) | (with_reducible refine below_dn ?_ _) | (with_reducible refine Below.alloc ?_ ?_ _) | go_size)⟩
  rw [rounds_succ]
  go_wp2
  go_returns
  refine ⟨fun _ => ?_, fun ho => absurd (goodR s h ‹_› ‹_› ‹_› ‹_› ‹_› ‹_› ‹_›) (by rw [ho]; decide), ?_⟩
  · rw [pairT (x := bt s 0) (y := bt s 1) ‹_› ‹_›, pairT (x := bt s 3) (y := bt s 4) ‹_› ‹_›, pairT (x := bt s 6) (y := bt s 7) ‹_› ‹_›, pairT (x := bt s 9) (y := bt s 10) ‹_› ‹_›, pairT (x := bt s 12) (y := bt s 13) ‹_› ‹_›, pairT (x := bt s 15) (y := bt s 16) ‹_› ‹_›]
  · repeat' (first | (with_reducible exact Below.refl _ _) | (with_reducible refine Below.setCell ?_ ?_ _) | (with_reducible refine below_dn ?_ _) | (with_reducible refine Below.alloc ?_ ?_ _) | go_size)
end Go.Proofs.Yticbihnnemojbaa
