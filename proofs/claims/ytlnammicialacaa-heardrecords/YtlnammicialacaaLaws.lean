/-
  The walks of four statements, each for every input.
-/
import Derived.Test.YtlnammicialacaaRFlag
import Derived.Test.YtlnammicialacaaAwake
namespace Go.Proofs.Ytlnammicialacaa
set_option linter.unusedVariables false
set_option maxRecDepth 4000
set_option linter.unusedSimpArgs false
open Go.RowKit

theorem two_pm (w : World) (p : Pt) (m : Mg) : ∃ W, (w.alloc (.cells p.cs 36)).alloc (.cells m.cs 33) = W ∧ RvAt W w.heap.size 36 p.cs ∧ RvAt W (w.heap.size + 1) 33 m.cs ∧ Below w.heap.size w W ∧ W.heap.size = w.heap.size + 2 := by
  obtain ⟨A, hA, rA, bA, zA⟩ := new_p w p
  obtain ⟨D, hD, rD, bD, zD⟩ := new_m A m
  rw [zA] at rD
  exact ⟨D, by rw [hA, hD], rA.below bD, rD, below_over bA bD, by omega⟩
attribute [local go_sem ↓] ldP stP ldM stM ldTm stTm ldV stV stB stU eqgP eqlP
attribute [local go_sem] Row.eq_self
set_option maxHeartbeats 4000000 in
theorem HeardTakes_walk (p : Pt) (m : Mg) (w : World) :
    Calls Try.prog 3 #[.agg p.cs, .agg m.cs] w fun r w' => r = .returned (.bool true) ∧ Below w.heap.size w w' := by
  obtain ⟨W, hW, rp, rm, bW, zW⟩ := two_pm w p m
  have H : Hid (Below w.heap.size w W) := bW
  have lp := fun q : Later W => (rp.below q.below).pld
  have lm := fun q : Later W => (rm.below q.below).mld
  clear rp rm bW zW
  have P0 : Hid (∀ q : Later W, _) := fun q : Later W => take_any p m q.val
  have P1 : Hid (∀ q : Later W, _) := fun q : Later W => rtake_any p m q.val
  obtain ⟨A, hA⟩ : ∃ z, takeP p m = z := ⟨_, rfl⟩
  rw [hA] at P0 P1
  clear hA
  go_enter Try.func3, Try.ntmps3
  go_wp2_with fail
  refine wp_region_later (by kernel_rfl) (by kernel_rfl) ?_
  repeat (go_big_quiet_step (first
    | exact rfl
    | (go_at_call 9; with_reducible exact Calls.later_of (P0.out _))
    | (go_at_call 10; with_reducible exact Calls.later_of (P1.out _))
    | (go_at_call 11; with_reducible exact Calls.later_of (awake_any _))))
  refine wpQuiet_nil ?_
  intro _ hw'
  obtain ⟨x, rfl⟩ := hw'
  go_wp2
  go_ret
  exact ⟨rfl, below_later H.out x⟩
set_option maxHeartbeats 4000000 in
theorem HeardInfos_walk (p : Pt) (is : Int) (w : World) :
    Calls Try.prog 4 #[.agg p.cs, .int .i64 is] w fun r w' => r = .returned (.bool true) ∧ Below w.heap.size w w' := by
  obtain ⟨W, hW, rp, bW, zW⟩ := new_p w p
  have H : Hid (Below w.heap.size w W) := bW
  have lp := fun q : Later W => (rp.below q.below).pld
  clear rp bW zW
  have P0 : Hid (∀ q : Later W, _) := fun q : Later W => inf_any p q.val
  have P1 : Hid (∀ q : Later W, _) := fun q : Later W => rinf_any p q.val
  have P2 : Hid (∀ q : Later W, _) := fun q : Later W => bos_any p is q.val
  have P3 : Hid (∀ q : Later W, _) := fun q : Later W => rbos_any p is q.val
  obtain ⟨A, hA⟩ : ∃ z, infP p = z := ⟨_, rfl⟩
  rw [hA] at P0 P1
  clear hA
  obtain ⟨B, hB⟩ : ∃ z, bosP p is = z := ⟨_, rfl⟩
  rw [hB] at P2 P3
  clear hB
  go_enter Try.func4, Try.ntmps4
  go_wp2_with fail
  refine wp_region_later (by kernel_rfl) (by kernel_rfl) ?_
  repeat (go_big_quiet_step (first
    | exact rfl
    | (go_at_call 12; with_reducible exact Calls.later_of (P0.out _))
    | (go_at_call 13; with_reducible exact Calls.later_of (P1.out _))
    | (go_at_call 14; with_reducible exact Calls.later_of (P2.out _))
    | (go_at_call 15; with_reducible exact Calls.later_of (P3.out _))
    | (go_at_call 11; with_reducible exact Calls.later_of (awake_any _))))
  refine wpQuiet_nil ?_
  intro _ hw'
  obtain ⟨x, rfl⟩ := hw'
  go_wp2
  go_ret
  exact ⟨rfl, below_later H.out x⟩
set_option maxHeartbeats 4000000 in
theorem HeardAgrees_walk (p : Pt) (w : World) :
    Calls Try.prog 5 #[.agg p.cs] w fun r w' => r = .returned (.bool true) ∧ Below w.heap.size w w' := by
  obtain ⟨W, hW, rp, bW, zW⟩ := new_p w p
  have H : Hid (Below w.heap.size w W) := bW
  have lp := fun q : Later W => (rp.below q.below).pld
  clear rp bW zW
  have P0 : Hid (∀ q : Later W, _) := fun q : Later W => prop_any p q.val
  have P1 : Hid (∀ q : Later W, _) := fun q : Later W => rprop_any p q.val
  have P2 : Hid (∀ q : Later W, _) := fun q : Later W => agr_any p q.val
  have P3 : Hid (∀ q : Later W, _) := fun q : Later W => ragr_any p q.val
  have P4 : Hid (∀ q : Later W, _) := fun q : Later W => disp_any p q.val
  have P5 : Hid (∀ q : Later W, _) := fun q : Later W => rdisp_any p q.val
  obtain ⟨A, hA⟩ : ∃ z, propP p = z := ⟨_, rfl⟩
  rw [hA] at P0 P1
  clear hA
  obtain ⟨B, hB⟩ : ∃ z, agrP p = z := ⟨_, rfl⟩
  rw [hB] at P2 P3
  clear hB
  obtain ⟨C, hC⟩ : ∃ z, dispP p = z := ⟨_, rfl⟩
  rw [hC] at P4 P5
  clear hC
  go_enter Try.func5, Try.ntmps5
  go_wp2_with fail
  refine wp_region_later (by kernel_rfl) (by kernel_rfl) ?_
  repeat (go_big_quiet_step (first
    | exact rfl
    | (go_at_call 16; with_reducible exact Calls.later_of (P0.out _))
    | (go_at_call 17; with_reducible exact Calls.later_of (P1.out _))
    | (go_at_call 18; with_reducible exact Calls.later_of (P2.out _))
    | (go_at_call 19; with_reducible exact Calls.later_of (P3.out _))
    | (go_at_call 20; with_reducible exact Calls.later_of (P4.out _))
    | (go_at_call 21; with_reducible exact Calls.later_of (P5.out _))
    | (go_at_call 11; with_reducible exact Calls.later_of (awake_any _))))
  refine wpQuiet_nil ?_
  intro _ hw'
  obtain ⟨x, rfl⟩ := hw'
  go_wp2
  go_ret
  exact ⟨rfl, below_later H.out x⟩
set_option maxHeartbeats 4000000 in
theorem HeardRecords_walk (p : Pt) (w : World) :
    Calls Try.prog 6 #[.agg p.cs] w fun r w' => r = .returned (.bool true) ∧ Below w.heap.size w w' := by
  obtain ⟨W, hW, rp, bW, zW⟩ := new_p w p
  have H : Hid (Below w.heap.size w W) := bW
  have lp := fun q : Later W => (rp.below q.below).pld
  clear rp bW zW
  have P0 : Hid (∀ q : Later W, _) := fun q : Later W => flag_any p q.val
  have P1 : Hid (∀ q : Later W, _) := fun q : Later W => rflag_any p q.val
  have P2 : Hid (∀ q : Later W, _) := fun q : Later W => prio_any p q.val
  have P3 : Hid (∀ q : Later W, _) := fun q : Later W => rprio_any p q.val
  have P4 : Hid (∀ q : Later W, _) := fun q : Later W => tim_any p q.val
  have P5 : Hid (∀ q : Later W, _) := fun q : Later W => rtim_any p q.val
  have P6 : Hid (∀ q : Later W, _) := fun q : Later W => whi_any p q.val
  have P7 : Hid (∀ q : Later W, _) := fun q : Later W => rwhi_any p q.val
  obtain ⟨A, hA⟩ : ∃ z, flagP p = z := ⟨_, rfl⟩
  rw [hA] at P0 P1
  clear hA
  obtain ⟨B, hB⟩ : ∃ z, prioP p = z := ⟨_, rfl⟩
  rw [hB] at P2 P3
  clear hB
  obtain ⟨C, hC⟩ : ∃ z, timP p = z := ⟨_, rfl⟩
  rw [hC] at P4 P5
  clear hC
  obtain ⟨D, hD⟩ : ∃ z, whiP p = z := ⟨_, rfl⟩
  rw [hD] at P6 P7
  clear hD
  go_enter Try.func6, Try.ntmps6
  go_wp2_with fail
  refine wp_region_later (by kernel_rfl) (by kernel_rfl) ?_
  repeat (go_big_quiet_step (first
    | exact rfl
    | (go_at_call 22; with_reducible exact Calls.later_of (P0.out _))
    | (go_at_call 23; with_reducible exact Calls.later_of (P1.out _))
    | (go_at_call 24; with_reducible exact Calls.later_of (P2.out _))
    | (go_at_call 25; with_reducible exact Calls.later_of (P3.out _))
    | (go_at_call 26; with_reducible exact Calls.later_of (P4.out _))
    | (go_at_call 27; with_reducible exact Calls.later_of (P5.out _))
    | (go_at_call 28; with_reducible exact Calls.later_of (P6.out _))
    | (go_at_call 29; with_reducible exact Calls.later_of (P7.out _))
    | (go_at_call 11; with_reducible exact Calls.later_of (awake_any _))))
  refine wpQuiet_nil ?_
  intro _ hw'
  obtain ⟨x, rfl⟩ := hw'
  go_wp2
  go_ret
  exact ⟨rfl, below_later H.out x⟩
end Go.Proofs.Ytlnammicialacaa
