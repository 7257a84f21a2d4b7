/-
  The definitions of stage 6: the walks of Better, Compare, Number, SameAddress, Superior, each for every input.
-/
import Derived.Test.YtlneoegmlcbidaaSup
namespace Go.Proofs.Ytlneoegmlcbidaa
set_option linter.unusedVariables false
set_option maxRecDepth 4000
set_option linter.unusedSimpArgs false
open Go.RowKit

attribute [local go_sem ↓] ldV stV
set_option maxHeartbeats 1000000 in
theorem betref_any (a b : V4) (w : World) :
    Calls Try.prog 56 #[.agg a.cs, .agg b.cs] w fun e w' => e = .returned (.bool (betV a b)) ∧ Below w.heap.size w w' := by
  obtain ⟨W, hW, va, vb, bW⟩ := two_new w a b
  have H : Hid (Below w.heap.size w W) := bW
  have a0 := va.c0
  have a1 := va.c1
  have a2 := va.c2
  have a3 := va.c3
  have b0 := vb.c0
  have b1 := vb.c1
  have b2 := vb.c2
  have b3 := vb.c3
  clear va vb bW
  by_cases h1 : a.r = b.r
  · by_cases h2 : a.c = b.c
    · by_cases h3 : a.b = b.b
      · go_enter Try.func56, Try.ntmps56
        go_wp2
        go_ret
        refine ⟨ret_bool ?_, H.out⟩
        unfold betV cmpV
        apply decide_eq_decide.mpr
        (repeat' split) <;> omega
      · go_enter Try.func56, Try.ntmps56
        go_wp2
        go_ret
        refine ⟨ret_bool ?_, H.out⟩
        unfold betV cmpV
        apply decide_eq_decide.mpr
        (repeat' split) <;> omega
    · go_enter Try.func56, Try.ntmps56
      go_wp2
      go_ret
      refine ⟨ret_bool ?_, H.out⟩
      unfold betV cmpV
      apply decide_eq_decide.mpr
      (repeat' split) <;> omega
  · go_enter Try.func56, Try.ntmps56
    go_wp2
    go_ret
    refine ⟨ret_bool ?_, H.out⟩
    unfold betV cmpV
    apply decide_eq_decide.mpr
    (repeat' split) <;> omega
set_option maxHeartbeats 400000 in
theorem numref_any (p : Int) (w : World) (hp : 0 ≤ p ∧ p ≤ 65535) :
    Calls Try.prog 73 #[.int .u16 p] w fun e w' => e = .returned (.int .u16 (p % 4096)) ∧ Below w.heap.size w w' := by
  go_enter Try.func73, Try.ntmps73
  go_wp2
  go_ret
  exact ⟨rfl, by go_grown⟩
set_option maxHeartbeats 400000 in
theorem samead_any (n m : Int) (w : World) (hn : 0 ≤ n ∧ n ≤ 18446744073709551615) (hm : 0 ≤ m ∧ m ≤ 18446744073709551615) :
    Calls Try.prog 72 #[.int .u64 n, .int .u64 m] w fun e w' => e = .returned (.bool (sameA n m)) ∧ Below w.heap.size w w' := by
  go_enter Try.func72, Try.ntmps72
  go_wp2
  go_ret
  exact ⟨ret_bool rfl, by go_grown⟩
set_option maxHeartbeats 2000000 in
theorem supref_any (a b : V4) (w : World) (ha : a.wf) (hb : b.wf) :
    Calls Try.prog 58 #[.agg a.cs, .agg b.cs] w fun e w' => e = .returned (.bool (supV a b)) ∧ Below w.heap.size w w' := by
  obtain ⟨W, hW, va, vb, bW⟩ := two_new w a b
  have H : Hid (Below w.heap.size w W) := bW
  have la := fun q : Later W => (va.below q.below).ld
  have lb := fun q : Later W => (vb.below q.below).ld
  have a2 := fun q : Later W => (va.below q.below).c2
  have b2 := fun q : Later W => (vb.below q.below).c2
  have a3 := fun q : Later W => (va.below q.below).c3
  have b3 := fun q : Later W => (vb.below q.below).c3
  have P1 : Hid (∀ q : Later W, _) := fun q : Later W => betref_any a b q.val
  have P2 : Hid (∀ q : Later W, _) := fun q : Later W => samead_any a.b b.b q.val ha.b hb.b
  have P4 : Hid (∀ q : Later W, _) := fun q : Later W => numref_any a.p q.val ha.p
  have P5 : Hid (∀ q : Later W, _) := fun q : Later W => numref_any b.p q.val hb.p
  clear va vb bW ha hb
  cases h1 : betV a b <;> cases h2 : sameA a.b b.b
  all_goals
    rw [h1] at P1
    rw [h2] at P2
    go_enter Try.func58, Try.ntmps58
    go_wp2_with fail
    refine wp_region_later (by kernel_rfl) (by kernel_rfl) ?_
    repeat (go_big_quiet_step (first
      | exact rfl
      | (go_at_call 56; with_reducible exact Calls.later_of (P1.out _))
      | (go_at_call 72; with_reducible exact Calls.later_of (P2.out _))
      | (go_at_call 73; with_reducible exact Calls.later_of (P4.out _))
      | (go_at_call 73; with_reducible exact Calls.later_of (P5.out _))))
    refine wpQuiet_nil ?_
    intro _ hw'
    obtain ⟨x, rfl⟩ := hw'
    go_wp2
    go_ret
    refine ⟨ret_bool ?_, below_later H.out x⟩
    simp [supV, sameN, h1, h2]
    try rfl
end Go.Proofs.Ytlneoegmlcbidaa
