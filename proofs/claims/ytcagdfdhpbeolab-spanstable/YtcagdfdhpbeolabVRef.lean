/-
  The definitions of stage 6: which vector is better, have two numbers one address: the walks, for every input.
-/
import Derived.Test.YtcagdfdhpbeolabSup
namespace Go.Proofs.Ytcagdfdhpbeolab
set_option linter.unusedVariables false
set_option maxRecDepth 4000
set_option linter.unusedSimpArgs false
open Go.RowKit

attribute [local go_sem ↓] ldV stV
set_option maxHeartbeats 1000000 in
theorem betref_any (a b : V4) (w : World) :
    Calls Try.prog 12 #[.agg a.cs, .agg b.cs] w fun e w' => e = .returned (.bool (betV a b)) ∧ Below w.heap.size w w' := by
  obtain ⟨W, hW, va, vb, bW⟩ := two_new w a b
  have H : Hid (Below w.heap.size w W) := bW
  have a0 := va.c0
  have a1 := va.c1
  have a2 := va.c2
  have a3 := va.c3
  have b0 := vb.c0
  have b1 := vb.c1
  have b2 := vb.c2
  have b3 := vb.c3
  clear va vb bW
  by_cases h1 : a.r = b.r
  · by_cases h2 : a.c = b.c
    · by_cases h3 : a.b = b.b
      · go_enter Try.func12, Try.ntmps12
        go_wp2
        go_ret
        refine ⟨ret_bool ?_, H.out⟩
        unfold betV cmpV
        apply decide_eq_decide.mpr
        (repeat' split) <;> omega
      · go_enter Try.func12, Try.ntmps12
        go_wp2
        go_ret
        refine ⟨ret_bool ?_, H.out⟩
        unfold betV cmpV
        apply decide_eq_decide.mpr
        (repeat' split) <;> omega
    · go_enter Try.func12, Try.ntmps12
      go_wp2
      go_ret
      refine ⟨ret_bool ?_, H.out⟩
      unfold betV cmpV
      apply decide_eq_decide.mpr
      (repeat' split) <;> omega
  · go_enter Try.func12, Try.ntmps12
    go_wp2
    go_ret
    refine ⟨ret_bool ?_, H.out⟩
    unfold betV cmpV
    apply decide_eq_decide.mpr
    (repeat' split) <;> omega

set_option maxHeartbeats 400000 in
theorem samead_any (n m : Int) (w : World) (hn : 0 ≤ n ∧ n ≤ 18446744073709551615) (hm : 0 ≤ m ∧ m ≤ 18446744073709551615) :
    Calls Try.prog 17 #[.int .u64 n, .int .u64 m] w fun e w' => e = .returned (.bool (sameA n m)) ∧ Below w.heap.size w w' := by
  go_enter Try.func17, Try.ntmps17
  go_wp2
  go_ret
  exact ⟨ret_bool rfl, by go_grown⟩

end Go.Proofs.Ytcagdfdhpbeolab
