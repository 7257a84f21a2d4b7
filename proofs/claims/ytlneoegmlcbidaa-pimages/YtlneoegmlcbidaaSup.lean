/-
  Which vector is superior: the walk, for every input.
-/
import Derived.Test.YtlneoegmlcbidaaVec
import Derived.Test.YtlneoegmlcbidaaNum
namespace Go.Proofs.Ytlneoegmlcbidaa
set_option linter.unusedVariables false
set_option maxRecDepth 4000
set_option linter.unusedSimpArgs false
open Go.RowKit

/-- Have two numbers one address? -/
def sameA (n m : Int) : Bool := decide (n % 281474976710656 = m % 281474976710656)
/-- Have two ports one number? -/
def sameN (p q : Int) : Bool := decide (p % 4096 = q % 4096)
/-- Is the first superior? -/
def supV (a b : V4) : Bool := betV a b || (sameA a.b b.b && sameN a.p b.p)
theorem eq6_ad (n m : Int) : eq6 (n / 1099511627776 % 256) (n / 4294967296 % 256) (n / 16777216 % 256) (n / 65536 % 256) (n / 256 % 256) (n % 256) (m / 1099511627776 % 256) (m / 4294967296 % 256) (m / 16777216 % 256) (m / 65536 % 256) (m / 256 % 256) (m % 256) = sameA n m := by
  unfold eq6 sameA
  apply decide_eq_decide.mpr
  constructor <;> intro h <;> omega
attribute [local go_sem ↓] ldV stV
set_option maxHeartbeats 2000000 in
theorem superior_any (a b : V4) (w : World) (ha : a.wf) (hb : b.wf) :
    Calls Try.prog 75 #[.agg a.cs, .agg b.cs] w fun e w' => e = .returned (.bool (supV a b)) ∧ Below w.heap.size w w' := by
  obtain ⟨W, hW, va, vb, bW⟩ := two_new w a b
  have H : Hid (Below w.heap.size w W) := bW
  have la := fun q : Later W => (va.below q.below).ld
  have lb := fun q : Later W => (vb.below q.below).ld
  have a2 := fun q : Later W => (va.below q.below).c2
  have b2 := fun q : Later W => (vb.below q.below).c2
  have a3 := fun q : Later W => (va.below q.below).c3
  have b3 := fun q : Later W => (vb.below q.below).c3
  have P1 : Hid (∀ q : Later W, _) := fun q : Later W => better_any a b q.val ha hb
  have P2 : Hid (∀ q : Later W, _) := fun q : Later W => address_any a.b q.val ha.b
  have P3 : Hid (∀ q : Later W, _) := fun q : Later W => address_any b.b q.val hb.b
  have P4 : Hid (∀ q : Later W, _) := fun q : Later W => number_any a.p q.val ha.p
  have P5 : Hid (∀ q : Later W, _) := fun q : Later W => number_any b.p q.val hb.p
  have he := eq6_ad a.b b.b
  clear va vb bW ha hb
  cases h1 : betV a b <;> cases h2 : sameA a.b b.b
  all_goals
    rw [h1] at P1
    rw [h2] at he
    go_enter Try.func75, Try.ntmps75
    go_wp2_with fail
    refine wp_region_later (by kernel_rfl) (by kernel_rfl) ?_
    repeat (go_big_quiet_step (first
      | exact rfl
      | (go_at_call 61; with_reducible exact Calls.later_of (P1.out _))
      | (go_at_call 88; with_reducible exact Calls.later_of (P2.out _))
      | (go_at_call 88; with_reducible exact Calls.later_of (P3.out _))
      | (go_at_call 89; with_reducible exact Calls.later_of (P4.out _))
      | (go_at_call 89; with_reducible exact Calls.later_of (P5.out _))))
    refine wpQuiet_nil ?_
    intro _ hw'
    obtain ⟨x, rfl⟩ := hw'
    go_wp2
    go_ret
    refine ⟨ret_bool ?_, below_later H.out x⟩
    simp [supV, sameN, h1, h2]
    try rfl
end Go.Proofs.Ytlneoegmlcbidaa
