/-
  BpduBytes: which messages may be, and the bytes of any message, as defined: the walk.
-/
import Derived.Test.YtfpoopllkmnagaaDoorAwake
import Derived.Test.YtfpoopllkmnagaaDoorRead
import Derived.Test.YtfpoopllkmnagaaDoorRRd
namespace Go.Proofs.YtfpoopllkmnagaaDoor
set_option linter.unusedVariables false
set_option maxRecDepth 4000
set_option linter.unusedSimpArgs false
open Go.RowKit

attribute [local go_sem ↓] ldS32 ldS49 ldS28 ldS30 ldS83 stS32 stS49 stS28 stS30 eqP_eq nqP_eq eqM_eq nqM_eq nqV_eq nqT_eq slS_eq


set_option maxHeartbeats 4000000 in
theorem BpduBytes_walk (m : Bp) (w : World) (hR : Rl w) (hm : m.wf) :
    Calls Tryd.prog 3 #[.agg m.cs] w fun r w' => r = .returned (.bool true) ∧ Below w.heap.size w w' := by
  have hB : Below w.heap.size w (w.alloc (.cells m.cs 32)) := (Below.refl _ _).alloc (Nat.le_refl _) _
  have hp := PvAt.new w m
  have ld := hp.ld
  have H : Hid (BSt w (w.alloc (.cells m.cs 32)) m) := ⟨hp, hR.below hB hR.lt, hB⟩
  have HM : Hid m.wf := hm
  clear hB hp hR hm
  go_enter Tryd.func3, Tryd.ntmps3
  go_wp2_with fail
  refine (bytes_any m _ H.out.rl HM.out).mono ?_
  rintro _ W1 ⟨v1, rfl, o1, b1⟩
  have H1 : Hid (BSt w W1 m ∧ Src W1 v1 (mbO m)) := ⟨H.out.later b1, o1.src⟩
  have l1 := H1.out.1.pv.ld
  clear o1 b1 H ld
  go_wp2_with fail
  refine (bref_any m _ HM.out).mono ?_
  rintro _ W2 ⟨v2, rfl, o2, b2⟩
  have H2 : Hid (BSt w W2 m) := H1.out.1.later b2
  have l2 := H2.out.pv.ld
  have q1 := (H1.out.2.below b2).string
  have q2 := o2.src.string
  obtain ⟨E, hE⟩ : ∃ E, chkP m = E := ⟨_, rfl⟩
  have HE : Hid (chkP m = E) := hE
  rw [hE]
  clear o2 b2 H1 l1 hE
  go_wp2_with fail
  refine (check_any m _ H2.out.rl).mono ?_
  rintro _ W3 ⟨rfl, b3⟩
  rw [HE.out]
  have H3 : Hid (BSt w W3 m) := H2.out.later b3
  clear b3 H2 l2 q1 q2
  go_wp2_with fail
  refine (awake_any _ H3.out.rl).mono ?_
  rintro _ W4 ⟨rfl, b4⟩
  have B4 : Hid (Below w.heap.size w W4) := below_over H3.out.below b4
  clear b4 H3
  go_wp2
  go_ret
  exact ⟨rfl, B4.out⟩
end Go.Proofs.YtfpoopllkmnagaaDoor
