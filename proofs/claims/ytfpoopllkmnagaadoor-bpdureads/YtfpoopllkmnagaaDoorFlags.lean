/-
  The walk of a message's flags: for every message.
-/
import Derived.Test.YtfpoopllkmnagaaDoorSmall
import Derived.Test.YtfpoopllkmnagaaDoorEqs
namespace Go.Proofs.YtfpoopllkmnagaaDoor
set_option linter.unusedVariables false
set_option maxRecDepth 4000
set_option linter.unusedSimpArgs false
open Go.RowKit

attribute [local go_sem ↓] ldS32 ldS49 ldS28 ldS30 ldS83 stS32 stS49 stS28 stS30 eqP_eq nqP_eq eqM_eq nqM_eq nqV_eq nqT_eq


theorem or_flags (r : Nat) (tc pr le fo ag ak : Bool) (hr : r < 4) :
    bits .or .u64 (bits .or .u64 (bits .or .u64 (bits .or .u64 (bits .or .u64 (bits .or .u64 ((r : Int) * 4) (bitI tc 1)) (bitI pr 2)) (bitI le 16)) (bitI fo 32)) (bitI ag 64)) (bitI ak 128) = ((4 * r + bitB tc 1 + bitB pr 2 + bitB le 16 + bitB fo 32 + bitB ag 64 + bitB ak 128 : Nat) : Int) := by
  have h4 : r = 0 ∨ r = 1 ∨ r = 2 ∨ r = 3 := by omega
  rcases h4 with rfl | rfl | rfl | rfl <;> cases tc <;> cases pr <;> cases le <;> cases fo <;> cases ag <;> cases ak <;> decide +kernel

set_option maxHeartbeats 1000000 in
theorem flags_any (m : Bp) (w : World) (h : Rl w) :
    Calls Tryd.prog 41 #[.agg m.cs] w fun r w' => r = .returned (.int .u64 (flN m : Nat)) ∧ Below w.heap.size w w' := by
  have hp := PvAt.new w m
  have hB : Below w.heap.size w (w.alloc (.cells m.cs 32)) := (Below.refl _ _).alloc (Nat.le_refl _) _
  have hR : Rl (w.alloc (.cells m.cs 32)) := h.below hB h.lt
  have c1 := hp.c1
  have c2 := hp.c2
  have c3 := hp.c3
  have c4 := hp.c4
  have c5 := hp.c5
  have c6 := hp.c6
  have c7 := hp.c7
  have HR : Hid (Rl (w.alloc (.cells m.cs 32)) ∧ Below w.heap.size w (w.alloc (.cells m.cs 32))) := ⟨hR, hB⟩
  have hr4 := roN_lt m.ro
  have HE : Hid (flN m = 4 * roN m.ro + bitB m.tc 1 + bitB m.pr 2 + bitB m.le 16 + bitB m.fo 32 + bitB m.ag 64 + bitB m.ak 128) := rfl
  clear hp h hB hR
  go_enter Tryd.func41, Tryd.ntmps41
  go_wp2_with fail
  refine (roleNumber_any m.ro _ HR.out.1).mono ?_
  rintro _ _ ⟨rfl, rfl⟩
  obtain ⟨R, hR⟩ : ∃ R, roN m.ro = R := ⟨_, rfl⟩
  rw [hR] at HE hr4 ⊢
  clear hR
  go_wp2_with fail
  go_quiet ((go_at_call 49; refine Calls.quiet_of_same (flag_any _ _ _)))
  go_wp2
  go_ret
  refine ⟨ret_int ?_, below_dn HR.out.2 _⟩
  rw [HE.out]
  exact or_flags R _ _ _ _ _ _ hr4
end Go.Proofs.YtfpoopllkmnagaaDoor
