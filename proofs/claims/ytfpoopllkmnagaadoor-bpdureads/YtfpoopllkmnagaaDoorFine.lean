/-
  The walk of which messages may be, by definition: for every message.
-/
import Derived.Test.YtfpoopllkmnagaaDoorSmall
import Derived.Test.YtfpoopllkmnagaaDoorEqs
namespace Go.Proofs.YtfpoopllkmnagaaDoor
set_option linter.unusedVariables false
set_option maxRecDepth 4000
set_option linter.unusedSimpArgs false
open Go.RowKit

attribute [local go_sem ↓] ldS32 ldS49 ldS28 ldS30 ldS83 stS32 stS49 stS28 stS30 eqP_eq nqP_eq eqM_eq nqM_eq nqV_eq nqT_eq


theorem same_tcn (m : Bp) (h : m.k = 2) : m.same (kP 2) = okB m := by
  unfold okB badT badC Bp.same kP
  rw [if_pos h, Bool.eq_iff_iff]
  simp [h]
  cases m.tc <;> cases m.ak <;> cases m.pr <;> cases m.le <;> cases m.fo <;> cases m.ag <;> simp
  constructor
  · rintro ⟨a, b, c, d, e, f, g, h, i⟩
    exact ⟨⟨⟨b, c, d, e⟩, f, g, h, i⟩, a⟩
  · rintro ⟨⟨⟨b, c, d, e⟩, f, g, h, i⟩, a⟩
    exact ⟨a, b, c, d, e, f, g, h, i⟩
/-- A Config of what is told. -/
def cfP (m : Bp) : Bp := ⟨1, m.tc, m.ak, false, false, false, false, 0, m.rt, m.co, m.br, m.po, m.a, m.x, m.h, m.d⟩
theorem same_cfg (m : Bp) (h : m.k = 1) : m.same (cfP m) = okB m := by
  unfold okB badC Bp.same cfP
  rw [if_neg (by omega), if_pos h, Bool.eq_iff_iff]
  simp [h]
theorem PvAt.lvl {W : World} {b : Nat} {m : Bp} (h : PvAt W b m) : (ldS 28 (.pointer (some ⟨b, 8, none⟩))).run Tryd.prog W = .ok (.agg #[.int .u64 m.rt, .int .u32 m.co, .int .u64 m.br, .int .u16 m.po]) W := h.ldv
theorem PvAt.ltl {W : World} {b : Nat} {m : Bp} (h : PvAt W b m) : (ldS 30 (.pointer (some ⟨b, 12, none⟩))).run Tryd.prog W = .ok (.agg #[.int .u8 m.a, .int .u8 m.x, .int .u8 m.h, .int .u8 m.d]) W := h.ldt

set_option maxHeartbeats 4000000 in
theorem fine_any (m : Bp) (w : World) :
    Calls Tryd.prog 23 #[.agg m.cs] w fun r w' => r = .returned (.bool (okB m)) ∧ Below w.heap.size w w' := by
  have hp := PvAt.new w m
  have hB : Below w.heap.size w (w.alloc (.cells m.cs 32)) := (Below.refl _ _).alloc (Nat.le_refl _) _
  have c0 := hp.c0
  have c1 := hp.c1
  have c2 := hp.c2
  have c3 := hp.c3
  have c4 := hp.c4
  have c5 := hp.c5
  have c6 := hp.c6
  have c7 := hp.c7
  have cv := hp.lvl
  have ct := hp.ltl
  have lw := hp.ld
  have gp := guard_p .eql
  have e2 : ∀ W, (eqP (.agg m.cs) (.agg #[.int .i64 2, .bool false, .bool false, .bool false, .bool false, .bool false, .bool false, .int .i64 0, .int .u64 0, .int .u32 0, .int .u64 0, .int .u16 0, .int .u8 0, .int .u8 0, .int .u8 0, .int .u8 0])).run Tryd.prog W = .ok (.bool (m.same (kP 2))) W := eqP_any m (kP 2)
  have e1 : ∀ W, (eqP (.agg m.cs) (.agg #[.int .i64 1, .bool m.tc, .bool m.ak, .bool false, .bool false, .bool false, .bool false, .int .i64 0, .int .u64 m.rt, .int .u32 m.co, .int .u64 m.br, .int .u16 m.po, .int .u8 m.a, .int .u8 m.x, .int .u8 m.h, .int .u8 m.d])).run Tryd.prog W = .ok (.bool (m.same (cfP m))) W := eqP_any m (cfP m)
  have HB : Hid (Below w.heap.size w (w.alloc (.cells m.cs 32))) := hB
  clear hp hB
  by_cases k2 : m.k = 2
  · have e := same_tcn m k2
    rw [e] at e2
    clear e1 e
    go_enter Tryd.func23, Tryd.ntmps23
    go_wp2
    go_ret
    exact ⟨rfl, HB.out⟩
  by_cases k1 : m.k = 1
  · have e := same_cfg m k1
    rw [e] at e1
    clear e2 e
    go_enter Tryd.func23, Tryd.ntmps23
    go_wp2
    go_ret
    exact ⟨rfl, HB.out⟩
  by_cases k3 : m.k = 3
  · have HE : Hid (okB m = !(m.ak || !(decide (m.ro = 0 ∨ m.ro = 1 ∨ m.ro = 3 ∨ m.ro = 4)))) := by
      show _ = _
      unfold okB roOk
      rw [if_neg k2, if_neg k1, if_pos k3]
    clear e1 e2 cv ct lw
    generalize m.ak = ak at *
    generalize m.ro = ro at *
    rcases Bool.eq_false_or_eq_true ak with rfl | rfl
    · go_enter Tryd.func23, Tryd.ntmps23
      go_wp2
      go_ret
      exact ⟨ret_bool (by rw [HE.out]; simp), HB.out⟩
    by_cases r0 : ro = 0
    · subst r0
      go_enter Tryd.func23, Tryd.ntmps23
      go_wp2
      go_ret
      exact ⟨ret_bool (by rw [HE.out]; simp), HB.out⟩
    by_cases r1 : ro = 1
    · subst r1
      go_enter Tryd.func23, Tryd.ntmps23
      go_wp2
      go_ret
      exact ⟨ret_bool (by rw [HE.out]; simp), HB.out⟩
    by_cases r3 : ro = 3
    · subst r3
      go_enter Tryd.func23, Tryd.ntmps23
      go_wp2
      go_ret
      exact ⟨ret_bool (by rw [HE.out]; simp), HB.out⟩
    by_cases r4 : ro = 4
    · subst r4
      go_enter Tryd.func23, Tryd.ntmps23
      go_wp2
      go_ret
      exact ⟨ret_bool (by rw [HE.out]; simp), HB.out⟩
    go_enter Tryd.func23, Tryd.ntmps23
    go_wp2
    go_ret
    exact ⟨ret_bool (by rw [HE.out]; simp [r0, r1, r3, r4]), HB.out⟩
  have HE : Hid (okB m = false) := by
    show _ = _
    unfold okB
    rw [if_neg k2, if_neg k1, if_neg k3]
  go_enter Tryd.func23, Tryd.ntmps23
  go_wp2
  go_ret
  exact ⟨ret_bool HE.out.symm, HB.out⟩
end Go.Proofs.YtfpoopllkmnagaaDoor
