/-
  The walk of which messages may be: for every message.
-/
import Derived.Test.YtfpoopllkmnagaaDoorSmall
import Derived.Test.YtfpoopllkmnagaaDoorEqs
namespace Go.Proofs.YtfpoopllkmnagaaDoor
set_option linter.unusedVariables false
set_option maxRecDepth 4000
set_option linter.unusedSimpArgs false
open Go.RowKit

attribute [local go_sem ↓] ldS32 ldS49 ldS28 ldS30 ldS83 stS32 stS49 stS28 stS30 eqP_eq nqP_eq eqM_eq nqM_eq nqV_eq nqT_eq


set_option maxHeartbeats 4000000 in
theorem check_any (m : Bp) (w : World) (h : Rl w) :
    Calls Tryd.prog 9 #[.agg m.cs] w fun r w' => r = .returned (.int .i64 (chkP m)) ∧ Below w.heap.size w w' := by
  have hp := PvAt.new w m
  have hB : Below w.heap.size w (w.alloc (.cells m.cs 32)) := (Below.refl _ _).alloc (Nat.le_refl _) _
  have c0 := hp.c0
  have c1 := hp.c1
  have c2 := hp.c2
  have c3 := hp.c3
  have c4 := hp.c4
  have c5 := hp.c5
  have c6 := hp.c6
  have c7 := hp.c7
  have cv := hp.ldv
  have ct := hp.ldt
  have nv := nqV_any m
  have nt := nqT_any m
  have gv := guard_v .neq
  have gt' := guard_t .neq
  have HR : Hid (Rl (w.alloc (.cells m.cs 32))) := h.below hB h.lt
  have HB : Hid (Below w.heap.size w (w.alloc (.cells m.cs 32))) := hB
  have HE : Hid (chkP m = if (if m.k = 2 then !((m.tc || (m.ak || (!decide (m.rt = 0 ∧ m.co = 0 ∧ m.br = 0 ∧ m.po = 0) || !decide (m.a = 0 ∧ m.x = 0 ∧ m.h = 0 ∧ m.d = 0)))) || (m.pr || (m.le || (m.fo || (m.ag || (m.ro != 0)))))) else if m.k = 1 then !(m.pr || (m.le || (m.fo || (m.ag || (m.ro != 0))))) else if m.k = 3 then !(m.ak || !roOk m.ro) else false) then 0 else 50) := rfl
  obtain ⟨cs, hcs⟩ : ∃ cs, m.cs = cs := ⟨_, rfl⟩
  obtain ⟨V, hV⟩ : ∃ V, m.vv = V := ⟨_, rfl⟩
  obtain ⟨T, hT⟩ : ∃ T, m.tv = T := ⟨_, rfl⟩
  have gv1 : ∀ (x y : Operand) (cs : Array Value) (w : World), (eqGuard .neq 28 x y V (.agg cs)).run Tryd.prog w = .ok () w := fun x y cs w => by rw [← hV]; exact gv x y m cs w
  have gt1 : ∀ (x y : Operand) (cs : Array Value) (w : World), (eqGuard .neq 30 x y T (.agg cs)).run Tryd.prog w = .ok () w := fun x y cs w => by rw [← hT]; exact gt' x y m cs w
  rw [hV] at nv cv
  rw [hT] at nt ct
  rw [hcs] at c0 c1 c2 c3 c4 c5 c6 c7 cv ct HR HB ⊢
  obtain ⟨zv, hzv⟩ : ∃ z, (!decide (m.rt = 0 ∧ m.co = 0 ∧ m.br = 0 ∧ m.po = 0)) = z := ⟨_, rfl⟩
  obtain ⟨zt, hzt⟩ : ∃ z, (!decide (m.a = 0 ∧ m.x = 0 ∧ m.h = 0 ∧ m.d = 0)) = z := ⟨_, rfl⟩
  rw [hzv] at HE
  rw [hzt] at HE
  have nv1 : ∀ w, (nqV V (.agg #[.int .u64 0, .int .u32 0, .int .u64 0, .int .u16 0])).run Tryd.prog w = .ok (.bool zv) w := fun w => by rw [← hzv]; exact nv w
  have nt1 : ∀ w, (nqT T (.agg #[.int .u8 0, .int .u8 0, .int .u8 0, .int .u8 0])).run Tryd.prog w = .ok (.bool zt) w := fun w => by rw [← hzt]; exact nt w
  clear hp h hB gv gt' nv nt hV hT hcs hzv hzt
  generalize m.k = k at *
  generalize m.tc = tc at *
  generalize m.ak = ak at *
  generalize m.pr = pr at *
  generalize m.le = le at *
  generalize m.fo = fo at *
  generalize m.ag = ag at *
  generalize m.ro = ro at *
  by_cases k2 : k = 2
  · subst k2
    rcases Bool.eq_false_or_eq_true tc with rfl | rfl
    · go_enter Tryd.func9, Tryd.ntmps9
      go_wp2
      go_ret
      exact ⟨ret_int (by rw [HE.out]; simp), HB.out⟩
    rcases Bool.eq_false_or_eq_true ak with rfl | rfl
    · go_enter Tryd.func9, Tryd.ntmps9
      go_wp2
      go_ret
      exact ⟨ret_int (by rw [HE.out]; simp), HB.out⟩
    rcases Bool.eq_false_or_eq_true zv with rfl | rfl
    · go_enter Tryd.func9, Tryd.ntmps9
      go_wp2
      go_ret
      exact ⟨ret_int (by rw [HE.out]; simp), HB.out⟩
    rcases Bool.eq_false_or_eq_true zt with rfl | rfl
    · go_enter Tryd.func9, Tryd.ntmps9
      go_wp2
      go_ret
      exact ⟨ret_int (by rw [HE.out]; simp), HB.out⟩
    rcases Bool.eq_false_or_eq_true pr with rfl | rfl
    · go_enter Tryd.func9, Tryd.ntmps9
      go_wp2
      go_ret
      exact ⟨ret_int (by rw [HE.out]; simp), HB.out⟩
    rcases Bool.eq_false_or_eq_true le with rfl | rfl
    · go_enter Tryd.func9, Tryd.ntmps9
      go_wp2
      go_ret
      exact ⟨ret_int (by rw [HE.out]; simp), HB.out⟩
    rcases Bool.eq_false_or_eq_true fo with rfl | rfl
    · go_enter Tryd.func9, Tryd.ntmps9
      go_wp2
      go_ret
      exact ⟨ret_int (by rw [HE.out]; simp), HB.out⟩
    rcases Bool.eq_false_or_eq_true ag with rfl | rfl
    · go_enter Tryd.func9, Tryd.ntmps9
      go_wp2
      go_ret
      exact ⟨ret_int (by rw [HE.out]; simp), HB.out⟩
    by_cases hro : ro = 0
    · subst hro
      go_enter Tryd.func9, Tryd.ntmps9
      go_wp2
      go_ret
      exact ⟨ret_int (by rw [HE.out]; simp), HB.out⟩
    go_enter Tryd.func9, Tryd.ntmps9
    go_wp2
    go_ret
    exact ⟨ret_int (by rw [HE.out]; simp [hro]), HB.out⟩
  by_cases k1 : k = 1
  · subst k1
    rcases Bool.eq_false_or_eq_true pr with rfl | rfl
    · go_enter Tryd.func9, Tryd.ntmps9
      go_wp2
      go_ret
      exact ⟨ret_int (by rw [HE.out]; simp), HB.out⟩
    rcases Bool.eq_false_or_eq_true le with rfl | rfl
    · go_enter Tryd.func9, Tryd.ntmps9
      go_wp2
      go_ret
      exact ⟨ret_int (by rw [HE.out]; simp), HB.out⟩
    rcases Bool.eq_false_or_eq_true fo with rfl | rfl
    · go_enter Tryd.func9, Tryd.ntmps9
      go_wp2
      go_ret
      exact ⟨ret_int (by rw [HE.out]; simp), HB.out⟩
    rcases Bool.eq_false_or_eq_true ag with rfl | rfl
    · go_enter Tryd.func9, Tryd.ntmps9
      go_wp2
      go_ret
      exact ⟨ret_int (by rw [HE.out]; simp), HB.out⟩
    by_cases hro : ro = 0
    · subst hro
      go_enter Tryd.func9, Tryd.ntmps9
      go_wp2
      go_ret
      exact ⟨ret_int (by rw [HE.out]; simp), HB.out⟩
    go_enter Tryd.func9, Tryd.ntmps9
    go_wp2
    go_ret
    exact ⟨ret_int (by rw [HE.out]; simp [hro]), HB.out⟩
  by_cases k3 : k = 3
  · subst k3
    rcases Bool.eq_false_or_eq_true ak with rfl | rfl
    · go_enter Tryd.func9, Tryd.ntmps9
      go_wp2_with fail
      refine (roleNumber_any ro _ HR.out).mono ?_
      rintro _ _ ⟨rfl, rfl⟩
      go_wp2
      go_ret
      exact ⟨ret_int (by rw [HE.out]; simp), HB.out⟩
    rcases Bool.eq_false_or_eq_true (roOk ro) with hro | hro
    · rw [hro] at HE
      go_enter Tryd.func9, Tryd.ntmps9
      go_wp2_with fail
      refine (roleNumber_any ro _ HR.out).mono ?_
      rintro _ _ ⟨rfl, rfl⟩
      rw [hro]
      go_wp2
      go_ret
      exact ⟨ret_int (by rw [HE.out]; simp), HB.out⟩
    · rw [hro] at HE
      go_enter Tryd.func9, Tryd.ntmps9
      go_wp2_with fail
      refine (roleNumber_any ro _ HR.out).mono ?_
      rintro _ _ ⟨rfl, rfl⟩
      rw [hro]
      go_wp2
      go_ret
      exact ⟨ret_int (by rw [HE.out]; simp), HB.out⟩
  go_enter Tryd.func9, Tryd.ntmps9
  go_wp2
  go_ret
  exact ⟨ret_int (by rw [HE.out]; simp [*]), HB.out⟩
end Go.Proofs.YtfpoopllkmnagaaDoor
