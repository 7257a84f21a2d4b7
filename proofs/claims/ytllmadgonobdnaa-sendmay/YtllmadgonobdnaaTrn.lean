/-
  What becomes of a port's version: the walk of turnOf, for every port.
-/
import Derived.Test.YtllmadgonobdnaaPut
namespace Go.Proofs.Ytllmadgonobdnaa
set_option linter.unusedVariables false
set_option maxRecDepth 4000
set_option linter.unusedSimpArgs false
open Go.RowKit

attribute [local go_sem ↓] ldP stP stB stU stW ldT stT st32 alP
attribute [local go_sem] alP_run
/-- What turnOf tells. -/
def turV : Nat → Value
  | 0 => .nilFunc
  | 1 => fv 41
  | 2 => fv 42
  | _ => fv 43
theorem ppm_le (p : Pt) : ppmC p = 0 ∨ ppmC p = 1 ∨ ppmC p = 2 ∨ ppmC p = 3 := by
  unfold ppmC
  (repeat' split) <;> simp
set_option maxHeartbeats 4000000 in
theorem turn_any (p : Pt) (w : World) : Calls Try.prog 30 #[.agg p.cs] w fun r w' => r = .returned (turV (ppmC p)) ∧ Below w.heap.size w w' := by
  obtain ⟨C, hC⟩ : ∃ z, ppmC p = z := ⟨_, rfl⟩
  rw [hC]
  have E : Hid (ppmC p = C) := hC
  obtain ⟨W, hW, r0, bW, zW⟩ := new_p w p
  have c76 := r0.num (j := 76) (k := .i64) rfl
  have c67 := r0.num (j := 67) (k := .u8) rfl
  have c2 := r0.bit (j := 2) rfl
  have c23 := r0.bit (j := 23) rfl
  have c15 := r0.bit (j := 15) rfl
  have c16 := r0.bit (j := 16) rfl
  have H : Hid (Below w.heap.size w W) := bW
  clear r0 bW zW hC
  obtain ⟨N, hN⟩ : ∃ z, p.nm 76 = z := ⟨_, rfl⟩
  obtain ⟨M, hM⟩ : ∃ z, p.nm 67 = z := ⟨_, rfl⟩
  obtain ⟨b2, h2⟩ : ∃ z, p.bt 2 = z := ⟨_, rfl⟩
  obtain ⟨b23, h23⟩ : ∃ z, p.bt 23 = z := ⟨_, rfl⟩
  obtain ⟨b15, h15⟩ : ∃ z, p.bt 15 = z := ⟨_, rfl⟩
  obtain ⟨b16, h16⟩ : ∃ z, p.bt 16 = z := ⟨_, rfl⟩
  have HN : Hid (p.nm 76 = N) := hN
  have HM : Hid (p.nm 67 = M) := hM
  have H2 : Hid (p.bt 2 = b2) := h2
  have H23 : Hid (p.bt 23 = b23) := h23
  have H15 : Hid (p.bt 15 = b15) := h15
  have H16 : Hid (p.bt 16 = b16) := h16
  rw [hN] at c76
  rw [hM] at c67
  rw [h2] at c2
  rw [h23] at c23
  rw [h15] at c15
  rw [h16] at c16
  clear hN hM h2 h23 h15 h16
  by_cases hN1 : N = 1
  · subst hN1
    cases b2
    · by_cases hM3 : M = 3
      · subst hM3
        have EC : ppmC p = 0 := by unfold ppmC; simp [HN.out, HM.out, H2.out, H23.out, H15.out, H16.out]
        have E2 : Hid (C = 0) := by rw [← E.out]; exact EC
        clear EC E HN HM H2 H23 H15 H16 
        go_enter Try.func30, Try.ntmps30
        go_wp2
        go_ret
        exact ⟨by rw [E2.out]; rfl, H.out⟩
      · have xM3 : (M == 3) = false := beq_eq_false_iff_ne.2 hM3
        have yM3 : (M != 3) = true := by simp [hM3]
        have EC : ppmC p = 1 := by unfold ppmC; simp [HN.out, HM.out, H2.out, H23.out, H15.out, H16.out, hM3]
        have E2 : Hid (C = 1) := by rw [← E.out]; exact EC
        clear EC E HN HM H2 H23 H15 H16 hM3
        go_enter Try.func30, Try.ntmps30
        go_wp2
        go_ret
        exact ⟨by rw [E2.out]; rfl, H.out⟩
    · by_cases hM0 : M = 0
      · subst hM0
        have EC : ppmC p = 2 := by unfold ppmC; simp [HN.out, HM.out, H2.out, H23.out, H15.out, H16.out]
        have E2 : Hid (C = 2) := by rw [← E.out]; exact EC
        clear EC E HN HM H2 H23 H15 H16 
        go_enter Try.func30, Try.ntmps30
        go_wp2
        go_ret
        exact ⟨by rw [E2.out]; rfl, H.out⟩
      · have xM0 : (M == 0) = false := beq_eq_false_iff_ne.2 hM0
        have yM0 : (M != 0) = true := by simp [hM0]
        have EC : ppmC p = 0 := by unfold ppmC; simp [HN.out, HM.out, H2.out, H23.out, H15.out, H16.out, hM0]
        have E2 : Hid (C = 0) := by rw [← E.out]; exact EC
        clear EC E HN HM H2 H23 H15 H16 hM0
        go_enter Try.func30, Try.ntmps30
        go_wp2
        go_ret
        exact ⟨by rw [E2.out]; rfl, H.out⟩
  · have xN1 : (N == 1) = false := beq_eq_false_iff_ne.2 hN1
    have yN1 : (N != 1) = true := by simp [hN1]
    by_cases hN3 : N = 3
    · subst hN3
      clear xN1 yN1
      cases b2
      · have EC : ppmC p = 1 := by unfold ppmC; simp [HN.out, HM.out, H2.out, H23.out, H15.out, H16.out]
        have E2 : Hid (C = 1) := by rw [← E.out]; exact EC
        clear EC E HN HM H2 H23 H15 H16 
        go_enter Try.func30, Try.ntmps30
        go_wp2
        go_ret
        exact ⟨by rw [E2.out]; rfl, H.out⟩
      · cases b23
        · cases b15
          · have EC : ppmC p = 0 := by unfold ppmC; simp [HN.out, HM.out, H2.out, H23.out, H15.out, H16.out]
            have E2 : Hid (C = 0) := by rw [← E.out]; exact EC
            clear EC E HN HM H2 H23 H15 H16 
            go_enter Try.func30, Try.ntmps30
            go_wp2
            go_ret
            exact ⟨by rw [E2.out]; rfl, H.out⟩
          · have EC : ppmC p = 1 := by unfold ppmC; simp [HN.out, HM.out, H2.out, H23.out, H15.out, H16.out]
            have E2 : Hid (C = 1) := by rw [← E.out]; exact EC
            clear EC E HN HM H2 H23 H15 H16 
            go_enter Try.func30, Try.ntmps30
            go_wp2
            go_ret
            exact ⟨by rw [E2.out]; rfl, H.out⟩
        · cases b16
          · have EC : ppmC p = 0 := by unfold ppmC; simp [HN.out, HM.out, H2.out, H23.out, H15.out, H16.out]
            have E2 : Hid (C = 0) := by rw [← E.out]; exact EC
            clear EC E HN HM H2 H23 H15 H16 
            go_enter Try.func30, Try.ntmps30
            go_wp2
            go_ret
            exact ⟨by rw [E2.out]; rfl, H.out⟩
          · have EC : ppmC p = 3 := by unfold ppmC; simp [HN.out, HM.out, H2.out, H23.out, H15.out, H16.out]
            have E2 : Hid (C = 3) := by rw [← E.out]; exact EC
            clear EC E HN HM H2 H23 H15 H16 
            go_enter Try.func30, Try.ntmps30
            go_wp2
            go_ret
            exact ⟨by rw [E2.out]; rfl, H.out⟩
    · have xN3 : (N == 3) = false := beq_eq_false_iff_ne.2 hN3
      have yN3 : (N != 3) = true := by simp [hN3]
      by_cases hN2 : N = 2
      · subst hN2
        clear xN1 yN1 xN3 yN3
        by_cases hM0 : M = 0
        · subst hM0
          have EC : ppmC p = 2 := by unfold ppmC; simp [HN.out, HM.out, H2.out, H23.out, H15.out, H16.out]
          have E2 : Hid (C = 2) := by rw [← E.out]; exact EC
          clear EC E HN HM H2 H23 H15 H16 
          go_enter Try.func30, Try.ntmps30
          go_wp2
          go_ret
          exact ⟨by rw [E2.out]; rfl, H.out⟩
        · have xM0 : (M == 0) = false := beq_eq_false_iff_ne.2 hM0
          have yM0 : (M != 0) = true := by simp [hM0]
          cases b2
          · have EC : ppmC p = 2 := by unfold ppmC; simp [HN.out, HM.out, H2.out, H23.out, H15.out, H16.out, hM0]
            have E2 : Hid (C = 2) := by rw [← E.out]; exact EC
            clear EC E HN HM H2 H23 H15 H16 hM0
            go_enter Try.func30, Try.ntmps30
            go_wp2
            go_ret
            exact ⟨by rw [E2.out]; rfl, H.out⟩
          · have EC : ppmC p = 0 := by unfold ppmC; simp [HN.out, HM.out, H2.out, H23.out, H15.out, H16.out, hM0]
            have E2 : Hid (C = 0) := by rw [← E.out]; exact EC
            clear EC E HN HM H2 H23 H15 H16 hM0
            go_enter Try.func30, Try.ntmps30
            go_wp2
            go_ret
            exact ⟨by rw [E2.out]; rfl, H.out⟩
      · have xN2 : (N == 2) = false := beq_eq_false_iff_ne.2 hN2
        have yN2 : (N != 2) = true := by simp [hN2]
        have EC : ppmC p = 1 := by unfold ppmC; simp [HN.out, HM.out, H2.out, H23.out, H15.out, H16.out, hN1, hN2, hN3]
        have E2 : Hid (C = 1) := by rw [← E.out]; exact EC
        clear EC E HN HM H2 H23 H15 H16 hN1 hN2 hN3
        go_enter Try.func30, Try.ntmps30
        go_wp2
        go_ret
        exact ⟨by rw [E2.out]; rfl, H.out⟩
end Go.Proofs.Ytllmadgonobdnaa
