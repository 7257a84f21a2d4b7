/-
  HeardAges: its walk, for every port. What else of a port stays.
-/
import Derived.Test.YtlnammicialacabAwake
namespace Go.Proofs.Ytlnammicialacab
set_option linter.unusedVariables false
set_option maxRecDepth 4000
set_option linter.unusedSimpArgs false
open Go.RowKit

theorem part_get {l : List Value} {o n j : Nat} (h : j < n) : ((l.drop o).take n)[j]? = l[o + j]? := by
  rw [List.getElem?_take, if_pos h, List.getElem?_drop]
theorem mV_get (p : Pt) {j : Nat} (h : j < 4) : (mV p).cl[j]? = p.cl[56 + j]? := part_get h
theorem mT_get (p : Pt) {j : Nat} (h : j < 4) : (mT p).cl[j]? = p.cl[60 + j]? := part_get h
theorem pri_get (p : Pt) {j : Nat} (h : j < 4) : (pri p).cl[j]? = p.cl[36 + j]? := part_get h
theorem priT_get (p : Pt) {j : Nat} (h : j < 4) : (priT p).cl[j]? = p.cl[44 + j]? := part_get h
theorem msg_get (p : Pt) {j : Nat} (h : j < 16) : (msg p).cl[j]? = p.cl[48 + j]? := part_get h
theorem prioP_get (p : Pt) (i : Nat) : (prioP p).cl[i]? = if 36 ≤ i ∧ i < 40 then p.cl[56 + (i - 36)]? else p.cl[i]? := by
  rw [prioP, Row.put_get]
  by_cases h : 36 ≤ i ∧ i < 40
  · rw [if_pos h, if_pos (by rw [lenV]; exact h), mV_get p (by omega)]
  · rw [if_neg h, if_neg (by rw [lenV]; exact h)]
theorem timQ_get (p : Pt) (i : Nat) : (timQ p).cl[i]? = if 44 ≤ i ∧ i < 48 then p.cl[60 + (i - 44)]? else p.cl[i]? := by
  rw [timQ, Row.put_get]
  by_cases h : 44 ≤ i ∧ i < 48
  · rw [if_pos h, if_pos (by rw [lenT]; exact h), mT_get p (by omega)]
  · rw [if_neg h, if_neg (by rw [lenT]; exact h)]
theorem ku46 : kdP[46]? = some (some .u8) := rfl
theorem timP_get (p : Pt) {i : Nat} (h : i ≠ 46) : (timP p).cl[i]? = (timQ p).cl[i]? := by
  unfold timP
  split
  · rw [Row.setU_get _ ku46 (wf8 (by omega)), if_neg h]
  · rfl
theorem timP_46 (p : Pt) : 1 ≤ (timP p).nm 46 ∧ (timP p).nm 46 ≤ 255 := by
  have hu := p.u8 (j := 62) rfl
  by_cases h : p.nm 62 = 0
  · rw [timP, if_pos h]
    have : ((timQ p).setU 46 1).nm 46 = 1 := by
      rw [Row.setU_is _ ku46 (wf8 (by omega))]
      exact Row.nset _ _ (by decide)
    omega
  · rw [timP, if_neg h, timQ_46]
    omega
theorem whiN_in (p : Pt) : 0 ≤ whiN p ∧ whiN p ≤ 255 := by
  have := p.u8 (j := 46) rfl
  unfold whiN
  (repeat' split) <;> omega
theorem whiP_69 (p : Pt) : (whiP p).nm 69 = whiN p := by
  rw [whiP, Row.setU_is _ ku69 (wf8 (whiN_in p))]
  exact Row.nset _ _ (by decide)
theorem ages (p : Pt) : ((whiP (timP p)).nm 69 != 0) = decide (p.nm 60 < p.nm 61) := by
  have h44 : (timP p).nm 44 = p.nm 60 := nm_of (by rw [timP_get p (by decide), timQ_get, if_pos (by decide)])
  have h45 : (timP p).nm 45 = p.nm 61 := nm_of (by rw [timP_get p (by decide), timQ_get, if_pos (by decide)])
  have h46 := timP_46 p
  have u60 := p.u8 (j := 60) rfl
  have u61 := p.u8 (j := 61) rfl
  rw [whiP_69, whiN, h44, h45]
  by_cases h : p.nm 60 < p.nm 61
  · rw [if_pos (by omega)]
    have : (if 3 * (timP p).nm 46 ≤ 255 then 3 * (timP p).nm 46 else 255) ≠ 0 := by split <;> omega
    simp [h, this]
  · rw [if_neg (by omega)]
    simp [h]
attribute [local go_sem ↓] ldP stP ldM stM ldTm stTm ldV stV stB stU
attribute [local go_sem ↓] alP alM
attribute [local go_sem] alP_run alM_run
set_option maxHeartbeats 4000000 in
theorem HeardAges_walk (p : Pt) (w : World) :
    Calls Try.prog 3 #[.agg p.cs] w fun r w' => r = .returned (.bool true) ∧ Below w.heap.size w w' := by
  obtain ⟨W, hW, rp, bW, zW⟩ := new_p w p
  have H : Hid (RvAt W w.heap.size 36 p.cs ∧ Below w.heap.size w W) := ⟨rp, bW⟩
  have lp := rp.pld
  clear rp bW zW
  go_enter Try.func3, Try.ntmps3
  go_wp2_with fail
  refine (tim_any p W).mono ?_
  rintro _ A ⟨rfl, bA⟩
  have B1 : Hid (Below W.heap.size W A) := bA
  clear bA
  go_wp2_with fail
  refine (whi_any (timP p) A).mono ?_
  rintro _ V ⟨rfl, bV⟩
  have b2 := below_over B1.out bV
  obtain ⟨C, sC, rC, bC, zC⟩ := var_p V (whiP (timP p))
  have b3 := below_over b2 bC
  have rp := H.out.1.below b3
  have c60 := rp.num (j := 60) (k := .u8) rfl
  have c61 := rp.num (j := 61) (k := .u8) rfl
  have c69 := rC.num (j := 69) (k := .u8) rfl
  have u60 := p.u8 (j := 60) rfl
  have u61 := p.u8 (j := 61) rfl
  have hag := ages p
  obtain ⟨X, hX⟩ : ∃ X, (whiP (timP p)).nm 69 = X := ⟨_, rfl⟩
  obtain ⟨Y, hY⟩ : ∃ X, p.nm 60 = X := ⟨_, rfl⟩
  obtain ⟨Z, hZ⟩ : ∃ X, p.nm 61 = X := ⟨_, rfl⟩
  rw [hX] at c69 hag
  rw [hY] at c60 u60 hag
  rw [hZ] at c61 u61 hag
  have G : Hid (Below w.heap.size w C) := below_over H.out.2 b3
  clear bV b2 rC bC zC b3 rp hX hY hZ lp hW H B1
  by_cases h : Y < Z
  · have hx : ¬ X = 0 := by simpa [h] using hag
    clear hag
    go_wp2_with fail
    refine (awake_any C).mono ?_
    rintro _ U ⟨rfl, bU⟩
    have G2 : Hid (Below w.heap.size w U) := below_over G.out bU
    clear bU
    go_wp2
    go_ret
    exact ⟨ret_bool (show (X != 0) = true by simp [hx]), G2.out⟩
  · have hx : X = 0 := by simpa [h] using hag
    clear hag
    subst hx
    go_wp2_with fail
    refine (awake_any C).mono ?_
    rintro _ U ⟨rfl, bU⟩
    have G2 : Hid (Below w.heap.size w U) := below_over G.out bU
    clear bU
    go_wp2
    go_ret
    exact ⟨ret_bool (show (!decide (Y < Z)) = true by simp [h]), G2.out⟩
end Go.Proofs.Ytlnammicialacab
