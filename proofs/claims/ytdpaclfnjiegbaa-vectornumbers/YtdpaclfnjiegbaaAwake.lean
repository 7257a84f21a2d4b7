/-
  The page's example: the walk.
-/
import Derived.Test.YtdpaclfnjiegbaaSup
import Derived.Test.YtdpaclfnjiegbaaBest
namespace Go.Proofs.Ytdpaclfnjiegbaa
set_option linter.unusedVariables false
set_option maxRecDepth 4000
set_option linter.unusedSimpArgs false
open Go.RowKit

/-- The page's vectors. -/
def pA : Vc := ⟨1, 5, 3, 0⟩
def pB : Vc := ⟨1, 5, 4, 0⟩
def pC : Vc := ⟨1, 9, 3, 7⟩
def pD : Vc := ⟨1, 5, 3, 7⟩
theorem pA_wf : pA.wf := ⟨by simp [pA], by simp [pA], by simp [pA], by simp [pA]⟩
theorem pB_wf : pB.wf := ⟨by simp [pB], by simp [pB], by simp [pB], by simp [pB]⟩
theorem pC_wf : pC.wf := ⟨by simp [pC], by simp [pC], by simp [pC], by simp [pC]⟩
theorem pD_wf : pD.wf := ⟨by simp [pD], by simp [pD], by simp [pD], by simp [pD]⟩
theorem p_ab (W : World) : Calls Try.prog 11 #[.agg #[.int .u64 1, .int .u32 5, .int .u64 3, .int .u16 0], .agg #[.int .u64 1, .int .u32 5, .int .u64 4, .int .u16 0]] W fun e w' => e = .returned (.bool true) ∧ Below W.heap.size W w' := by
  have h := better_any pA pB W pA_wf pB_wf
  rw [show betV pA pB = true from by decide] at h
  exact h
theorem p_ca (W : World) : Calls Try.prog 11 #[.agg #[.int .u64 1, .int .u32 9, .int .u64 3, .int .u16 7], .agg #[.int .u64 1, .int .u32 5, .int .u64 3, .int .u16 0]] W fun e w' => e = .returned (.bool false) ∧ Below W.heap.size W w' := by
  have h := better_any pC pA W pC_wf pA_wf
  rw [show betV pC pA = false from by decide] at h
  exact h
theorem p_cd (W : World) : Calls Try.prog 13 #[.agg #[.int .u64 1, .int .u32 9, .int .u64 3, .int .u16 7], .agg #[.int .u64 1, .int .u32 5, .int .u64 3, .int .u16 7]] W fun e w' => e = .returned (.bool true) ∧ Below W.heap.size W w' := by
  have h := superior_any pC pD W pC_wf pD_wf
  rw [show supV pC pD = true from by decide] at h
  exact h
theorem vs_two (W : World) (t : TypeId) : VsAt (W.alloc (.cells #[.int .u64 1, .int .u32 5, .int .u64 4, .int .u16 0, .int .u64 1, .int .u32 5, .int .u64 3, .int .u16 0] t)) (some ⟨W.heap.size, 0, none⟩) 2 2 [pB, pA] := by
  refine ⟨rfl, Nat.le_refl _, by unfold maxLen; omega, fun _ => ⟨_, _, rfl⟩, fun b o e j hj k v hv => ?_⟩
  cases e
  have hb := alloc_at W (.cells #[.int .u64 1, .int .u32 5, .int .u64 4, .int .u16 0, .int .u64 1, .int .u32 5, .int .u64 3, .int .u16 0] t)
  have hj' : j = 0 ∨ j = 1 := by omega
  have hk : k < 4 := by
    by_cases hk : k < 4
    · exact hk
    · rw [List.getElem?_eq_none (by show 4 ≤ k; omega)] at hv
      cases hv
  have hk' : k = 0 ∨ k = 1 ∨ k = 2 ∨ k = 3 := by omega
  rcases hj' with rfl | rfl <;> rcases hk' with rfl | rfl | rfl | rfl <;> (cases hv; exact cell_at hb _ _ rfl)
theorem p_ba (W : World) (t : TypeId) : Calls Try.prog 20 #[.slice (some ⟨W.heap.size, 0, none⟩) 2 2] (W.alloc (.cells #[.int .u64 1, .int .u32 5, .int .u64 4, .int .u16 0, .int .u64 1, .int .u32 5, .int .u64 3, .int .u16 0] t)) fun e w' => e = .returned (.int .i64 1) ∧ Below (W.alloc (.cells #[.int .u64 1, .int .u32 5, .int .u64 4, .int .u16 0, .int .u64 1, .int .u32 5, .int .u64 3, .int .u16 0] t)).heap.size (W.alloc (.cells #[.int .u64 1, .int .u32 5, .int .u64 4, .int .u16 0, .int .u64 1, .int .u32 5, .int .u64 3, .int .u16 0] t)) w' := by
  have h := best_any _ 2 2 [pB, pA] _ (vs_two W t) (by intro v hv; simp at hv; rcases hv with rfl | rfl; exact pB_wf; exact pA_wf)
  rw [show bestAt [pB, pA] 2 = 1 from by decide] at h
  exact h
set_option maxHeartbeats 2000000 in
theorem awake_any (w : World) :
    Calls Try.prog 15 #[] w fun r w' => r = .returned (.bool true) ∧ Below w.heap.size w w' := by
  have hx := @Later.cell
  go_enter Try.func15, Try.ntmps15
  go_wp2_with fail
  refine Calls.on_later (p_ab _) ?_
  intro x
  go_wp2_with fail
  refine Calls.on_later2 (p_cd _) ?_
  intro x2
  clear x
  go_wp2_with fail
  refine Calls.on_later2 (p_ca _) ?_
  intro x3
  clear x2
  go_wp2_with fail
  refine (p_ba x3.val _).mono ?_
  rintro _ W ⟨rfl, b4⟩
  have B4 : Hid (Below w.heap.size w W) := below_over (below_later (by go_grown) x3) (below_over ((Below.refl _ _).alloc (Nat.le_refl _) _) b4)
  clear b4
  go_wp2
  go_ret
  exact ⟨rfl, B4.out⟩
end Go.Proofs.Ytdpaclfnjiegbaa
