/-
  ChangeStates: its walk, for every port.
-/
import Derived.Test.YtfjigbmhheekbaaPst
import Derived.Test.YtfjigbmhheekbaaAwake
namespace Go.Proofs.Ytfjigbmhheekbaa
set_option linter.unusedVariables false
set_option maxRecDepth 4000
set_option linter.unusedSimpArgs false
open Go.RowKit

attribute [local go_sem ↓] ldP stP alP eqgP eqlP
attribute [local go_sem] alP_run
set_option maxHeartbeats 4000000 in
theorem ChangeStates_walk (p : Pt) (w : World) : Calls Try.prog 3 #[.agg p.cs] w fun r w' => r = .returned (.bool true) ∧ Below w.heap.size w w' := by
  obtain ⟨W, hW, r0, bW, zW⟩ := new_p w p
  have l0 := r0.pld
  have H : Hid (RvAt W w.heap.size 36 p.cs ∧ Below w.heap.size w W) := ⟨r0, bW⟩
  have C : Hid _ := pst_any p W
  clear r0 bW zW
  go_enter Try.func3, Try.ntmps3
  go_wp2_with fail
  refine Calls.mono C.out ?_
  rintro _ W1 ⟨rfl, b1⟩
  obtain ⟨q, hq⟩ : ∃ q, (pstO p).getD p = q := ⟨_, rfl⟩
  obtain ⟨B, hB⟩ : ∃ B, (pstO p).isSome = B := ⟨_, rfl⟩
  rw [hq, hB]
  have E : Hid ((pstO p).getD p = q ∧ (pstO p).isSome = B) := ⟨hq, hB⟩
  obtain ⟨W2, s2, r2, b2, z2⟩ := var_p W1 q
  obtain ⟨z, hz⟩ : ∃ z, W1.heap.size = z := ⟨_, rfl⟩
  rw [hz] at s2 r2
  have K : Hid (RvAt W2 w.heap.size 36 p.cs ∧ Below w.heap.size w W2 ∧ RvAt W2 z 36 q.cs) := ⟨(H.out.1.below b1).below b2, below_over (below_over H.out.2 b1) b2, r2⟩
  have l2 := K.out.1.pld
  have C2 : Hid _ := rpst_any p W2
  clear b1 hq hB r2 b2 z2 H C l0 hW
  go_wp2_with fail
  refine Calls.mono C2.out ?_
  rintro _ W3 ⟨rfl, b3⟩
  rw [E.out.1, E.out.2]
  obtain ⟨W4, s4, r4, b4, z4⟩ := var_p W3 q
  have k1 := ((K.out.2.2.below b3).below b4).pld
  have k2 := r4.pld
  have e := Row.eq_self q
  have G : Hid (Below w.heap.size w W4) := below_over (below_over K.out.2.1 b3) b4
  clear b3 b4 r4 z4 K C2 l2 s2 E hz
  cases B
  · go_wp2_with fail
    refine (awake_any W4).mono ?_
    rintro _ V5 ⟨rfl, b5⟩
    have F : Hid (Below w.heap.size w V5) := below_over G.out b5
    clear b5 G k1 k2 s4 e
    go_wp2
    go_ret
    exact ⟨rfl, F.out⟩
  · go_wp2_with fail
    refine (awake_any W4).mono ?_
    rintro _ V5 ⟨rfl, b5⟩
    have F : Hid (Below w.heap.size w V5) := below_over G.out b5
    clear b5 G k1 k2 s4 e
    go_wp2
    go_ret
    exact ⟨rfl, F.out⟩
end Go.Proofs.Ytfjigbmhheekbaa
