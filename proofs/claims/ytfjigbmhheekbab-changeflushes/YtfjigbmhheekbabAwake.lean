/-
  The page's example: its walk.
-/
import Derived.Test.YtfjigbmhheekbabTcm
namespace Go.Proofs.Ytfjigbmhheekbab
set_option linter.unusedVariables false
set_option maxRecDepth 4000
set_option linter.unusedSimpArgs false
open Go.RowKit

def pX : Pt := (((zeroP.setN 30 kn30 4 wi4).setB 9 kb9 true).setB 7 kb7 true).setN 74 kn74 2 wi2
def lX : List Pt := [pX, zeroP]
def mX : List Pt := sprL lX 0 (detP zeroH pX)
theorem x_0 : gtP lX 0 = pX := rfl
theorem x_74 : pX.nm 74 = 2 := by kernel_rfl
theorem x_has : (hasB pX && pX.bt 7) = true := by kernel_rfl
theorem x_is : tcmO zeroH lX 0 = some mX := by
  unfold tcmO leaO
  rw [x_0, if_neg (by rw [x_74]; decide), if_pos x_74, if_pos x_has]
  rfl
theorem m_74 : (gtP mX 0).nm 74 = 3 := by kernel_rfl
theorem m_27 : (gtP mX 1).bt 27 = true := by kernel_rfl
theorem m_0 : (gtP mX 0).bt 27 = false := by kernel_rfl
theorem m_len : mX.length = 2 := rfl
def bdS (t : TypeId) (ps : Array (Nat × Value)) : Sem Value := Instr.build t ps
theorem bdP (ps : Array (Nat × Value)) : Instr.build 41 ps = bdS 41 ps := rfl
theorem bdT (ps : Array (Nat × Value)) : Instr.build 31 ps = bdS 31 ps := rfl
theorem bx1 (w : World) : (bdS 41 #[(30, .int .i64 4), (9, .bool true), (7, .bool true), (47, .int .i64 2)]).run Try.prog w = .ok (.agg pX.cs) w := by kernel_rfl
theorem bx2 (w : World) : (bdS 41 #[]).run Try.prog w = .ok (.agg zeroP.cs) w := by kernel_rfl
theorem bx3 (b : Nat) (w : World) : (bdS 31 #[(7, .slice (some ⟨b, 0, none⟩) 2 2)]).run Try.prog w = .ok (.agg (trc zeroH (.slice (some ⟨b, 0, none⟩) 2 2))) w := by kernel_rfl
def lXc : Array Value := (pX.cl ++ zeroP.cl).toArray
theorem bx4 (w : World) : (bsP 2 #[(0, .agg pX.cs), (1, .agg zeroP.cs)]).run Try.prog w = .ok (.slice (some ⟨w.heap.size, 0, none⟩) 2 2) (w.alloc (.cells lXc 41)) := by kernel_rfl
/-- Two ports in a new row. -/
theorem two_new (W : World) : SlAt (W.alloc (.cells lXc 41)) (some ⟨W.heap.size, 0, none⟩) 2 2 lX := by
  refine ⟨rfl, Nat.le_refl _, by unfold maxLen; omega, (fun e => by cases e), fun y e _ => ?_⟩
  cases e
  refine ⟨_, _, rfl, fun j u hj => ?_⟩
  rw [Nat.zero_add]
  refine RvAt.cell (RvAt.new W 41 lXc) j u ?_
  have : lX.flatMap Row.cl = pX.cl ++ zeroP.cl := by simp [lX]
  rw [this] at hj
  rw [← Array.getElem?_toList]
  exact hj
attribute [local go_sem ↓] ldP stP ldT stT alP bdP bdT bs32
attribute [local go_sem] alP_run bx1 bx2 bx3 bx4
set_option maxHeartbeats 4000000 in
theorem awake_any (w : World) : Calls Try.prog 5 #[] w fun r w' => r = .returned (.bool true) ∧ Below w.heap.size w w' := by
  obtain ⟨V, sV, rV, bV, zV⟩ := var_p w pX
  have lV := rV.pld
  obtain ⟨g, hg⟩ : ∃ g, V.heap.size = g := ⟨_, rfl⟩
  obtain ⟨A, hA⟩ : ∃ A, V.alloc (.cells lXc 41) = A := ⟨_, rfl⟩
  have sA : SlAt A (some ⟨g, 0, none⟩) 2 2 lX := by rw [← hA, ← hg]; exact two_new V
  have bA : Below w.heap.size w A := by rw [← hA]; exact bV.alloc bV.size _
  have C := tcm_in zeroH (some ⟨g, 0, none⟩) 2 2 lX 0 A sA (by omega) (by omega)
  rw [x_is, show ((0 : Nat) : Int) = 0 from rfl] at C
  have C : Hid _ := C
  have F : Hid (Below w.heap.size w A) := bA
  clear rV bV zV sA bA
  go_enter Try.func5, Try.ntmps5
  go_wp2_with fail
  refine Calls.mono C.out ?_
  rintro _ W1 ⟨a', c', rfl, s1, b1⟩
  obtain ⟨b, o, rfl⟩ := s1.some' (by omega)
  have s1 : SlAt W1 (some ⟨b, o, none⟩) 2 c' mX := s1
  obtain ⟨W2, s2, r2, b2, z2⟩ := new_tr W1 zeroH (.slice (some ⟨b, o, none⟩) 2 c') rfl
  have k3 := r2.t16
  have h0 := gtP_at (l := mX) (i := 0) (by rw [m_len]; decide)
  have h1 := gtP_at (l := mX) (i := 1) (by rw [m_len]; decide)
  have k4 := (s1.below b2).cell h0 ((gtP mX 0).num (j := 74) (k := .i64) rfl) (by omega)
  have k5 := (s1.below b2).cell h0 ((gtP mX 0).bit (j := 27) rfl) (by omega)
  have k6 := (s1.below b2).cell h1 ((gtP mX 1).bit (j := 27) rfl) (by omega)
  rw [m_74] at k4
  rw [m_0] at k5
  rw [m_27] at k6
  simp only [Nat.zero_mul, Nat.add_zero, Nat.one_mul] at k4 k5 k6
  have G : Hid (Below w.heap.size w W2) := below_over (below_over F.out b1) b2
  clear s1 b1 r2 b2 z2 h0 h1 C F hA hg
  go_wp2
  go_ret
  exact ⟨rfl, G.out⟩
end Go.Proofs.Ytfjigbmhheekbab
