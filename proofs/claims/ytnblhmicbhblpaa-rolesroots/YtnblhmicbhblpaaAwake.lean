/-
  The page's example, and the first ports of a tree: their walks.
-/
import Derived.Test.YtnblhmicbhblpaaSlc
import Derived.Test.YtnblhmicbhblpaaPn
import Derived.Test.YtnblhmicbhblpaaLPure
namespace Go.Proofs.Ytnblhmicbhblpaa
set_option linter.unusedVariables false
set_option maxRecDepth 4000
set_option linter.unusedSimpArgs false
open Go.RowKit

/-! ### the first ports -/
theorem min_is (n : Nat) : (if (12 : Int) < (n : Int) then (12 : Int) else (n : Int)) = ((min n 12 : Nat) : Int) := by
  split <;> omega
attribute [local go_sem ↓] ldP stP ldT stT st32 slP
set_option maxHeartbeats 4000000 in
theorem few_any (h : Hd) (a : Option Addr) (n c : Nat) (l : List Pt) (w : World) (hs : SlAt w a n c l) :
    Calls Try.prog 9 #[.agg (trc h (.slice a n c))] w fun r w' => ∃ m, r = .returned (.agg (trc h (.slice a m c))) ∧ m ≤ 12 ∧ SlAt w' a m c (l.take 12) ∧ Below w.heap.size w w' := by
  obtain ⟨W, hW, r0, r1, bW, zW⟩ := two_t w h (.slice a n c)
  have c16 := r0.t16
  have l0 := r0.tld
  by_cases hn : n ≤ 12
  · obtain ⟨U, sU, rU, gU⟩ := r1.tst (g := h) (y := .slice a n c) rfl
    have el : l.take 12 = l := List.take_of_length_le (by rw [hs.len]; exact hn)
    have F : Hid (RvAt U (w.heap.size + 1) 31 (trc h (.slice a n c)) ∧ SlAt U a n c (l.take 12) ∧ Below w.heap.size w U ∧ n ≤ 12) := ⟨rU, by rw [el]; exact (hs.below bW).keptT r1 gU, gro bW gU (by omega) bW.size, hn⟩
    have hni : ¬ (12 : Int) < (n : Int) := by omega
    clear hs r0 r1 bW zW rU gU el
    go_enter Try.func9, Try.ntmps9
    go_wp2
    refine bodyPost_ret (results_row rtT Try.results9 _ _ _ _ rfl F.out.1 (trc_size _ _)) rfl ?_
    exact ⟨n, rfl, F.out.2.2.2, F.out.2.1, F.out.2.2.1⟩
  · obtain ⟨V, sV, rV, gV⟩ := r0.tset (y := .slice a 12 c) rfl
    have r2 := r1.keptBut gV (by simp)
    have lV := rV.tld
    obtain ⟨U, sU, rU, gU⟩ := r2.tst (g := h) (y := .slice a 12 c) rfl
    have sl : ∀ V : World, (slS (.slice a n c) none (some (.int .i64 12)) none).run Try.prog V = .ok (.slice a 12 c) V := sl_cut a n c 12 (by omega) hs.cap
    have s1 := ((hs.cut (m := 12) (by omega)).below bW).keptT r0 gV
    have F : Hid (RvAt U (w.heap.size + 1) 31 (trc h (.slice a 12 c)) ∧ SlAt U a 12 c (l.take 12) ∧ Below w.heap.size w U) := ⟨rU, s1.keptT r2 gU, gro (gro bW gV (Nat.le_refl _) bW.size) gU (by omega) (by have := bW.size; have := gV.size; omega)⟩
    have hni : (12 : Int) < (n : Int) := by omega
    clear hs r0 r1 bW zW rV gV r2 rU gU s1 l0
    go_enter Try.func9, Try.ntmps9
    go_wp2
    refine bodyPost_ret (results_row rtT Try.results9 _ _ _ _ rfl F.out.1 (trc_size _ _)) rfl ?_
    exact ⟨12, rfl, by omega, F.out.2.1, F.out.2.2⟩
/-! ### the example -/
def vX : Vc := ⟨[.int .u64 3, .int .u32 0, .int .u64 3, .int .u16 32769], fits4 ⟨3, rfl, by decide⟩ ⟨0, rfl, by decide⟩ ⟨3, rfl, by decide⟩ ⟨32769, rfl, by decide⟩⟩
def kX : Vc := ⟨[.int .u64 3, .int .u32 10, .int .u64 3, .int .u16 32769], fits4 ⟨3, rfl, by decide⟩ ⟨10, rfl, by decide⟩ ⟨3, rfl, by decide⟩ ⟨32769, rfl, by decide⟩⟩
theorem kp0 : kdP[0]? = some (some .u16) := rfl
theorem kp1 : kdP[1]? = some (some .u32) := rfl
theorem kh0 : kdH[0]? = some (some .u64) := rfl
def pX : Pt := (((zeroP.set 0 (.int .u16 32769) (fit_num kp0 (by decide))).set 1 (.int .u32 10) (fit_num kp1 (by decide))).setN 29 kn29 3 wi3).put 36 vX kq36 kl36
def hX : Hd := zeroH.set 0 (.int .u64 5) (fit_num kh0 (by decide))
def lX : List Pt := [pX]
theorem x1 : ldB hX pX = true := by kernel_rfl
theorem x2 : tkB lX pX (addV pX) (ownV hX) (-1) = true := by kernel_rfl
theorem x3 : addV pX = kX := Row.ext' (by kernel_rfl)
theorem xF : rtF hX lX 1 = (addV pX, 0) := by
  show rtS hX lX 0 (ownV hX, -1) = _
  unfold rtS
  have e : gtP lX 0 = pX := rfl
  rw [if_pos (by simp only [e, x1, x2, Bool.and_self])]
  rfl
theorem xV : rooV hX lX = kX := by
  unfold rooV
  rw [show lX.length = 1 from rfl, xF]
  exact x3
theorem xK : rooK hX lX = 0 := by
  unfold rooK
  rw [show lX.length = 1 from rfl, xF]
theorem xR : (hdS hX lX).nm 7 = 32769 := by
  rw [hdS_id]
  unfold ridN
  rw [xK]
  kernel_rfl
theorem xW : (gtP (selL hX lX) 0).nm 31 = 3 := (one_at hX lX (i := 0) (by decide)).2 (by rw [xK]; rfl)
theorem xS : (gtP (selL hX lX) 0).bt 22 = true := by
  rw [sel_at hX lX (i := 0) (by decide), sel_22]
theorem bdP (ps : Array (Nat × Value)) : Instr.build 47 ps = bdS 47 ps := rfl
theorem bdT (ps : Array (Nat × Value)) : Instr.build 31 ps = bdS 31 ps := rfl
theorem bx1 (w : World) : (bdS 28 #[(0, .int .u64 3), (2, .int .u64 3), (3, .int .u16 32769)]).run Try.prog w = .ok (.agg vX.cs) w := by kernel_rfl
theorem bx2 (w : World) : (bdS 47 #[(0, .int .u16 32769), (1, .int .u32 10), (29, .int .i64 3), (33, .agg vX.cs)]).run Try.prog w = .ok (.agg pX.cs) w := by kernel_rfl
theorem bx3 (b : Nat) (w : World) : (bdS 31 #[(0, .int .u64 5), (7, .slice (some ⟨b, 0, none⟩) 1 1)]).run Try.prog w = .ok (.agg (trc hX (.slice (some ⟨b, 0, none⟩) 1 1))) w := by kernel_rfl
theorem bx4 (w : World) : (bdS 28 #[(0, .int .u64 3), (1, .int .u32 10), (2, .int .u64 3), (3, .int .u16 32769)]).run Try.prog w = .ok (.agg kX.cs) w := by kernel_rfl
/-- Room for a tree, filled. -/
theorem new_tr (w : World) (h : Hd) (x : Value) (hx : x.oneCell' = true) : ∃ W', (stS 31 (.pointer (some ⟨w.heap.size, 0, none⟩)) (.agg (trc h x))).run Try.prog (w.alloc (.cells #[.int .u64 0, .int .u8 0, .int .u8 0, .int .u8 0, .int .u8 0, .int .u8 0, .bool false, .int .u16 0, .int .u64 0, .int .u32 0, .int .u64 0, .int .u16 0, .int .u8 0, .int .u8 0, .int .u8 0, .int .u8 0, .slice none 0 0] 31)) = .ok () W' ∧ RvAt W' w.heap.size 31 (trc h x) ∧ Below w.heap.size w W' ∧ W'.heap.size = w.heap.size + 1 := by
  have h0 := row_new rtT w zeroT (trc h x) rfl (trc_size h x) (trc_one hx)
  exact h0
attribute [local go_sem ↓] ldV stV eqgV eqlV alP bdV bdP bdT bs32
attribute [local go_sem] alP_run bx1 bx2 bx3 bx4
set_option maxHeartbeats 4000000 in
theorem awake_any (w : World) : Calls Try.prog 12 #[] w fun r w' => r = .returned (.bool true) ∧ Below w.heap.size w w' := by
  obtain ⟨V, sV, rV, bV, zV⟩ := new_pv w pX
  have lV := rV.pld
  have bs := bsP_is pX V
  obtain ⟨g, hg⟩ : ∃ g, V.heap.size = g := ⟨_, rfl⟩
  obtain ⟨A, hA⟩ : ∃ A, V.alloc (.cells pX.cs 47) = A := ⟨_, rfl⟩
  have sA : SlAt A (some ⟨g, 0, none⟩) 1 1 lX := by rw [← hA, ← hg]; exact one_new V pX
  have bA : Below w.heap.size w A := by rw [← hA]; exact bV.alloc bV.size _
  rw [hA, hg] at bs
  have C : Hid _ := select_any hX (some ⟨g, 0, none⟩) 1 1 lX A sA (by omega)
  have F : Hid (Below w.heap.size w A) := bA
  clear rV bV zV sA bA hA hg
  go_enter Try.func12, Try.ntmps12
  go_wp2_with fail
  refine Calls.mono C.out ?_
  rintro _ W1 ⟨a', c', rfl, s1, b1⟩
  obtain ⟨b, o, rfl⟩ := s1.some' (by omega)
  obtain ⟨W2, s2, r2, b2, z2⟩ := new_tr W1 (hdS hX lX) (.slice (some ⟨b, o, none⟩) 1 c') rfl
  have k1 := r2.tR
  rw [hdS_root, xV] at k1
  have k2 := r2.tnum (j := 7) (k := .u16) rfl
  rw [xR] at k2
  have k3 := r2.t16
  have hq := gtP_at (l := selL hX lX) (i := 0) (by rw [selL_len]; decide)
  have k4 := (s1.below b2).cell hq ((gtP (selL hX lX) 0).num (j := 31) (k := .i64) rfl) (by omega)
  have k5 := (s1.below b2).cell hq ((gtP (selL hX lX) 0).bit (j := 22) rfl) (by omega)
  rw [xW] at k4
  rw [xS] at k5
  simp only [Nat.zero_mul, Nat.add_zero] at k4 k5
  have e := Row.eq_self kX
  have G : Hid (Below w.heap.size w W2) := below_over (below_over F.out b1) b2
  clear s1 b1 r2 b2 z2 hq C F
  go_wp2
  go_ret
  exact ⟨rfl, G.out⟩
end Go.Proofs.Ytnblhmicbhblpaa
