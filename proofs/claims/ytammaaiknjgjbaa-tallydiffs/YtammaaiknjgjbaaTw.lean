/-
  The page's example; how far a counter goes: the walk of the law, for every input.
-/
import Derived.Test.YtammaaiknjgjbaaTd
import Derived.Deep.CutRange
namespace Go.Proofs.Ytammaaiknjgjbaa
set_option linter.unusedVariables false
set_option maxRecDepth 4000
set_option linter.unusedSimpArgs false
open Go.RowKit
theorem bsW (n : Nat) (ps : Array (Nat × Value)) : Instr.buildSlice 23 n ps = bsS 23 n ps := rfl
theorem b3W (x y z : Int) (w : World) : (bsS 23 3 #[(0, .int .i64 x), (1, .int .i64 y), (2, .int .i64 z)]).run Try.prog w = .ok (.slice (some ⟨w.heap.size, 0, none⟩) 3 3) (w.alloc (.cells #[.int .i64 x, .int .i64 y, .int .i64 z] 32)) := by kernel_rfl
theorem b2W (x y : Int) (w : World) : (bsS 23 2 #[(0, .int .i64 x), (1, .int .i64 y)]).run Try.prog w = .ok (.slice (some ⟨w.heap.size, 0, none⟩) 2 2) (w.alloc (.cells #[.int .i64 x, .int .i64 y] 32)) := by kernel_rfl
theorem b1W (x : Int) (w : World) : (bsS 23 1 #[(0, .int .i64 x)]).run Try.prog w = .ok (.slice (some ⟨w.heap.size, 0, none⟩) 1 1) (w.alloc (.cells #[.int .i64 x] 32)) := by kernel_rfl
attribute [local go_sem ↓] apI bsI ldT stT stI ldA stA bsW
attribute [local go_sem] bzI b3W b2W b1W
theorem why_new (W : World) (l : List Int) (h : l.length ≤ 1000) : SlAt eW (W.alloc (.cells (eW.fl l).toArray 32)) (some ⟨W.heap.size, 0, none⟩) l.length l.length l := by
  have p : PAt eW (W.alloc (.cells (eW.fl l).toArray 32)) W.heap.size l.length l := ⟨_, RvAt.new W _ _, Nat.le_refl _, by unfold maxLen; omega, by simp [El.fl_len kW], by
    rw [List.toList_toArray, List.take_of_length_le (by rw [El.fl_len kW]; exact Nat.le_refl _)]⟩
  exact p.sl kW
def awN : List Int := [0, 0, 0, 0, 0, 2, 0, 0, 0, 0, 0, 0, 0, 0, 0]
set_option maxHeartbeats 2000000 in
theorem awake_any (W : World) : Calls Try.prog 11 #[] W fun e W' => e = .returned (.bool true) ∧ Below W.heap.size W W' := by
  go_enter Try.func11, Try.ntmps11
  go_wp2_with fail
  refine (new_any W).mono ?_
  rintro _ X1 ⟨g, rfl, hg, t1, b1⟩
  have K1 : Hid (TAt X1 g zN ∧ Below W.heap.size W X1 ∧ W.heap.size ≤ g) := ⟨t1, b1, hg⟩
  clear t1 b1 hg
  go_wp2_with fail
  refine (add_any K1.out.1 isZ 5 2).mono ?_
  rintro _ X2 ⟨rfl, t2, g2⟩
  rw [show addE zN 5 2 = 0 by decide]
  rw [show addN zN 5 2 = awN by decide] at t2
  have K2 : Hid (TAt X2 g awN ∧ Below W.heap.size W X2) := ⟨t2, gro K1.out.2.1 g2 K1.out.2.2 K1.out.2.1.size⟩
  have hN : IsN awN := ⟨rfl, by decide⟩
  clear t2 g2 K1
  go_wp2_with fail
  refine (get_any K2.out.1 hN 5).mono ?_
  rintro _ X5 ⟨rfl, b5⟩
  rw [show getN awN 5 = 2 by decide]
  have K2' : Hid (TAt X5 g awN ∧ Below W.heap.size W X5) := ⟨RvAt.below K2.out.1 b5, below_over K2.out.2 b5⟩
  clear K2 b5
  have s3 := why_new X5 [5, 5, 6] (by decide)
  have b3 : Below X5.heap.size X5 (X5.alloc (.cells (eW.fl [5, 5, 6]).toArray 32)) := (Below.refl _ _).alloc (Nat.le_refl _) _
  obtain ⟨X3, hX3⟩ : ∃ e, X5.alloc (.cells (eW.fl [5, 5, 6]).toArray 32) = e := ⟨_, rfl⟩
  rw [hX3] at s3 b3
  have hX3' : X5.alloc (.cells #[.int .i64 5, .int .i64 5, .int .i64 6] 32) = X3 := hX3
  have K3 : Hid (TAt X3 g awN ∧ Below W.heap.size W X3 ∧ SlAt eW X3 (some ⟨X5.heap.size, 0, none⟩) 3 3 [5, 5, 6]) := ⟨RvAt.below K2'.out.1 b3, below_over K2'.out.2 b3, s3⟩
  clear s3 b3 hX3 K2'
  go_wp2_with fail
  refine (sum_any K3.out.1 hN K3.out.2.2 (by omega)).mono ?_
  rintro _ X4 ⟨rfl, b4⟩
  rw [show sumT awN [5, 5, 6] 3 = 2 by decide]
  go_wp2
  go_ret
  exact ⟨rfl, below_over K3.out.2.1 b4⟩
/-! ### how far -/
theorem addN_get {N : List Int} (hN : IsN N) {k : Nat} (hw : okW (k : Int) = true) {n : Int} (he : addE N k n = 0) : getN (addN N k n) k = getN N k + n := by
  have hl := (hN.get hw).2.2.2.2.1
  rw [Int.toNat_natCast] at hl
  have e : addN N k n = N.set k (getN N k + n) := by unfold addN; rw [if_pos he, Int.toNat_natCast]
  have e2 : ∀ M : List Int, getN M k = M.getD k 0 := fun M => by unfold getN; rw [if_pos hw, Int.toNat_natCast]
  rw [e, e2 (N.set k _), List.getD_eq_getElem?_getD, List.getElem?_set, if_pos rfl, if_pos (by rw [hN.1]; exact hl)]
  rfl
/-- One counter alone. -/
structure ManS (w W : World) (g : Nat) (N : List Int) (k : Nat) (x : Int) : Prop where
  t : TAt W g N
  n : IsN N
  v : getN N k = x
  b : Below w.heap.size w W
  lo : w.heap.size ≤ g
theorem mod_14 (r : Int) : ∃ n : Nat, 1 + r % 14 = (n : Int) ∧ 1 ≤ n ∧ n ≤ 14 := ⟨(1 + r % 14).toNat, by omega, by omega, by omega⟩
set_option maxHeartbeats 8000000 in
theorem many_law (r : Int) (w : World) (hr : 0 ≤ r ∧ r ≤ 255) : Calls Try.prog 6 #[.int .u8 r] w fun e w' => e = .returned (.bool true) ∧ Below w.heap.size w w' := by
  obtain ⟨k, hk, hk1, hk14⟩ := mod_14 r
  have hr0 := hr.1
  have hr1 := hr.2
  have hw : okW (k : Int) = true := by unfold okW; exact decide_eq_true (by omega)
  go_enter Try.func6, Try.ntmps6
  go_wp2_with fail
  clear hk
  refine (new_any w).mono ?_
  rintro _ X1 ⟨g, rfl, hg, t1, b1⟩
  have K1 : Hid (TAt X1 g zN ∧ Below w.heap.size w X1 ∧ w.heap.size ≤ g) := ⟨t1, b1, hg⟩
  clear t1 b1 hg
  go_wp2_with fail
  refine (awake_any X1).mono ?_
  rintro _ X2 ⟨rfl, b2⟩
  have K2 : Hid (ManS w X2 g zN k 0) := ⟨RvAt.below K1.out.1 b2, isZ, get_zN _, below_over K1.out.2.1 b2, K1.out.2.2⟩
  clear b2 K1
  go_wp2_with fail
  go_loopw [5] (fun v wr => ∃ (i : Nat) (N : List Int), i ≤ 1048576 ∧ v = .int .i64 i ∧ ManS w wr g N k (i * 1073741824)) (fun v _ => 1048576 - (intOf v).toNat)
  case atStart => exact ⟨0, zN, by omega, rfl, K2.out⟩
  case round =>
    obtain ⟨i, N, hi, rfl, hS⟩ := hrel
    obtain ⟨X, hX⟩ : ∃ e, wr = e := ⟨_, rfl⟩
    rw [hX] at hS ⊢
    have J : Hid (ManS w X g N k (i * 1073741824)) := hS
    have hi0 : (0 : Int) ≤ (i : Int) := by omega
    clear hS hX K2
    by_cases hit : i < 1048576
    · have hi1 : (i : Int) < 1048576 := by omega
      have e0 : addE N k 1073741824 = 0 := by
        unfold addE
        rw [if_neg (by rw [hw]; simp), J.out.v, if_neg (by omega)]
      have HI : Hid (i < 1048576 ∧ addE N k 1073741824 = 0) := ⟨hit, e0⟩
      clear hit e0
      go_wp2_with fail
      refine (add_any J.out.t J.out.n (k : Int) 1073741824).mono ?_
      rintro _ Y ⟨rfl, t, gr⟩
      rw [HI.out.2]
      have K : Hid (ManS w Y g (addN N k 1073741824) k ((i : Int) * 1073741824 + 1073741824)) := ⟨t, J.out.n.add _ _, by rw [addN_get J.out.n hw HI.out.2, J.out.v], gro J.out.b gr J.out.lo J.out.b.size, J.out.lo⟩
      clear t gr
      go_wp2
      go_roundw
      case rel => exact ⟨i + 1, _, by have := HI.out; omega, by go_num, by
        have := K.out
        rwa [show ((i + 1 : Nat) : Int) * 1073741824 = (i : Int) * 1073741824 + 1073741824 by omega]⟩
      case measure => have := HI.out; simp [intOf]; omega
    · obtain rfl : i = 1048576 := by omega
      have e1 : addE N k 1 = 3 := by
        unfold addE
        rw [if_neg (by rw [hw]; simp), J.out.v, if_pos (by omega)]
      have e2 : addN N k 1 = N := by unfold addN; rw [e1]; rfl
      have e3 : addE N k 0 = 0 := by
        unfold addE
        rw [if_neg (by rw [hw]; simp), J.out.v, if_neg (by omega)]
      have HE : Hid (addE N k 1 = 3 ∧ addN N k 1 = N ∧ addE N k 0 = 0) := ⟨e1, e2, e3⟩
      clear hit e1 e2 e3
      go_wp2_with fail
      refine (add_any J.out.t J.out.n (k : Int) 1).mono ?_
      rintro _ Y1 ⟨rfl, t1, g1⟩
      rw [HE.out.1]
      rw [HE.out.2.1] at t1
      have K1 : Hid (ManS w Y1 g N k 1125899906842624) := ⟨t1, J.out.n, by rw [J.out.v]; rfl, gro J.out.b g1 J.out.lo J.out.b.size, J.out.lo⟩
      clear t1 g1 J
      go_wp2_with fail
      refine (add_any K1.out.t K1.out.n (k : Int) 0).mono ?_
      rintro _ Y2 ⟨rfl, t2, g2⟩
      rw [HE.out.2.2]
      have K2 : Hid (ManS w Y2 g (addN N k 0) k 1125899906842624) := ⟨t2, K1.out.n.add _ _, by rw [addN_get K1.out.n hw HE.out.2.2, K1.out.v]; rfl, gro K1.out.b g2 K1.out.lo K1.out.b.size, K1.out.lo⟩
      clear t2 g2 K1
      go_wp2_with fail
      refine (get_any K2.out.t K2.out.n (k : Int)).mono ?_
      rintro _ Y3 ⟨rfl, b3⟩
      rw [K2.out.v]
      have K3 : Hid (Below w.heap.size w Y3) := below_over K2.out.b b3
      clear b3
      go_wp2
      go_ret
      exact ⟨rfl, K3.out⟩
end Go.Proofs.Ytammaaiknjgjbaa
