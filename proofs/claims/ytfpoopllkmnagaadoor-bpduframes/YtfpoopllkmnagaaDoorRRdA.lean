/-
  The walk of what bytes tell by definition: too few.
-/
import Derived.Test.YtfpoopllkmnagaaDoorRefR
namespace Go.Proofs.YtfpoopllkmnagaaDoor
set_option linter.unusedVariables false
set_option maxRecDepth 4000
set_option linter.unusedSimpArgs false
open Go.RowKit

attribute [local go_sem ↓] ldS32 ldS49 ldS28 ldS30 ldS83 stS32 stS49 stS28 stS30 eqP_eq nqP_eq eqM_eq nqM_eq nqV_eq nqT_eq slS_eq


theorem roleOf_r (z : Int) (n : Nat) (hz : z = (n : Int)) (w : World) (h : n < 4) :
    Calls Tryd.prog 33 #[.int .i64 z] w fun r w' => r = .returned (.int .i64 (roOf n)) ∧ w' = w := by
  subst hz
  exact roleOf_ref n w h
/-- In the midst of reading by definition: the answer's variable, the message's. -/
structure RQ (w W : World) (mB : Nat) (m : Bp) : Prop where
  z : PvAt W w.heap.size zeroP
  pv : PvAt W mB m
  below : Below w.heap.size w W
  lt : w.heap.size < mB
theorem RQ.later {w W W' : World} {mB : Nat} {m : Bp} (h : RQ w W mB m) (k : Below W.heap.size W W') : RQ w W' mB m := ⟨h.z.below k, h.pv.below k, below_over h.below k, h.lt⟩
theorem RQ.set {w W : World} {mB : Nat} {m : Bp} (h : RQ w W mB m) (n : Bp) : RQ w (W.setRow mB n.cs) mB n := ⟨(setRow_other _ _ _ _ (by have := h.lt; omega)).trans h.z, h.pv.set, below_setRow h.below (by have := h.lt; omega) _, h.lt⟩
theorem RQ.drew {w W : World} {mB : Nat} {m : Bp} (h : RQ w W mB m) : RQ w W.drew mB m := ⟨h.z, h.pv, h.below.drew, h.lt⟩
theorem src_cell {w : World} {b o n c : Nat} {l : List Int} (h : Src w (.slice (some ⟨b, o, none⟩) n c) l) (k : Nat) (hk : k < l.length) (hb : ∀ x ∈ l, 0 ≤ x ∧ x ≤ 255) : w.cell? ⟨b, o + k, none⟩ = some (.int .u8 (gn l k : Nat)) := by
  obtain ⟨b', o', e, _, hj⟩ := src_some h (by omega)
  cases e
  rw [hj k hk, ← (gn_eq hb k).1]
  rfl

theorem rr_short (a : Option Addr) (n c : Nat) (l : List Int) (w : World) (h : Src w (.slice a n c) l) (h4 : l.length < 4) :
    Calls Tryd.prog 13 #[.slice a n c] w fun r w' => ∃ m e, r = .returned (.tuple #[.agg (Bp.cs m), .int .i64 e]) ∧ RdOut l m e ∧ Below w.heap.size w w' := by
  obtain ⟨hn, _, _⟩ := src_short h
  have hn4 : (n : Int) < 4 := by omega
  have H4 : Hid (l.length < 4) := h4
  have hz : PvAt (w.alloc (.cells #[.int .i64 0, .bool false, .bool false, .bool false, .bool false, .bool false, .bool false, .int .i64 0, .int .u64 0, .int .u32 0, .int .u64 0, .int .u16 0, .int .u8 0, .int .u8 0, .int .u8 0, .int .u8 0] 32)) w.heap.size zeroP := alloc_at w _
  have hB : Below w.heap.size w (w.alloc (.cells #[.int .i64 0, .bool false, .bool false, .bool false, .bool false, .bool false, .bool false, .int .i64 0, .int .u64 0, .int .u32 0, .int .u64 0, .int .u16 0, .int .u8 0, .int .u8 0, .int .u8 0, .int .u8 0] 32)) := (Below.refl _ _).alloc (Nat.le_refl _) _
  obtain ⟨W0, hW0⟩ : ∃ W, w.alloc (.cells #[.int .i64 0, .bool false, .bool false, .bool false, .bool false, .bool false, .bool false, .int .i64 0, .int .u64 0, .int .u32 0, .int .u64 0, .int .u16 0, .int .u8 0, .int .u8 0, .int .u8 0, .int .u8 0] 32) = W := ⟨_, rfl⟩
  rw [hW0] at hz hB
  have st := hz.stk 0
  have HZ : Hid (PvAt (W0.setRow w.heap.size zeroP.cs) w.heap.size zeroP ∧ Below w.heap.size w (W0.setRow w.heap.size zeroP.cs)) := ⟨hz.set, below_setRow hB (Nat.le_refl _) _⟩
  clear h hn h4 hz hB
  go_enter Tryd.func13, Tryd.ntmps13
  go_wp2_with fail
  try rw [hW0]
  go_wp2
  refine bodyPost_ret (results_row2 rt32 Tryd.results13 _ _ _ _ _ rfl rfl HZ.out.1 rfl) rfl ?_
  exact ⟨zeroP, 6, rfl, rd_short H4.out, HZ.out.2⟩
end Go.Proofs.YtfpoopllkmnagaaDoor
