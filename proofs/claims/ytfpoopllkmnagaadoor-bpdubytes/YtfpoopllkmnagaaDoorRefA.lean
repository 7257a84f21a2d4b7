/-
  Slices that grow beside each other. Plain laws.
-/
import Derived.Test.YtfpoopllkmnagaaDoorRefPut
namespace Go.Proofs.YtfpoopllkmnagaaDoor
set_option linter.unusedVariables false
set_option maxRecDepth 4000
set_option linter.unusedSimpArgs false
open Go.RowKit

/-- The message's variable, and what was there. -/
structure QSt (w W : World) (m : Bp) : Prop where
  pv : PvAt W w.heap.size m
  below : Below w.heap.size w W
theorem QSt.later {w W W' : World} {m : Bp} (h : QSt w W m) (k : Below W.heap.size W W') : QSt w W' m := ⟨h.pv.below k, below_over h.below k⟩
/-- .. where what lies behind the message's variable may change. -/
theorem QSt.own {w W W' : World} {m : Bp} (h : QSt w W m) (k : Below (w.heap.size + 1) W W') : QSt w W' m := ⟨(k.block _ (by omega)).trans h.pv, h.below.trans (k.mono (by omega))⟩
theorem QSt.alloc {w W : World} {m : Bp} (h : QSt w W m) (o : Obj) : QSt w (W.alloc o) m := h.later ((Below.refl _ _).alloc (Nat.le_refl _) _)
theorem QSt.sz {w W : World} {m : Bp} (h : QSt w W m) : w.heap.size + 1 ≤ W.heap.size := h.pv.lt
theorem own_alloc {W : World} {B : Nat} {v : Value} {l : List Int} (h : Own W B v l) (o : Obj) : Own (W.alloc o) B v l := h.below ((Below.refl _ _).alloc (Nat.le_refl _) _)
theorem src_alloc {W : World} {v : Value} {l : List Int} (h : Src W v l) (o : Obj) : Src (W.alloc o) v l := h.below ((Below.refl _ _).alloc (Nat.le_refl _) _)
/-- A new row's bytes stay where another slice grows. -/
theorem src_grown {W W' : World} {B : Nat} {u : Value} {m : List Int} {cs : Array Value} {k n : Nat} {l : List Int} (h : W.heap[k]? = some (.cells cs 5 (0, 0))) (hs : Src W (.slice (some ⟨k, 0, none⟩) n n) l) (hu : Own W B u m) (g : W.grownBy W' u.ownBlock) (hne : ∀ i, u.ownBlock = some i → i ≠ k) : Src W' (.slice (some ⟨k, 0, none⟩) n n) l := by
  have hb : W'.heap[k]? = W.heap[k]? := g.block k (lt_of_block h) (fun e => hne k e.symm rfl)
  obtain ⟨a, c, e, h2, h3, h4, h5⟩ := hs
  cases e
  refine ⟨_, _, rfl, h2, h3, h4, fun ad e j hj => ?_⟩
  cases e
  have := h5 _ rfl j hj
  rw [Addr.add_lit] at this ⊢
  exact (World.cell?_of_block (w := W) hb).trans this
end Go.Proofs.YtfpoopllkmnagaaDoor
