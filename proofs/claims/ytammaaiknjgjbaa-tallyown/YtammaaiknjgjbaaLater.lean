/-
  Regions whose order is open and whose calls only make new memory: one walk serves every order. Plain laws, no program.
-/
import Derived.Handy
import Derived.Deep.QuietTactic
import Derived.BigQuiet
namespace Go.Proofs.Ytammaaiknjgjbaa
set_option linter.unusedVariables false
set_option maxRecDepth 4000
set_option linter.unusedSimpArgs false
open Go.RowKit

/-- A world that is as W was in all that W had. -/
structure Later (W : World) where
  val : World
  below : Below W.heap.size W val
theorem Later.cell {W : World} (x : Later W) (b o : Nat) (h : b < W.heap.size) : x.val.cell? ⟨b, o, none⟩ = W.cell? ⟨b, o, none⟩ := x.below.cell (p := ⟨b, o, none⟩) h
theorem Later.frozen {W : World} (x : Later W) (b o : Nat) (h : b < W.heap.size) : x.val.frozen? ⟨b, o, none⟩ = W.frozen? ⟨b, o, none⟩ := x.below.frozen (p := ⟨b, o, none⟩) h
theorem wp_region_later {P : Program} {id : Nat} {Q : Exit → Act → World → Prop} {a : Act} {w : World} {l : List Oper} (hm : P.follows .mixedOrders = true) (hB : Region.lexB .any l.toArray = true)
    (h : wpQuiet P l.toArray (fun w' => ∃ x : Later w, w' = x.val) (fun a' => ∀ w', (∃ x : Later w, w' = x.val) → Q .normal a' w') l a) : (Code.region id l.toArray true).wp P Q a w :=
  wp_region_quiet (C := fun w' => ∃ x : Later w, w' = x.val) hm hB ⟨Later.mk _ (Below.refl _ w).drew, rfl⟩ (by simpa using h)
/-- A callee's contract, met in such a world. -/
theorem Calls.later_of {P : Program} {f : FuncId} {args : Array Value} {W : World} {x : Later W} {v : Value}
    (h : Calls P f args x.val fun e w' => e = .returned v ∧ Below x.val.heap.size x.val w') : Calls P f args x.val fun e w'' => e = .returned v ∧ ∃ y : Later W, w'' = y.val :=
  h.mono fun _ w' ⟨he, hb⟩ => ⟨he, Later.mk w' (x.below.trans (hb.mono x.below.size)), rfl⟩
/-- A contract, met where the walk stands: behind it the world is a later one. -/
theorem Calls.on_later {P : Program} {f : FuncId} {args : Array Value} {W : World} {v : Value} {K : Ending → World → Prop}
    (h : Calls P f args W fun e w' => e = .returned v ∧ Below W.heap.size W w') (k : ∀ x : Later W, K (.returned v) x.val) : Calls P f args W K :=
  h.mono fun _ w' ⟨he, hb⟩ => by subst he; exact k (Later.mk w' hb)
/-- .. met in a later world: behind it the world is a later one of the same. -/
theorem Calls.on_later2 {P : Program} {f : FuncId} {args : Array Value} {W : World} {y : Later W} {v : Value} {K : Ending → World → Prop}
    (h : Calls P f args y.val fun e w' => e = .returned v ∧ Below y.val.heap.size y.val w') (k : ∀ x : Later W, K (.returned v) x.val) : Calls P f args y.val K :=
  h.mono fun _ w' ⟨he, hb⟩ => by subst he; exact k (Later.mk w' (y.below.trans (hb.mono y.below.size)))
theorem below_over {w W w' : World} (h : Below w.heap.size w W) (k : Below W.heap.size W w') : Below w.heap.size w w' := h.trans (k.mono h.size)
theorem below_later {w W : World} (h : Below w.heap.size w W) (x : Later W) : Below w.heap.size w x.val := below_over h x.below
end Go.Proofs.Ytammaaiknjgjbaa
