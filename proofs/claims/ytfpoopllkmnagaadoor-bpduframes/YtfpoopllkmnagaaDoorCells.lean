/-
  Rows of bytes: a row that the call itself made; what stays of it. Plain laws.
-/
import Derived.Test.YtfpoopllkmnagaaDoorRows
import Derived.Test.YtfpoopllkmnagaaDoorLater
import Derived.WalkSpells
import Derived.WalkLawsBesides
import Derived.OneCell
import Derived.OwnWalk
import Derived.Laws.Rows
import Derived.Laws.AppendOwn
import Derived.Laws.AppendOwnNone
namespace Go.Proofs.YtfpoopllkmnagaaDoor
set_option linter.unusedVariables false
set_option maxRecDepth 4000
set_option linter.unusedSimpArgs false
open Go.RowKit

/-- Block b is a row of cp bytes, byte j is f j. -/
def RowAt (w : World) (b cp : Nat) (f : Nat → Int) : Prop :=
  ∃ cur : Array Value, w.heap[b]? = some (.cells cur 5 (0, 0)) ∧ cur.size = cp ∧ ∀ j, j < cp → cur[j]? = some (.int .u8 (f j))
theorem RowAt.lt {w : World} {b cp : Nat} {f : Nat → Int} (h : RowAt w b cp f) : b < w.heap.size := by
  obtain ⟨cur, h1, _⟩ := h
  exact lt_of_block h1
theorem RowAt.cell {w : World} {b cp : Nat} {f : Nat → Int} (h : RowAt w b cp f) (j : Nat) (hj : j < cp) : w.cell? ⟨b, j, none⟩ = some (.int .u8 (f j)) := by
  obtain ⟨cur, h1, h2, h3⟩ := h
  simp [World.cell?, h1, h3 j hj]
theorem RowAt.live {w : World} {b cp : Nat} {f : Nat → Int} (h : RowAt w b cp f) (j : Nat) : w.frozen? ⟨b, j, none⟩ = false := by
  obtain ⟨cur, h1, h2, h3⟩ := h
  simp [World.frozen?, h1]
theorem RowAt.of_block {w w' : World} {b cp : Nat} {f : Nat → Int} (h : RowAt w b cp f) (e : w'.heap[b]? = w.heap[b]?) : RowAt w' b cp f := by
  obtain ⟨cur, h1, h2⟩ := h
  exact ⟨cur, e.trans h1, h2⟩
theorem RowAt.congr {w : World} {b cp : Nat} {f g : Nat → Int} (h : RowAt w b cp f) (e : ∀ j, j < cp → f j = g j) : RowAt w b cp g := by
  obtain ⟨cur, h1, h2, h3⟩ := h
  exact ⟨cur, h1, h2, fun j hj => by rw [← e j hj]; exact h3 j hj⟩
theorem RowAt.set {w : World} {b cp : Nat} {f : Nat → Int} (h : RowAt w b cp f) (j : Nat) (hj : j < cp) (v : Int) :
    RowAt (w.setCell ⟨b, j, none⟩ (.int .u8 v)) b cp (fun i => if i = j then v else f i) := by
  obtain ⟨cur, h1, h2, h3⟩ := h
  refine ⟨_, heap_setCell_same w b j cur 5 (.int .u8 v) h1, by simp [h2], ?_⟩
  intro i hi
  by_cases e : i = j
  · subst e
    simp [h2, hi]
  · have e' : j ≠ i := fun h => e h.symm
    simp [e, e', h3 i hi]
theorem RowAt.other {w : World} {b cp : Nat} {f : Nat → Int} (h : RowAt w b cp f) {a : Addr} (ha : b ≠ a.block) (v : Value) : RowAt (w.setCell a v) b cp f :=
  h.of_block (heap_setCell_other w a b v ha)
end Go.Proofs.YtfpoopllkmnagaaDoor
