/-
  Variables of structs and arrays: loaded and stored whole; what stays. Plain laws over the program's types.
-/
import Derived.Test.YtammaaiknjgjbaaRows
import Derived.Test.YtammaaiknjgjbaaLater
import Derived.WalkSpells
import Derived.WalkLawsBesides
import Derived.OneCell
import Derived.OwnWalk
import Derived.Laws.Rows
import Derived.Deep.MidRow
import Derived.Laws.Tables
import Derived.Laws.CopyRow
import Derived.Laws.CopyOwn
import Derived.Deep.RegionHeld3
namespace Go.Proofs.Ytammaaiknjgjbaa
set_option linter.unusedVariables false
set_option maxRecDepth 4000
set_option linter.unusedSimpArgs false
open Go.RowKit

theorem alloc_at (w : World) (o : Obj) : (w.alloc o).heap[w.heap.size]? = some o := by
  show (w.heap.push o)[w.heap.size]? = _
  simp
theorem cell_new (w : World) (v : Value) (t : TypeId) : (w.alloc (.cells #[v] t)).cell? ⟨w.heap.size, 0, none⟩ = some v := cell_of_one (t := t) (alloc_at w _)
theorem ret_int {k : IntKind} {a b : Int} (h : a = b) : Ending.returned (.int k a) = .returned (.int k b) := by rw [h]
theorem ret_bool {a b : Bool} (h : a = b) : Ending.returned (.bool a) = .returned (.bool b) := by rw [h]
theorem below_dn {B : Nat} {a w : World} (h : Below B a w) (n : Nat) : Below B a (w.drewN n) := ⟨h.os, h.tape, h.output, h.size, h.block⟩
theorem cell_at {w : World} {b : Nat} {cs : Array Value} {t : TypeId} (h : w.heap[b]? = some (.cells cs t (0, 0))) (k : Nat) (v : Value) (hk : cs[k]? = some v) : w.cell? ⟨b, k, none⟩ = some v := by simp [World.cell?, h, hk]
/-- A value of many cells, loaded. -/
def ldS (t : TypeId) (x : Value) : Sem Value := Instr.loadAt t x
/-- .. stored. -/
def stS (t : TypeId) (x y : Value) : Sem Unit := Instr.storeAt t x y
/-- A row of cells, stored into a row. -/
theorem store_cells {ty : TypeId} {W : World} {b o t : Nat} {cur cs : Array Value} (h : W.heap[b]? = some (.cells cur t (0, 0))) (hi : (Try.prog.info? ty).map (·.size) = some cs.size) (hl : o + cs.size ≤ cur.size) (h1 : ∀ v ∈ cs.toList, v.oneCell' = true) :
    (stS ty (.pointer (some ⟨b, o, none⟩)) (.agg cs)).run Try.prog W = .ok () (W.setRow b (cur.toList.take o ++ cs.toList ++ cur.toList.drop (o + cs.size)).toArray) := by
  have hs := run_storeCells_at Try.prog b o t cs.toList 0 cur W h (by simpa using hl) h1
  have hi' : ∃ i, Try.prog.info? ty = some i ∧ i.size = cs.size := by
    cases hq : Try.prog.info? ty with
    | none => rw [hq] at hi; cases hi
    | some i => rw [hq] at hi; exact ⟨i, rfl, by simpa using hi⟩
  obtain ⟨i, hi1, hi2⟩ := hi'
  simp only [Nat.add_zero, Array.length_toList] at hs
  unfold stS
  simp [Instr.storeAt, Instr.sureAddr, storeVar, sizeOf, typeInfo, hi1, hi2, Value.cells, hs]
/-- A type whose values are rows of n cells. -/
structure RowTy (ty n : Nat) : Prop where
  info : (Try.prog.info? ty).map (·.size) = some n
  und : ∃ d, Try.prog.underlying ty = some d ∧ d.isRow = true
/-- Block b is the variable of such a value. -/
def RvAt (W : World) (b : Nat) (ty : TypeId) (cs : Array Value) : Prop := W.heap[b]? = some (.cells cs ty (0, 0))
theorem RvAt.lt {W : World} {b : Nat} {ty : TypeId} {cs : Array Value} (h : RvAt W b ty cs) : b < W.heap.size := lt_of_block h
theorem RvAt.below {W W' : World} {b : Nat} {ty : TypeId} {cs : Array Value} (h : RvAt W b ty cs) (hb : Below W.heap.size W W') : RvAt W' b ty cs := (hb.block b h.lt).trans h
theorem RvAt.new (W : World) (ty : TypeId) (cs : Array Value) : RvAt (W.alloc (.cells cs ty)) W.heap.size ty cs := alloc_at W _
theorem RvAt.cell {W : World} {b : Nat} {ty : TypeId} {cs : Array Value} (h : RvAt W b ty cs) (k : Nat) (v : Value) (hk : cs[k]? = some v) : W.cell? ⟨b, k, none⟩ = some v := cell_at h k v hk
theorem RvAt.lv {W : World} {b n : Nat} {ty : TypeId} {cs : Array Value} (t : RowTy ty n) (h : RvAt W b ty cs) (hn : cs.size = n) : (loadVar ty ⟨b, 0, none⟩).run Try.prog W = .ok (.agg cs) W := by
  obtain ⟨d, hd, hr⟩ := t.und
  cases d <;> first | exact run_loadVar_row (P := Try.prog) W b ty ty cs (0, 0) _ h hd rfl (by rw [hn]; exact t.info) | (cases hr; done)
theorem RvAt.ld {W : World} {b n : Nat} {ty : TypeId} {cs : Array Value} (t : RowTy ty n) (h : RvAt W b ty cs) (hn : cs.size = n) : (ldS ty (.pointer (some ⟨b, 0, none⟩))).run Try.prog W = .ok (.agg cs) W := by
  have := h.lv t hn
  unfold ldS
  simp only [Instr.loadAt, Instr.sureAddr, Sem.run_bind, Sem.run_pure, Result.andThen_ok, this]
theorem RvAt.st {W : World} {b n : Nat} {ty : TypeId} {cs ds : Array Value} (t : RowTy ty n) (h : RvAt W b ty cs) (hn : cs.size = n) (hd : ds.size = n) (h1 : ∀ v ∈ ds.toList, v.oneCell' = true) :
    (stS ty (.pointer (some ⟨b, 0, none⟩)) (.agg ds)).run Try.prog W = .ok () (W.setRow b ds) := by
  have := store_cells (ty := ty) (o := 0) (cs := ds) h (by rw [hd]; exact t.info) (by omega) h1
  rw [this]
  have e : cs.toList.drop (0 + ds.size) = [] := List.drop_eq_nil_of_le (by simp; omega)
  rw [e]
  simp
theorem RvAt.set {W : World} {b : Nat} {ty : TypeId} {cs ds : Array Value} (h : RvAt W b ty cs) : RvAt (W.setRow b ds) b ty ds := setRow_heap W b cs ds ty (0, 0) h
theorem row_new {ty : TypeId} {n : Nat} (t : RowTy ty n) (W : World) (z cs : Array Value) (hz : z.size = n) (hn : cs.size = n) (h1 : ∀ v ∈ cs.toList, v.oneCell' = true) :
    ∃ W', (stS ty (.pointer (some ⟨W.heap.size, 0, none⟩)) (.agg cs)).run Try.prog (W.alloc (.cells z ty)) = .ok () W' ∧ RvAt W' W.heap.size ty cs ∧ Below W.heap.size W W' ∧ W'.heap.size = W.heap.size + 1 :=
  have h : RvAt (W.alloc (.cells z ty)) W.heap.size ty z := alloc_at W _
  ⟨_, h.st t hz hn h1, h.set, below_setRow ((Below.refl _ _).alloc (Nat.le_refl _) _) (Nat.le_refl _) _, by simp⟩
theorem results_row {fn : Func} {k n : Nat} {ty : TypeId} (t : RowTy ty n) (hr : fn.results = #[.cell k ty]) (tmps : Array Value) (w : World) (b : Nat) (cs : Array Value) (h2 : tmps.getD k undef = .pointer (some ⟨b, 0, none⟩)) (h : RvAt w b ty cs) (hn : cs.size = n) :
    (results fn tmps).run Try.prog w = .ok (.agg cs) w := by
  have hl := h.lv t hn
  have h2' : tmps[k]?.getD undef = .pointer (some ⟨b, 0, none⟩) := by simpa using h2
  simp [results, hr, asAddr, hl, h2']
end Go.Proofs.Ytammaaiknjgjbaa
