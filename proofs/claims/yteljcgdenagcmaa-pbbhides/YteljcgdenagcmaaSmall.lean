/-
  The walks of the statements' own cuts, of the page's frame, and of which frames are the same: for every frame.
-/
import Derived.Test.YteljcgdenagcmaaCheck
namespace Go.Proofs.Yteljcgdenagcmaa
set_option linter.unusedVariables false
set_option maxRecDepth 4000
set_option linter.unusedSimpArgs false
open Go.RowKit

attribute [local go_sem ↓] ldS23 ldS25 ldS38 stS38 nqS_eq eqS_eq eqM_eq

theorem FrAt.lv {W : World} {b : Nat} {f : Fr} {x : Value} (h : FrAt W b f x) : (loadVar 38 ⟨b, 0, none⟩).run Try.prog W = .ok (.agg (fcs f x)) W :=
  run_loadVar_row (P := Try.prog) W b 38 38 (fcs f x) (0, 0) _ h Try.underlying38 rfl (by rw [fcs_size]; exact info38)

/-- What a call answers whose one result lies in a variable. -/
theorem results_one {fn : Func} {k : Nat} (hr : fn.results = #[.cell k 38]) (tmps : Array Value) (w : World) (b : Nat) (f : Fr) (x : Value) (h2 : tmps.getD k undef = .pointer (some ⟨b, 0, none⟩)) (h : FrAt w b f x) :
    (results fn tmps).run Try.prog w = .ok (.agg (fcs f x)) w := by
  have hl := h.lv
  have h2' : tmps[k]?.getD undef = .pointer (some ⟨b, 0, none⟩) := by simpa using h2
  simp [results, hr, asAddr, hl, h2']
/-- .. whose first result lies in a variable, the other in a slot. -/
theorem results_two {fn : Func} {k j : Nat} (hr : fn.results = #[.cell k 38, .tmp j]) (tmps : Array Value) (w : World) (b : Nat) (f : Fr) (x e : Value) (h2 : tmps.getD k undef = .pointer (some ⟨b, 0, none⟩)) (h3 : tmps.getD j undef = e) (h : FrAt w b f x) :
    (results fn tmps).run Try.prog w = .ok (.tuple #[.agg (fcs f x), e]) w := by
  have hl := h.lv
  have h2' : tmps[k]?.getD undef = .pointer (some ⟨b, 0, none⟩) := by simpa using h2
  have h3' : tmps[j]?.getD undef = e := by simpa using h3
  simp [results, hr, asAddr, hl, h2', h3']

theorem fcs_set16 (f : Fr) (x y : Value) : (fcs f x).setIfInBounds 16 y = fcs f y := rfl
theorem fcs_set12 (f : Fr) (x : Value) (t : Bool) : (fcs f x).setIfInBounds 12 (.bool t) = fcs ⟨f.d, f.s, t, f.p, f.e, f.v⟩ x := rfl
theorem fcs_set15 (f : Fr) (x : Value) (v : Int) : (fcs f x).setIfInBounds 15 (.int .i64 v) = fcs ⟨f.d, f.s, f.t, f.p, f.e, v⟩ x := rfl
attribute [local go_sem] fcs_set16

/-- The rest of a frame, stored. -/
theorem FrAt.rest {W : World} {b : Nat} {f : Fr} {x : Value} (h : FrAt W b f x) (y : Value) : FrAt (W.setCell ⟨b, 16, none⟩ y) b f y := by
  unfold FrAt at *
  rw [heap_setCell_same W b 16 (fcs f x) 38 y h]
  rfl
theorem FrAt.tags {W : World} {b : Nat} {f : Fr} {x : Value} (h : FrAt W b f x) (p : Int) (e : Bool) (v : Int) : FrAt (((W.setCell ⟨b, 13, none⟩ (.int .i64 p)).setCell ⟨b, 14, none⟩ (.bool e)).setCell ⟨b, 15, none⟩ (.int .i64 v)) b ⟨f.d, f.s, f.t, p, e, v⟩ x := by
  unfold FrAt at *
  rw [heap_setCell_same _ b 15 _ 38 _ (heap_setCell_same _ b 14 _ 38 _ (heap_setCell_same W b 13 (fcs f x) 38 _ h))]
  rfl
theorem FrAt.vid {W : World} {b : Nat} {f : Fr} {x : Value} (h : FrAt W b f x) (v : Int) : FrAt (W.setCell ⟨b, 15, none⟩ (.int .i64 v)) b ⟨f.d, f.s, f.t, f.p, f.e, v⟩ x := by
  unfold FrAt at *
  rw [heap_setCell_same _ b 15 _ 38 _ h]
  rfl
theorem FrAt.flag {W : World} {b : Nat} {f : Fr} {x : Value} (h : FrAt W b f x) (t : Bool) : FrAt (W.setCell ⟨b, 12, none⟩ (.bool t)) b ⟨f.d, f.s, t, f.p, f.e, f.v⟩ x := by
  unfold FrAt at *
  rw [heap_setCell_same _ b 12 _ 38 _ h]
  rfl
theorem FrAt.apart {W : World} {b : Nat} {f : Fr} {x : Value} (h : FrAt W b f x) {a : Addr} (ha : b ≠ a.block) (y : Value) : FrAt (W.setCell a y) b f x := (heap_setCell_other W a b y ha).trans h

theorem zero_new (W : World) : FrAt (W.alloc (.cells #[.int .u8 0, .int .u8 0, .int .u8 0, .int .u8 0, .int .u8 0, .int .u8 0, .int .u8 0, .int .u8 0, .int .u8 0, .int .u8 0, .int .u8 0, .int .u8 0, .bool false, .int .i64 0, .bool false, .int .i64 0, .slice none 0 0] 38)) W.heap.size zeroF (.slice none 0 0) := FrAt.new W zeroF _

/-- The page's frame. -/
def plainF : Fr := ⟨⟨255, 255, 255, 255, 255, 255⟩, ⟨2, 0, 0, 0, 0, 1⟩, true, 3, false, 100⟩

theorem FrAt.stv {W : World} {b : Nat} {f g : Fr} {x y : Value} (h : FrAt W b f x) (hy : y.oneCell' = true) (v : Value) (hv : v = .agg (fcs g y)) : (stS 38 (.pointer (some ⟨b, 0, none⟩)) v).run Try.prog W = .ok () (W.setRow b (fcs g y)) := by
  subst hv
  exact h.st hy

/-- Are bytes the same? -/
def beqL (l m : List Int) : Bool := (bs l).toList == (bs m).toList
theorem beqL_self (l : List Int) : beqL l l = true := by simp [beqL]

theorem equal_any (x y : Value) (l m : List Int) (w : World) (hx : Src w x l) (hy : Src w y m) :
    Calls Try.prog 46 #[x, y] w fun r w' => r = .returned (.bool (beqL l m)) ∧ w' = w := by
  have q1 := hx.string
  have q2 := hy.string
  clear hx hy
  go_enter Try.func46, Try.ntmps46
  go_wp2
  go_ret
  exact ⟨rfl, rfl⟩
end Go.Proofs.Yteljcgdenagcmaa
