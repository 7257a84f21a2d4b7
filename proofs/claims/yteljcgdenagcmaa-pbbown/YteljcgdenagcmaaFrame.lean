/-
  Frames in memory: as values, in a variable, loaded and stored whole and by parts. Plain laws over the program's types.
-/
import Derived.Test.YteljcgdenagcmaaKind
import Derived.Test.YteljcgdenagcmaaWhole
import Derived.Test.YteljcgdenagcmaaPTypeAny
import Derived.Test.YteljcgdenagcmaaSame
import Derived.Deep.MidRow
import Derived.Laws.CopyRow
import Derived.Laws.Tables
import Derived.Laws.CopyOwn
namespace Go.Proofs.Yteljcgdenagcmaa
set_option linter.unusedVariables false
set_option linter.unusedSimpArgs false
open Go.RowKit

/-- An address of a station. -/
structure M6 where
  a : Int
  b : Int
  c : Int
  d : Int
  e : Int
  f : Int
/-- .. as a value. -/
def M6.v (m : M6) : Value := .agg #[.int .u8 m.a, .int .u8 m.b, .int .u8 m.c, .int .u8 m.d, .int .u8 m.e, .int .u8 m.f]
def M6.l (m : M6) : List Int := [m.a, m.b, m.c, m.d, m.e, m.f]
/-- Its class. -/
def M6.kd (m : M6) : Int := kindOf m.a m.b m.c m.d m.e m.f
/-- Is it bytes? -/
def M6.ok (m : M6) : Prop := ∀ x ∈ m.l, 0 ≤ x ∧ x ≤ 255

/-- A frame, but for its rest. -/
structure Fr where
  d : M6
  s : M6
  t : Bool
  p : Int
  e : Bool
  v : Int
/-- Its tag. -/
def Fr.tag (f : Fr) : Value := .agg #[.int .i64 f.p, .bool f.e, .int .i64 f.v]
def Fr.ok (f : Fr) : Prop := f.d.ok ∧ f.s.ok

/-- A frame's cells; x: its rest. -/
def fcs (f : Fr) (x : Value) : Array Value :=
  #[.int .u8 f.d.a, .int .u8 f.d.b, .int .u8 f.d.c, .int .u8 f.d.d, .int .u8 f.d.e, .int .u8 f.d.f, .int .u8 f.s.a, .int .u8 f.s.b, .int .u8 f.s.c, .int .u8 f.s.d, .int .u8 f.s.e, .int .u8 f.s.f, .bool f.t, .int .i64 f.p, .bool f.e, .int .i64 f.v, x]
theorem fcs_size (f : Fr) (x : Value) : (fcs f x).size = 17 := rfl

/-- Block b is a frame's variable. -/
def FrAt (W : World) (b : Nat) (f : Fr) (x : Value) : Prop := W.heap[b]? = some (.cells (fcs f x) 38 (0, 0))

theorem FrAt.lt {W : World} {b : Nat} {f : Fr} {x : Value} (h : FrAt W b f x) : b < W.heap.size := lt_of_block h
theorem FrAt.below {W W' : World} {b : Nat} {f : Fr} {x : Value} (h : FrAt W b f x) (hb : Below W.heap.size W W') : FrAt W' b f x := (hb.block b h.lt).trans h
theorem FrAt.new (w : World) (f : Fr) (x : Value) : FrAt (w.alloc (.cells (fcs f x) 38)) w.heap.size f x := alloc_at w _
theorem FrAt.of_block {W W' : World} {b : Nat} {f : Fr} {x : Value} (h : FrAt W b f x) (e : W'.heap[b]? = W.heap[b]?) : FrAt W' b f x := e.trans h

/-- A value of many cells, loaded. -/
def ldS (t : TypeId) (x : Value) : Sem Value := Instr.loadAt t x
theorem ldS23 (x : Value) : Instr.loadAt 23 x = ldS 23 x := rfl
theorem ldS25 (x : Value) : Instr.loadAt 25 x = ldS 25 x := rfl
theorem ldS38 (x : Value) : Instr.loadAt 38 x = ldS 38 x := rfl
/-- A whole frame, stored. -/
def stS (t : TypeId) (x y : Value) : Sem Unit := Instr.storeAt t x y
theorem stS38 (x y : Value) : Instr.storeAt 38 x y = stS 38 x y := rfl
theorem stS25 (x y : Value) : Instr.storeAt 25 x y = stS 25 x y := rfl

theorem info38 : (Try.prog.info? 38).map (·.size) = some 17 := by kernel_rfl
theorem info25 : (Try.prog.info? 25).map (·.size) = some 3 := by kernel_rfl
theorem info23 : (Try.prog.info? 23).map (·.size) = some 6 := by kernel_rfl

theorem FrAt.ld {W : World} {b : Nat} {f : Fr} {x : Value} (h : FrAt W b f x) : (ldS 38 (.pointer (some ⟨b, 0, none⟩))).run Try.prog W = .ok (.agg (fcs f x)) W := by
  unfold ldS
  have := run_loadVar_row (P := Try.prog) W b 38 38 (fcs f x) (0, 0) _ h Try.underlying38 rfl (by rw [fcs_size]; exact info38)
  simp only [Instr.loadAt, Instr.sureAddr, Sem.run_bind, Sem.run_pure, Result.andThen_ok, this]
theorem FrAt.ldd {W : World} {b : Nat} {f : Fr} {x : Value} (h : FrAt W b f x) : (ldS 23 (.pointer (some ⟨b, 0, none⟩))).run Try.prog W = .ok f.d.v W := by
  have hr := World.rangeAt_of_block h 0 6
  exact run_loadAt_mid W b 0 23 _ _ hr Try.underlying23 rfl info23
theorem FrAt.lds {W : World} {b : Nat} {f : Fr} {x : Value} (h : FrAt W b f x) : (ldS 23 (.pointer (some ⟨b, 6, none⟩))).run Try.prog W = .ok f.s.v W := by
  have hr := World.rangeAt_of_block h 6 6
  exact run_loadAt_mid W b 6 23 _ _ hr Try.underlying23 rfl info23
theorem FrAt.ldt {W : World} {b : Nat} {f : Fr} {x : Value} (h : FrAt W b f x) : (ldS 25 (.pointer (some ⟨b, 13, none⟩))).run Try.prog W = .ok f.tag W := by
  have hr := World.rangeAt_of_block h 13 3
  exact run_loadAt_mid W b 13 25 _ _ hr Try.underlying25 rfl info25
theorem FrAt.c {W : World} {b : Nat} {f : Fr} {x : Value} (h : FrAt W b f x) (k : Nat) (v : Value) (hk : (fcs f x)[k]? = some v) : W.cell? ⟨b, k, none⟩ = some v := by
  unfold FrAt at h
  simp [World.cell?, h, hk]
theorem FrAt.c12 {W : World} {b : Nat} {f : Fr} {x : Value} (h : FrAt W b f x) : W.cell? ⟨b, 12, none⟩ = some (.bool f.t) := h.c 12 _ rfl
theorem FrAt.c13 {W : World} {b : Nat} {f : Fr} {x : Value} (h : FrAt W b f x) : W.cell? ⟨b, 13, none⟩ = some (.int .i64 f.p) := h.c 13 _ rfl
theorem FrAt.c14 {W : World} {b : Nat} {f : Fr} {x : Value} (h : FrAt W b f x) : W.cell? ⟨b, 14, none⟩ = some (.bool f.e) := h.c 14 _ rfl
theorem FrAt.c15 {W : World} {b : Nat} {f : Fr} {x : Value} (h : FrAt W b f x) : W.cell? ⟨b, 15, none⟩ = some (.int .i64 f.v) := h.c 15 _ rfl
theorem FrAt.c16 {W : World} {b : Nat} {f : Fr} {x : Value} (h : FrAt W b f x) : W.cell? ⟨b, 16, none⟩ = some x := h.c 16 _ rfl
theorem FrAt.live {W : World} {b : Nat} {f : Fr} {x : Value} (h : FrAt W b f x) (o : Nat) : W.frozen? ⟨b, o, none⟩ = false := by
  unfold FrAt at h
  simp [World.frozen?, h]

theorem fcs_one (g : Fr) (y : Value) (hy : y.oneCell' = true) : ∀ v ∈ (fcs g y).toList, v.oneCell' = true := by
  intro v hv
  simp only [fcs, List.mem_cons, List.not_mem_nil, or_false] at hv
  rcases hv with rfl | rfl | rfl | rfl | rfl | rfl | rfl | rfl | rfl | rfl | rfl | rfl | rfl | rfl | rfl | rfl | rfl
  all_goals first | exact hy | rfl

theorem FrAt.st {W : World} {b : Nat} {f g : Fr} {x y : Value} (h : FrAt W b f x) (hy : y.oneCell' = true) : (stS 38 (.pointer (some ⟨b, 0, none⟩)) (.agg (fcs g y))).run Try.prog W = .ok () (W.setRow b (fcs g y)) := by
  have hs := run_storeCells_at Try.prog b 0 38 (fcs g y).toList 0 (fcs f x) W h (by simp [fcs]) (fcs_one g y hy)
  have hi : ∃ i, Try.prog.info? 38 = some i ∧ i.size = 17 := by
    have := info38
    cases hq : Try.prog.info? 38 with
    | none => rw [hq] at this; cases this
    | some i => rw [hq] at this; exact ⟨i, rfl, by simpa using this⟩
  obtain ⟨i, hi1, hi2⟩ := hi
  have e : ((fcs f x).toList.take (0 + 0) ++ (fcs g y).toList ++ (fcs f x).toList.drop (0 + 0 + (fcs g y).toList.length)).toArray = fcs g y := by
    have : (fcs f x).toList.drop (0 + 0 + (fcs g y).toList.length) = [] := List.drop_eq_nil_of_le (by simp [fcs])
    rw [this]
    simp
  rw [e] at hs
  unfold stS
  simp [Instr.storeAt, Instr.sureAddr, storeVar, sizeOf, typeInfo, hi1, hi2, Value.cells, fcs_size, hs]
theorem FrAt.set {W : World} {b : Nat} {f g : Fr} {x y : Value} (h : FrAt W b f x) : FrAt (W.setRow b (fcs g y)) b g y := setRow_heap W b (fcs f x) (fcs g y) 38 (0, 0) h
theorem FrAt.other {W : World} {b k : Nat} {f : Fr} {x : Value} (h : FrAt W b f x) (hk : b ≠ k) (cs : Array Value) : FrAt (W.setRow k cs) b f x := (setRow_other W k b cs hk).trans h

/-- The frame of zeros. -/
def zeroF : Fr := ⟨⟨0, 0, 0, 0, 0, 0⟩, ⟨0, 0, 0, 0, 0, 0⟩, false, 0, false, 0⟩
theorem zero_agg : (.agg #[.int .u8 0, .int .u8 0, .int .u8 0, .int .u8 0, .int .u8 0, .int .u8 0, .int .u8 0, .int .u8 0, .int .u8 0, .int .u8 0, .int .u8 0, .int .u8 0, .bool false, .int .i64 0, .bool false, .int .i64 0, .slice none 0 0] : Value) = .agg (fcs zeroF (.slice none 0 0)) := rfl
theorem slice_one (a : Option Addr) (n c : Nat) : (Value.slice a n c).oneCell' = true := rfl

theorem src_form {W : World} {x : Value} {l : List Int} (h : Src W x l) : ∃ a n c, x = .slice a n c := by
  obtain ⟨a, c, e, _⟩ := h
  exact ⟨_, _, _, e⟩
theorem src_one {W : World} {x : Value} {l : List Int} (h : Src W x l) : x.oneCell' = true := by
  obtain ⟨a, c, rfl, _⟩ := h
  rfl

theorem Src.take {w : World} {a : Option Addr} {n c : Nat} {l : List Int} (h : Src w (.slice a n c) l) (k : Nat) (hk : k ≤ n) (ha : a ≠ none) : Src w (.slice a k c) (l.take k) := by
  obtain ⟨a', c', e, h2, h3, h4, h5⟩ := h
  cases e
  have hl : (l.take k).length = k := by simp; omega
  refine ⟨a, c, by rw [hl], by rw [hl]; omega, h3, (fun e => absurd e ha), (fun ad e j hj => ?_)⟩
  rw [hl] at hj
  rw [h5 ad e j (by omega)]
  simp [List.getD, List.getElem?_take_of_lt hj]
theorem Src.cap {w : World} {a : Option Addr} {n c c' : Nat} {l : List Int} (h : Src w (.slice a n c) l) (ha : a ≠ none) (h1 : n ≤ c') (h2 : c' ≤ maxLen) : Src w (.slice a n c') l := by
  obtain ⟨a', c0, e, _, _, _, h5⟩ := h
  cases e
  exact ⟨a, c', rfl, h1, h2, (fun e => absurd e ha), h5⟩
end Go.Proofs.Yteljcgdenagcmaa
