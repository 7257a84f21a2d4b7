/-
  Frames of the backbone in memory: as values, in a variable, loaded and stored whole and by parts. Plain laws over the program's types.
-/
import Derived.Test.YteljcgdenagcmaaSames
import Derived.Test.YteljcgdenagcmaaPutAny
namespace Go.Proofs.Yteljcgdenagcmaa
set_option linter.unusedVariables false
set_option maxRecDepth 4000
set_option linter.unusedSimpArgs false
open Go.RowKit

/-- A frame of the backbone, but for its rest. -/
structure Bf where
  d : M6
  s : M6
  p : Int
  e : Bool
  v : Int
  q : Int
  g : Bool
  u : Bool
  i : Int
  x : M6
  y : M6
/-- Its VLAN's tag, its service's. -/
def Bf.tag (f : Bf) : Value := .agg #[.int .i64 f.p, .bool f.e, .int .i64 f.v]
def Bf.itag (f : Bf) : Value := .agg #[.int .i64 f.q, .bool f.g, .bool f.u, .int .i64 f.i, .int .u8 f.x.a, .int .u8 f.x.b, .int .u8 f.x.c, .int .u8 f.x.d, .int .u8 f.x.e, .int .u8 f.x.f, .int .u8 f.y.a, .int .u8 f.y.b, .int .u8 f.y.c, .int .u8 f.y.d, .int .u8 f.y.e, .int .u8 f.y.f]
def Bf.ok (f : Bf) : Prop := f.d.ok ∧ f.s.ok ∧ f.x.ok ∧ f.y.ok
/-- What is within. -/
def Bf.inn (f : Bf) : Fr := ⟨f.x, f.y, false, 0, false, 0⟩
theorem Bf.inn_ok {f : Bf} (h : f.ok) : f.inn.ok := ⟨h.2.2.1, h.2.2.2⟩
/-- The service's tag's bytes. -/
def Bf.il (f : Bf) : List Int := itagL f.q f.g f.u f.i f.x.a f.x.b f.x.c f.x.d f.x.e f.x.f f.y.a f.y.b f.y.c f.y.d f.y.e f.y.f

/-- A frame's cells; z: its rest. -/
def bcs (f : Bf) (z : Value) : Array Value :=
  #[.int .u8 f.d.a, .int .u8 f.d.b, .int .u8 f.d.c, .int .u8 f.d.d, .int .u8 f.d.e, .int .u8 f.d.f, .int .u8 f.s.a, .int .u8 f.s.b, .int .u8 f.s.c, .int .u8 f.s.d, .int .u8 f.s.e, .int .u8 f.s.f, .int .i64 f.p, .bool f.e, .int .i64 f.v, .int .i64 f.q, .bool f.g, .bool f.u, .int .i64 f.i, .int .u8 f.x.a, .int .u8 f.x.b, .int .u8 f.x.c, .int .u8 f.x.d, .int .u8 f.x.e, .int .u8 f.x.f, .int .u8 f.y.a, .int .u8 f.y.b, .int .u8 f.y.c, .int .u8 f.y.d, .int .u8 f.y.e, .int .u8 f.y.f, z]
theorem bcs_size (f : Bf) (z : Value) : (bcs f z).size = 32 := rfl

/-- Block b is such a frame's variable. -/
def BfAt (W : World) (b : Nat) (f : Bf) (z : Value) : Prop := W.heap[b]? = some (.cells (bcs f z) 30 (0, 0))

theorem BfAt.lt {W : World} {b : Nat} {f : Bf} {z : Value} (h : BfAt W b f z) : b < W.heap.size := lt_of_block h
theorem BfAt.below {W W' : World} {b : Nat} {f : Bf} {z : Value} (h : BfAt W b f z) (hb : Below W.heap.size W W') : BfAt W' b f z := (hb.block b h.lt).trans h
theorem BfAt.new (w : World) (f : Bf) (z : Value) : BfAt (w.alloc (.cells (bcs f z) 30)) w.heap.size f z := alloc_at w _

theorem ldI27 (x : Value) : Instr.loadAt 27 x = ldS 27 x := rfl
theorem ldS30 (x : Value) : Instr.loadAt 30 x = ldS 30 x := rfl
theorem stS30 (x y : Value) : Instr.storeAt 30 x y = stS 30 x y := rfl
theorem stI27 (x y : Value) : Instr.storeAt 27 x y = stS 27 x y := rfl
theorem stS23 (x y : Value) : Instr.storeAt 23 x y = stS 23 x y := rfl
theorem info30 : (Try.prog.info? 30).map (·.size) = some 32 := by kernel_rfl

theorem BfAt.ld {W : World} {b : Nat} {f : Bf} {z : Value} (h : BfAt W b f z) : (ldS 30 (.pointer (some ⟨b, 0, none⟩))).run Try.prog W = .ok (.agg (bcs f z)) W := by
  unfold ldS
  have := run_loadVar_row (P := Try.prog) W b 30 30 (bcs f z) (0, 0) _ h Try.underlying30 rfl (by rw [bcs_size]; exact info30)
  simp only [Instr.loadAt, Instr.sureAddr, Sem.run_bind, Sem.run_pure, Result.andThen_ok, this]
theorem BfAt.lv {W : World} {b : Nat} {f : Bf} {z : Value} (h : BfAt W b f z) : (loadVar 30 ⟨b, 0, none⟩).run Try.prog W = .ok (.agg (bcs f z)) W :=
  run_loadVar_row (P := Try.prog) W b 30 30 (bcs f z) (0, 0) _ h Try.underlying30 rfl (by rw [bcs_size]; exact info30)
theorem BfAt.ldd {W : World} {b : Nat} {f : Bf} {z : Value} (h : BfAt W b f z) : (ldS 23 (.pointer (some ⟨b, 0, none⟩))).run Try.prog W = .ok f.d.v W := by
  have hr := World.rangeAt_of_block h 0 6
  exact run_loadAt_mid W b 0 23 _ _ hr Try.underlying23 rfl info23
theorem BfAt.lds {W : World} {b : Nat} {f : Bf} {z : Value} (h : BfAt W b f z) : (ldS 23 (.pointer (some ⟨b, 6, none⟩))).run Try.prog W = .ok f.s.v W := by
  have hr := World.rangeAt_of_block h 6 6
  exact run_loadAt_mid W b 6 23 _ _ hr Try.underlying23 rfl info23
theorem BfAt.ldb {W : World} {b : Nat} {f : Bf} {z : Value} (h : BfAt W b f z) : (ldS 25 (.pointer (some ⟨b, 12, none⟩))).run Try.prog W = .ok f.tag W := by
  have hr := World.rangeAt_of_block h 12 3
  exact run_loadAt_mid W b 12 25 _ _ hr Try.underlying25 rfl info25
theorem BfAt.ldi {W : World} {b : Nat} {f : Bf} {z : Value} (h : BfAt W b f z) : (ldS 27 (.pointer (some ⟨b, 15, none⟩))).run Try.prog W = .ok f.itag W := by
  have hr := World.rangeAt_of_block h 15 16
  exact run_loadAt_mid W b 15 27 _ _ hr Try.underlying27 rfl info27
theorem BfAt.ldx {W : World} {b : Nat} {f : Bf} {z : Value} (h : BfAt W b f z) : (ldS 23 (.pointer (some ⟨b, 19, none⟩))).run Try.prog W = .ok f.x.v W := by
  have hr := World.rangeAt_of_block h 19 6
  exact run_loadAt_mid W b 19 23 _ _ hr Try.underlying23 rfl info23
theorem BfAt.ldy {W : World} {b : Nat} {f : Bf} {z : Value} (h : BfAt W b f z) : (ldS 23 (.pointer (some ⟨b, 25, none⟩))).run Try.prog W = .ok f.y.v W := by
  have hr := World.rangeAt_of_block h 25 6
  exact run_loadAt_mid W b 25 23 _ _ hr Try.underlying23 rfl info23
theorem BfAt.c {W : World} {b : Nat} {f : Bf} {z : Value} (h : BfAt W b f z) (k : Nat) (v : Value) (hk : (bcs f z)[k]? = some v) : W.cell? ⟨b, k, none⟩ = some v := by
  unfold BfAt at h
  simp [World.cell?, h, hk]
theorem BfAt.c12 {W : World} {b : Nat} {f : Bf} {z : Value} (h : BfAt W b f z) : W.cell? ⟨b, 12, none⟩ = some (.int .i64 f.p) := h.c 12 _ rfl
theorem BfAt.c13 {W : World} {b : Nat} {f : Bf} {z : Value} (h : BfAt W b f z) : W.cell? ⟨b, 13, none⟩ = some (.bool f.e) := h.c 13 _ rfl
theorem BfAt.c14 {W : World} {b : Nat} {f : Bf} {z : Value} (h : BfAt W b f z) : W.cell? ⟨b, 14, none⟩ = some (.int .i64 f.v) := h.c 14 _ rfl
theorem BfAt.c15 {W : World} {b : Nat} {f : Bf} {z : Value} (h : BfAt W b f z) : W.cell? ⟨b, 15, none⟩ = some (.int .i64 f.q) := h.c 15 _ rfl
theorem BfAt.c16 {W : World} {b : Nat} {f : Bf} {z : Value} (h : BfAt W b f z) : W.cell? ⟨b, 16, none⟩ = some (.bool f.g) := h.c 16 _ rfl
theorem BfAt.c17 {W : World} {b : Nat} {f : Bf} {z : Value} (h : BfAt W b f z) : W.cell? ⟨b, 17, none⟩ = some (.bool f.u) := h.c 17 _ rfl
theorem BfAt.c18 {W : World} {b : Nat} {f : Bf} {z : Value} (h : BfAt W b f z) : W.cell? ⟨b, 18, none⟩ = some (.int .i64 f.i) := h.c 18 _ rfl
theorem BfAt.c31 {W : World} {b : Nat} {f : Bf} {z : Value} (h : BfAt W b f z) : W.cell? ⟨b, 31, none⟩ = some (z) := h.c 31 _ rfl
theorem BfAt.live {W : World} {b : Nat} {f : Bf} {z : Value} (h : BfAt W b f z) (o : Nat) : W.frozen? ⟨b, o, none⟩ = false := by
  unfold BfAt at h
  simp [World.frozen?, h]

theorem bcs_one (g : Bf) (y : Value) (hy : y.oneCell' = true) : ∀ v ∈ (bcs g y).toList, v.oneCell' = true := by
  intro v hv
  simp only [bcs, List.mem_cons, List.not_mem_nil, or_false] at hv
  rcases hv with rfl | rfl | rfl | rfl | rfl | rfl | rfl | rfl | rfl | rfl | rfl | rfl | rfl | rfl | rfl | rfl | rfl | rfl | rfl | rfl | rfl | rfl | rfl | rfl | rfl | rfl | rfl | rfl | rfl | rfl | rfl | rfl
  all_goals first | exact hy | rfl

/-- A row of cells, stored into a row. -/
theorem store_cells {ty : TypeId} {W : World} {b o t : Nat} {cur cs : Array Value} (h : W.heap[b]? = some (.cells cur t (0, 0))) (hi : (Try.prog.info? ty).map (·.size) = some cs.size) (hl : o + cs.size ≤ cur.size) (h1 : ∀ v ∈ cs.toList, v.oneCell' = true) :
    (stS ty (.pointer (some ⟨b, o, none⟩)) (.agg cs)).run Try.prog W = .ok () (W.setRow b (cur.toList.take o ++ cs.toList ++ cur.toList.drop (o + cs.size)).toArray) := by
  have hs := run_storeCells_at Try.prog b o t cs.toList 0 cur W h (by simpa using hl) h1
  have hi' : ∃ i, Try.prog.info? ty = some i ∧ i.size = cs.size := by
    cases hq : Try.prog.info? ty with
    | none => rw [hq] at hi; cases hi
    | some i => rw [hq] at hi; exact ⟨i, rfl, by simpa using hi⟩
  obtain ⟨i, hi1, hi2⟩ := hi'
  simp only [Nat.add_zero, Array.length_toList] at hs
  unfold stS
  simp [Instr.storeAt, Instr.sureAddr, storeVar, sizeOf, typeInfo, hi1, hi2, Value.cells, hs]

theorem BfAt.st {W : World} {b : Nat} {f g : Bf} {x y : Value} (h : BfAt W b f x) (hy : y.oneCell' = true) : (stS 30 (.pointer (some ⟨b, 0, none⟩)) (.agg (bcs g y))).run Try.prog W = .ok () (W.setRow b (bcs g y)) := by
  have := store_cells (ty := 30) (o := 0) (cs := bcs g y) h (by rw [bcs_size]; exact info30) (by rw [bcs_size, bcs_size]; omega) (bcs_one g y hy)
  rw [this]
  congr 2
theorem BfAt.set {W : World} {b : Nat} {f g : Bf} {x y : Value} (h : BfAt W b f x) : BfAt (W.setRow b (bcs g y)) b g y := setRow_heap W b (bcs f x) (bcs g y) 30 (0, 0) h
theorem BfAt.other {W : World} {b k : Nat} {f : Bf} {x : Value} (h : BfAt W b f x) (hk : b ≠ k) (cs : Array Value) : BfAt (W.setRow k cs) b f x := (setRow_other W k b cs hk).trans h
theorem BfAt.apart {W : World} {b : Nat} {f : Bf} {x : Value} (h : BfAt W b f x) {a : Addr} (ha : b ≠ a.block) (y : Value) : BfAt (W.setCell a y) b f x := (heap_setCell_other W a b y ha).trans h
theorem BfAt.rest {W : World} {b : Nat} {f : Bf} {x : Value} (h : BfAt W b f x) (y : Value) : BfAt (W.setCell ⟨b, 31, none⟩ y) b f y := by
  unfold BfAt at *
  rw [heap_setCell_same W b 31 (bcs f x) 30 y h]
  rfl
theorem M6.one (m : M6) : ∀ v ∈ (#[.int .u8 m.a, .int .u8 m.b, .int .u8 m.c, .int .u8 m.d, .int .u8 m.e, .int .u8 m.f] : Array Value).toList, v.oneCell' = true := by
  intro v hv
  simp only [List.mem_cons, List.not_mem_nil, or_false] at hv
  rcases hv with rfl | rfl | rfl | rfl | rfl | rfl <;> rfl
theorem BfAt.std {W : World} {b : Nat} {f : Bf} {z : Value} (h : BfAt W b f z) (m : M6) : ∃ W', (stS 23 (.pointer (some ⟨b, 0, none⟩)) m.v).run Try.prog W = .ok () W' ∧ BfAt W' b ⟨m, f.s, f.p, f.e, f.v, f.q, f.g, f.u, f.i, f.x, f.y⟩ z ∧ (∀ k, k ≠ b → W'.heap[k]? = W.heap[k]?) ∧ W'.heap.size = W.heap.size ∧ (∀ w, w.heap.size ≤ b → Below w.heap.size w W → Below w.heap.size w W') :=
  ⟨_, store_cells (ty := 23) (o := 0) h info23 (by rw [bcs_size]; show 0 + 6 ≤ 32; omega) m.one, setRow_heap W b (bcs f z) (bcs ⟨m, f.s, f.p, f.e, f.v, f.q, f.g, f.u, f.i, f.x, f.y⟩ z) 30 (0, 0) h, fun k hk => setRow_other _ _ _ _ hk, by simp, fun w hw hB => below_setRow hB hw _⟩
theorem BfAt.sts {W : World} {b : Nat} {f : Bf} {z : Value} (h : BfAt W b f z) (m : M6) : ∃ W', (stS 23 (.pointer (some ⟨b, 6, none⟩)) m.v).run Try.prog W = .ok () W' ∧ BfAt W' b ⟨f.d, m, f.p, f.e, f.v, f.q, f.g, f.u, f.i, f.x, f.y⟩ z ∧ (∀ k, k ≠ b → W'.heap[k]? = W.heap[k]?) ∧ W'.heap.size = W.heap.size ∧ (∀ w, w.heap.size ≤ b → Below w.heap.size w W → Below w.heap.size w W') :=
  ⟨_, store_cells (ty := 23) (o := 6) h info23 (by rw [bcs_size]; show 6 + 6 ≤ 32; omega) m.one, setRow_heap W b (bcs f z) (bcs ⟨f.d, m, f.p, f.e, f.v, f.q, f.g, f.u, f.i, f.x, f.y⟩ z) 30 (0, 0) h, fun k hk => setRow_other _ _ _ _ hk, by simp, fun w hw hB => below_setRow hB hw _⟩
/-- A tag, alone. -/
structure Tg where
  p : Int
  e : Bool
  v : Int
def Tg.v' (t : Tg) : Value := .agg #[.int .i64 t.p, .bool t.e, .int .i64 t.v]
theorem BfAt.stb {W : World} {b : Nat} {f : Bf} {z : Value} (h : BfAt W b f z) (p : Int) (e : Bool) (v : Int) : ∃ W', (stS 25 (.pointer (some ⟨b, 12, none⟩)) (.agg #[.int .i64 p, .bool e, .int .i64 v])).run Try.prog W = .ok () W' ∧ BfAt W' b ⟨f.d, f.s, p, e, v, f.q, f.g, f.u, f.i, f.x, f.y⟩ z ∧ (∀ k, k ≠ b → W'.heap[k]? = W.heap[k]?) ∧ W'.heap.size = W.heap.size ∧ (∀ w, w.heap.size ≤ b → Below w.heap.size w W → Below w.heap.size w W') :=
  ⟨_, store_cells (ty := 25) (o := 12) h info25 (by rw [bcs_size]; show 12 + 3 ≤ 32; omega) (by
    intro c hc
    simp only [List.mem_cons, List.not_mem_nil, or_false] at hc
    rcases hc with rfl | rfl | rfl <;> rfl), setRow_heap W b (bcs f z) (bcs ⟨f.d, f.s, p, e, v, f.q, f.g, f.u, f.i, f.x, f.y⟩ z) 30 (0, 0) h, fun k hk => setRow_other _ _ _ _ hk, by simp, fun w hw hB => below_setRow hB hw _⟩
theorem BfAt.sti {W : World} {b : Nat} {f : Bf} {z : Value} (h : BfAt W b f z) (i : Bf) : ∃ W', (stS 27 (.pointer (some ⟨b, 15, none⟩)) i.itag).run Try.prog W = .ok () W' ∧ BfAt W' b ⟨f.d, f.s, f.p, f.e, f.v, i.q, i.g, i.u, i.i, i.x, i.y⟩ z ∧ (∀ k, k ≠ b → W'.heap[k]? = W.heap[k]?) ∧ W'.heap.size = W.heap.size ∧ (∀ w, w.heap.size ≤ b → Below w.heap.size w W → Below w.heap.size w W') :=
  ⟨_, store_cells (ty := 27) (o := 15) h info27 (by rw [bcs_size]; show 15 + 16 ≤ 32; omega) (by
    intro c hc
    simp only [List.mem_cons, List.not_mem_nil, or_false] at hc
    rcases hc with rfl | rfl | rfl | rfl | rfl | rfl | rfl | rfl | rfl | rfl | rfl | rfl | rfl | rfl | rfl | rfl <;> rfl), setRow_heap W b (bcs f z) (bcs ⟨f.d, f.s, f.p, f.e, f.v, i.q, i.g, i.u, i.i, i.x, i.y⟩ z) 30 (0, 0) h, fun k hk => setRow_other _ _ _ _ hk, by simp, fun w hw hB => below_setRow hB hw _⟩

/-- The frame of zeros. -/
def zeroB : Bf := ⟨⟨0, 0, 0, 0, 0, 0⟩, ⟨0, 0, 0, 0, 0, 0⟩, 0, false, 0, 0, false, false, 0, ⟨0, 0, 0, 0, 0, 0⟩, ⟨0, 0, 0, 0, 0, 0⟩⟩
theorem zeroB_agg : (.agg #[.int .u8 0, .int .u8 0, .int .u8 0, .int .u8 0, .int .u8 0, .int .u8 0, .int .u8 0, .int .u8 0, .int .u8 0, .int .u8 0, .int .u8 0, .int .u8 0, .int .i64 0, .bool false, .int .i64 0, .int .i64 0, .bool false, .bool false, .int .i64 0, .int .u8 0, .int .u8 0, .int .u8 0, .int .u8 0, .int .u8 0, .int .u8 0, .int .u8 0, .int .u8 0, .int .u8 0, .int .u8 0, .int .u8 0, .int .u8 0, .slice none 0 0] : Value) = .agg (bcs zeroB (.slice none 0 0)) := rfl
theorem zeroB_cells : (#[.int .u8 0, .int .u8 0, .int .u8 0, .int .u8 0, .int .u8 0, .int .u8 0, .int .u8 0, .int .u8 0, .int .u8 0, .int .u8 0, .int .u8 0, .int .u8 0, .int .i64 0, .bool false, .int .i64 0, .int .i64 0, .bool false, .bool false, .int .i64 0, .int .u8 0, .int .u8 0, .int .u8 0, .int .u8 0, .int .u8 0, .int .u8 0, .int .u8 0, .int .u8 0, .int .u8 0, .int .u8 0, .int .u8 0, .int .u8 0, .slice none 0 0] : Array Value) = bcs zeroB (.slice none 0 0) := rfl

/-- What is read of such a variable in every later world. -/
structure BLat (W : World) (b : Nat) (f : Bf) (z : Value) : Prop where
  ld : ∀ y : Later W, (ldS 30 (.pointer (some ⟨b, 0, none⟩))).run Try.prog y.val = .ok (.agg (bcs f z)) y.val
  ldd : ∀ y : Later W, (ldS 23 (.pointer (some ⟨b, 0, none⟩))).run Try.prog y.val = .ok f.d.v y.val
  lds : ∀ y : Later W, (ldS 23 (.pointer (some ⟨b, 6, none⟩))).run Try.prog y.val = .ok f.s.v y.val
  ldb : ∀ y : Later W, (ldS 25 (.pointer (some ⟨b, 12, none⟩))).run Try.prog y.val = .ok f.tag y.val
  ldi : ∀ y : Later W, (ldS 27 (.pointer (some ⟨b, 15, none⟩))).run Try.prog y.val = .ok f.itag y.val
  c18 : ∀ y : Later W, y.val.cell? ⟨b, 18, none⟩ = some (.int .i64 f.i)
  c31 : ∀ y : Later W, y.val.cell? ⟨b, 31, none⟩ = some z
theorem BfAt.laters {W : World} {b : Nat} {f : Bf} {z : Value} (h : BfAt W b f z) : BLat W b f z :=
  ⟨fun y => (h.below y.below).ld, fun y => (h.below y.below).ldd, fun y => (h.below y.below).lds, fun y => (h.below y.below).ldb, fun y => (h.below y.below).ldi, fun y => (h.below y.below).c18, fun y => (h.below y.below).c31⟩

theorem BfAt.srcd {W : World} {b : Nat} {f : Bf} {z : Value} (h : BfAt W b f z) : Src W (.slice (some ⟨b, 0, none⟩) 6 6) f.d.l :=
  src6 (h.c 0 _ rfl) (h.c 1 _ rfl) (h.c 2 _ rfl) (h.c 3 _ rfl) (h.c 4 _ rfl) (h.c 5 _ rfl)
theorem BfAt.srcs {W : World} {b : Nat} {f : Bf} {z : Value} (h : BfAt W b f z) : Src W (.slice (some ⟨b, 6, none⟩) 6 6) f.s.l :=
  src6 (h.c 6 _ rfl) (h.c 7 _ rfl) (h.c 8 _ rfl) (h.c 9 _ rfl) (h.c 10 _ rfl) (h.c 11 _ rfl)

/-- Contracts of the layers beneath, met with such a frame's parts. -/
theorem kindB_m (m : M6) (w : World) (h : m.ok) : Calls Try.prog 52 #[m.v] w fun r w' => r = .returned (.int .i64 m.kd) ∧ Below w.heap.size w w' := kind_m m w h
theorem checkB_f (f : Bf) (w : World) : Calls Try.prog 45 #[f.tag] w fun r w' => r = .returned (.int .i64 (chk (tagOk f.p f.v))) ∧ Below w.heap.size w w' := check_f ⟨f.d, f.s, false, f.p, f.e, f.v⟩ w
theorem checkBi_f (f : Bf) (w : World) : Calls Try.prog 53 #[f.itag] w fun r w' => r = .returned (.int .i64 (chk (itagOk f.q f.i))) ∧ Below w.heap.size w w' := checki_any _ _ _ _ _ _ _ _ _ _ _ _ _ _ _ _ w
theorem isB_f (f : Bf) (w : World) : Calls Try.prog 32 #[f.tag] w fun r w' => r = .returned (.bool (tagOk f.p f.v)) ∧ Below w.heap.size w w' := is_any f.p f.v f.e w
theorem isBi_f (f : Bf) (w : World) : Calls Try.prog 33 #[f.itag] w fun r w' => r = .returned (.bool (itagOk f.q f.i)) ∧ Below w.heap.size w w' := isi_any _ _ _ _ _ _ _ _ _ _ _ _ _ _ _ _ w
theorem putB_f (f : Bf) (w : World) (h : tagOk f.p f.v = true) :
    Calls Try.prog 47 #[f.tag] w fun r w' => ∃ s, r = .returned (.tuple #[s, .int .i64 0]) ∧ Own w' w.heap.size s (tagL f.p f.e f.v) ∧ Below w.heap.size w w' := put_yes f.p f.v f.e w h
theorem putBi_f (f : Bf) (w : World) (h : itagOk f.q f.i = true) :
    Calls Try.prog 48 #[f.itag] w fun r w' => ∃ s, r = .returned (.tuple #[s, .int .i64 0]) ∧ Own w' w.heap.size s f.il ∧ Below w.heap.size w w' := puti_yes _ _ _ _ _ _ _ _ _ _ _ _ _ _ _ _ w h
end Go.Proofs.Yteljcgdenagcmaa
