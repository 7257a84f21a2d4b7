/-
  Frames of the backbone in memory: as values, in a variable, loaded and stored whole and by parts. Plain laws over the program's types. Frames' variables: loads and stores. Plain laws. Frames that have not much more bytes than they may have: walks of Few and few, each for every input.
-/
import Derived.Test.YtgjagedngdhdaaaJ15XCheck
import Derived.Test.YtgjagedngdhdaaaJ10XPutAny
import Derived.Test.YtgjagedngdhdaaaJ14Ib
import Derived.Test.YtgjagedngdhdaaaJ05Mor
namespace Go.Proofs.Ytgjagedngdhdaaa

section
namespace S4
set_option linter.unusedVariables false
set_option maxRecDepth 4000
set_option linter.unusedSimpArgs false
open Go.RowKit

/-- A frame of the backbone, but for its rest. -/
structure Bf where
  d : M6
  s : M6
  p : Int
  e : Bool
  v : Int
  q : Int
  g : Bool
  u : Bool
  i : Int
  x : M6
  y : M6
/-- Its VLAN's tag, its service's. -/
def Bf.tag (f : Bf) : Value := .agg #[.int .i64 f.p, .bool f.e, .int .i64 f.v]
def Bf.itag (f : Bf) : Value := .agg #[.int .i64 f.q, .bool f.g, .bool f.u, .int .i64 f.i, .int .u8 f.x.a, .int .u8 f.x.b, .int .u8 f.x.c, .int .u8 f.x.d, .int .u8 f.x.e, .int .u8 f.x.f, .int .u8 f.y.a, .int .u8 f.y.b, .int .u8 f.y.c, .int .u8 f.y.d, .int .u8 f.y.e, .int .u8 f.y.f]
def Bf.ok (f : Bf) : Prop := f.d.ok ∧ f.s.ok ∧ f.x.ok ∧ f.y.ok
/-- What is within. -/
def Bf.inn (f : Bf) : Fr := ⟨f.x, f.y, false, 0, false, 0⟩
theorem Bf.inn_ok {f : Bf} (h : f.ok) : f.inn.ok := ⟨h.2.2.1, h.2.2.2⟩
/-- The service's tag's bytes. -/
def Bf.il (f : Bf) : List Int := itagL f.q f.g f.u f.i f.x.a f.x.b f.x.c f.x.d f.x.e f.x.f f.y.a f.y.b f.y.c f.y.d f.y.e f.y.f

/-- A frame's cells; z: its rest. -/
def bcs (f : Bf) (z : Value) : Array Value :=
  #[.int .u8 f.d.a, .int .u8 f.d.b, .int .u8 f.d.c, .int .u8 f.d.d, .int .u8 f.d.e, .int .u8 f.d.f, .int .u8 f.s.a, .int .u8 f.s.b, .int .u8 f.s.c, .int .u8 f.s.d, .int .u8 f.s.e, .int .u8 f.s.f, .int .i64 f.p, .bool f.e, .int .i64 f.v, .int .i64 f.q, .bool f.g, .bool f.u, .int .i64 f.i, .int .u8 f.x.a, .int .u8 f.x.b, .int .u8 f.x.c, .int .u8 f.x.d, .int .u8 f.x.e, .int .u8 f.x.f, .int .u8 f.y.a, .int .u8 f.y.b, .int .u8 f.y.c, .int .u8 f.y.d, .int .u8 f.y.e, .int .u8 f.y.f, z]
theorem bcs_size (f : Bf) (z : Value) : (bcs f z).size = 32 := rfl

/-- Block b is such a frame's variable. -/
def BfAt (W : World) (b : Nat) (f : Bf) (z : Value) : Prop := W.heap[b]? = some (.cells (bcs f z) 49 (0, 0))

theorem BfAt.lt {W : World} {b : Nat} {f : Bf} {z : Value} (h : BfAt W b f z) : b < W.heap.size := lt_of_block h
theorem BfAt.below {W W' : World} {b : Nat} {f : Bf} {z : Value} (h : BfAt W b f z) (hb : Below W.heap.size W W') : BfAt W' b f z := (hb.block b h.lt).trans h
theorem BfAt.new (w : World) (f : Bf) (z : Value) : BfAt (w.alloc (.cells (bcs f z) 49)) w.heap.size f z := alloc_at w _

theorem ldI27 (x : Value) : Instr.loadAt 47 x = ldS 47 x := rfl
theorem ldS_BFrame (x : Value) : Instr.loadAt 49 x = ldS 49 x := rfl
theorem stS_BFrame (x y : Value) : Instr.storeAt 49 x y = stS 49 x y := rfl
theorem stI27 (x y : Value) : Instr.storeAt 47 x y = stS 47 x y := rfl
theorem stS_MAC (x y : Value) : Instr.storeAt 23 x y = stS 23 x y := rfl
theorem info_BFrame : (Try.prog.info? 49).map (·.size) = some 32 := by kernel_rfl

theorem BfAt.ld {W : World} {b : Nat} {f : Bf} {z : Value} (h : BfAt W b f z) : (ldS 49 (.pointer (some ⟨b, 0, none⟩))).run Try.prog W = .ok (.agg (bcs f z)) W := by
  unfold ldS
  have := run_loadVar_row (P := Try.prog) W b 49 49 (bcs f z) (0, 0) _ h Try.underlying49 rfl (by rw [bcs_size]; exact info_BFrame)
  simp only [Instr.loadAt, Instr.sureAddr, Sem.run_bind, Sem.run_pure, Result.andThen_ok, this]
theorem BfAt.lv {W : World} {b : Nat} {f : Bf} {z : Value} (h : BfAt W b f z) : (loadVar 49 ⟨b, 0, none⟩).run Try.prog W = .ok (.agg (bcs f z)) W :=
  run_loadVar_row (P := Try.prog) W b 49 49 (bcs f z) (0, 0) _ h Try.underlying49 rfl (by rw [bcs_size]; exact info_BFrame)
theorem BfAt.ldd {W : World} {b : Nat} {f : Bf} {z : Value} (h : BfAt W b f z) : (ldS 23 (.pointer (some ⟨b, 0, none⟩))).run Try.prog W = .ok f.d.v W := by
  have hr := World.rangeAt_of_block h 0 6
  exact run_loadAt_mid W b 0 23 _ _ hr Try.underlying23 rfl info_MAC
theorem BfAt.lds {W : World} {b : Nat} {f : Bf} {z : Value} (h : BfAt W b f z) : (ldS 23 (.pointer (some ⟨b, 6, none⟩))).run Try.prog W = .ok f.s.v W := by
  have hr := World.rangeAt_of_block h 6 6
  exact run_loadAt_mid W b 6 23 _ _ hr Try.underlying23 rfl info_MAC
theorem BfAt.ldb {W : World} {b : Nat} {f : Bf} {z : Value} (h : BfAt W b f z) : (ldS 32 (.pointer (some ⟨b, 12, none⟩))).run Try.prog W = .ok f.tag W := by
  have hr := World.rangeAt_of_block h 12 3
  exact run_loadAt_mid W b 12 32 _ _ hr Try.underlying32 rfl info_Tag
theorem BfAt.ldi {W : World} {b : Nat} {f : Bf} {z : Value} (h : BfAt W b f z) : (ldS 47 (.pointer (some ⟨b, 15, none⟩))).run Try.prog W = .ok f.itag W := by
  have hr := World.rangeAt_of_block h 15 16
  exact run_loadAt_mid W b 15 47 _ _ hr Try.underlying47 rfl info_ITag
theorem BfAt.ldx {W : World} {b : Nat} {f : Bf} {z : Value} (h : BfAt W b f z) : (ldS 23 (.pointer (some ⟨b, 19, none⟩))).run Try.prog W = .ok f.x.v W := by
  have hr := World.rangeAt_of_block h 19 6
  exact run_loadAt_mid W b 19 23 _ _ hr Try.underlying23 rfl info_MAC
theorem BfAt.ldy {W : World} {b : Nat} {f : Bf} {z : Value} (h : BfAt W b f z) : (ldS 23 (.pointer (some ⟨b, 25, none⟩))).run Try.prog W = .ok f.y.v W := by
  have hr := World.rangeAt_of_block h 25 6
  exact run_loadAt_mid W b 25 23 _ _ hr Try.underlying23 rfl info_MAC
theorem BfAt.c {W : World} {b : Nat} {f : Bf} {z : Value} (h : BfAt W b f z) (k : Nat) (v : Value) (hk : (bcs f z)[k]? = some v) : W.cell? ⟨b, k, none⟩ = some v := by
  unfold BfAt at h
  simp [World.cell?, h, hk]
theorem BfAt.c12 {W : World} {b : Nat} {f : Bf} {z : Value} (h : BfAt W b f z) : W.cell? ⟨b, 12, none⟩ = some (.int .i64 f.p) := h.c 12 _ rfl
theorem BfAt.c13 {W : World} {b : Nat} {f : Bf} {z : Value} (h : BfAt W b f z) : W.cell? ⟨b, 13, none⟩ = some (.bool f.e) := h.c 13 _ rfl
theorem BfAt.c14 {W : World} {b : Nat} {f : Bf} {z : Value} (h : BfAt W b f z) : W.cell? ⟨b, 14, none⟩ = some (.int .i64 f.v) := h.c 14 _ rfl
theorem BfAt.c15 {W : World} {b : Nat} {f : Bf} {z : Value} (h : BfAt W b f z) : W.cell? ⟨b, 15, none⟩ = some (.int .i64 f.q) := h.c 15 _ rfl
theorem BfAt.c16 {W : World} {b : Nat} {f : Bf} {z : Value} (h : BfAt W b f z) : W.cell? ⟨b, 16, none⟩ = some (.bool f.g) := h.c 16 _ rfl
theorem BfAt.c17 {W : World} {b : Nat} {f : Bf} {z : Value} (h : BfAt W b f z) : W.cell? ⟨b, 17, none⟩ = some (.bool f.u) := h.c 17 _ rfl
theorem BfAt.c18 {W : World} {b : Nat} {f : Bf} {z : Value} (h : BfAt W b f z) : W.cell? ⟨b, 18, none⟩ = some (.int .i64 f.i) := h.c 18 _ rfl
theorem BfAt.c31 {W : World} {b : Nat} {f : Bf} {z : Value} (h : BfAt W b f z) : W.cell? ⟨b, 31, none⟩ = some (z) := h.c 31 _ rfl
theorem BfAt.live {W : World} {b : Nat} {f : Bf} {z : Value} (h : BfAt W b f z) (o : Nat) : W.frozen? ⟨b, o, none⟩ = false := by
  unfold BfAt at h
  simp [World.frozen?, h]

theorem bcs_one (g : Bf) (y : Value) (hy : y.oneCell' = true) : ∀ v ∈ (bcs g y).toList, v.oneCell' = true := by
  intro v hv
  simp only [bcs, List.mem_cons, List.not_mem_nil, or_false] at hv
  rcases hv with rfl | rfl | rfl | rfl | rfl | rfl | rfl | rfl | rfl | rfl | rfl | rfl | rfl | rfl | rfl | rfl | rfl | rfl | rfl | rfl | rfl | rfl | rfl | rfl | rfl | rfl | rfl | rfl | rfl | rfl | rfl | rfl
  all_goals first | exact hy | rfl

/-- A row of cells, stored into a row. -/
theorem store_cells {ty : TypeId} {W : World} {b o t : Nat} {cur cs : Array Value} (h : W.heap[b]? = some (.cells cur t (0, 0))) (hi : (Try.prog.info? ty).map (·.size) = some cs.size) (hl : o + cs.size ≤ cur.size) (h1 : ∀ v ∈ cs.toList, v.oneCell' = true) :
    (stS ty (.pointer (some ⟨b, o, none⟩)) (.agg cs)).run Try.prog W = .ok () (W.setRow b (cur.toList.take o ++ cs.toList ++ cur.toList.drop (o + cs.size)).toArray) := by
  have hs := run_storeCells_at Try.prog b o t cs.toList 0 cur W h (by simpa using hl) h1
  have hi' : ∃ i, Try.prog.info? ty = some i ∧ i.size = cs.size := by
    cases hq : Try.prog.info? ty with
    | none => rw [hq] at hi; cases hi
    | some i => rw [hq] at hi; exact ⟨i, rfl, by simpa using hi⟩
  obtain ⟨i, hi1, hi2⟩ := hi'
  simp only [Nat.add_zero, Array.length_toList] at hs
  unfold stS
  simp [Instr.storeAt, Instr.sureAddr, storeVar, sizeOf, typeInfo, hi1, hi2, Value.cells, hs]

theorem BfAt.st {W : World} {b : Nat} {f g : Bf} {x y : Value} (h : BfAt W b f x) (hy : y.oneCell' = true) : (stS 49 (.pointer (some ⟨b, 0, none⟩)) (.agg (bcs g y))).run Try.prog W = .ok () (W.setRow b (bcs g y)) := by
  have := store_cells (ty := 49) (o := 0) (cs := bcs g y) h (by rw [bcs_size]; exact info_BFrame) (by rw [bcs_size, bcs_size]; omega) (bcs_one g y hy)
  rw [this]
  congr 2
theorem BfAt.set {W : World} {b : Nat} {f g : Bf} {x y : Value} (h : BfAt W b f x) : BfAt (W.setRow b (bcs g y)) b g y := setRow_heap W b (bcs f x) (bcs g y) 49 (0, 0) h
theorem BfAt.other {W : World} {b k : Nat} {f : Bf} {x : Value} (h : BfAt W b f x) (hk : b ≠ k) (cs : Array Value) : BfAt (W.setRow k cs) b f x := (setRow_other W k b cs hk).trans h
theorem BfAt.apart {W : World} {b : Nat} {f : Bf} {x : Value} (h : BfAt W b f x) {a : Addr} (ha : b ≠ a.block) (y : Value) : BfAt (W.setCell a y) b f x := (heap_setCell_other W a b y ha).trans h
theorem BfAt.rest {W : World} {b : Nat} {f : Bf} {x : Value} (h : BfAt W b f x) (y : Value) : BfAt (W.setCell ⟨b, 31, none⟩ y) b f y := by
  unfold BfAt at *
  rw [heap_setCell_same W b 31 (bcs f x) 49 y h]
  rfl
theorem M6.one (m : M6) : ∀ v ∈ (#[.int .u8 m.a, .int .u8 m.b, .int .u8 m.c, .int .u8 m.d, .int .u8 m.e, .int .u8 m.f] : Array Value).toList, v.oneCell' = true := by
  intro v hv
  simp only [List.mem_cons, List.not_mem_nil, or_false] at hv
  rcases hv with rfl | rfl | rfl | rfl | rfl | rfl <;> rfl
theorem BfAt.std {W : World} {b : Nat} {f : Bf} {z : Value} (h : BfAt W b f z) (m : M6) : ∃ W', (stS 23 (.pointer (some ⟨b, 0, none⟩)) m.v).run Try.prog W = .ok () W' ∧ BfAt W' b ⟨m, f.s, f.p, f.e, f.v, f.q, f.g, f.u, f.i, f.x, f.y⟩ z ∧ (∀ k, k ≠ b → W'.heap[k]? = W.heap[k]?) ∧ W'.heap.size = W.heap.size ∧ (∀ w, w.heap.size ≤ b → Below w.heap.size w W → Below w.heap.size w W') :=
  ⟨_, store_cells (ty := 23) (o := 0) h info_MAC (by rw [bcs_size]; show 0 + 6 ≤ 32; omega) m.one, setRow_heap W b (bcs f z) (bcs ⟨m, f.s, f.p, f.e, f.v, f.q, f.g, f.u, f.i, f.x, f.y⟩ z) 49 (0, 0) h, fun k hk => setRow_other _ _ _ _ hk, by simp, fun w hw hB => below_setRow hB hw _⟩
theorem BfAt.sts {W : World} {b : Nat} {f : Bf} {z : Value} (h : BfAt W b f z) (m : M6) : ∃ W', (stS 23 (.pointer (some ⟨b, 6, none⟩)) m.v).run Try.prog W = .ok () W' ∧ BfAt W' b ⟨f.d, m, f.p, f.e, f.v, f.q, f.g, f.u, f.i, f.x, f.y⟩ z ∧ (∀ k, k ≠ b → W'.heap[k]? = W.heap[k]?) ∧ W'.heap.size = W.heap.size ∧ (∀ w, w.heap.size ≤ b → Below w.heap.size w W → Below w.heap.size w W') :=
  ⟨_, store_cells (ty := 23) (o := 6) h info_MAC (by rw [bcs_size]; show 6 + 6 ≤ 32; omega) m.one, setRow_heap W b (bcs f z) (bcs ⟨f.d, m, f.p, f.e, f.v, f.q, f.g, f.u, f.i, f.x, f.y⟩ z) 49 (0, 0) h, fun k hk => setRow_other _ _ _ _ hk, by simp, fun w hw hB => below_setRow hB hw _⟩
/-- A tag, alone. -/
structure Tg where
  p : Int
  e : Bool
  v : Int
def Tg.v' (t : Tg) : Value := .agg #[.int .i64 t.p, .bool t.e, .int .i64 t.v]
theorem BfAt.stb {W : World} {b : Nat} {f : Bf} {z : Value} (h : BfAt W b f z) (p : Int) (e : Bool) (v : Int) : ∃ W', (stS 32 (.pointer (some ⟨b, 12, none⟩)) (.agg #[.int .i64 p, .bool e, .int .i64 v])).run Try.prog W = .ok () W' ∧ BfAt W' b ⟨f.d, f.s, p, e, v, f.q, f.g, f.u, f.i, f.x, f.y⟩ z ∧ (∀ k, k ≠ b → W'.heap[k]? = W.heap[k]?) ∧ W'.heap.size = W.heap.size ∧ (∀ w, w.heap.size ≤ b → Below w.heap.size w W → Below w.heap.size w W') :=
  ⟨_, store_cells (ty := 32) (o := 12) h info_Tag (by rw [bcs_size]; show 12 + 3 ≤ 32; omega) (by
    intro c hc
    simp only [List.mem_cons, List.not_mem_nil, or_false] at hc
    rcases hc with rfl | rfl | rfl <;> rfl), setRow_heap W b (bcs f z) (bcs ⟨f.d, f.s, p, e, v, f.q, f.g, f.u, f.i, f.x, f.y⟩ z) 49 (0, 0) h, fun k hk => setRow_other _ _ _ _ hk, by simp, fun w hw hB => below_setRow hB hw _⟩
theorem BfAt.sti {W : World} {b : Nat} {f : Bf} {z : Value} (h : BfAt W b f z) (i : Bf) : ∃ W', (stS 47 (.pointer (some ⟨b, 15, none⟩)) i.itag).run Try.prog W = .ok () W' ∧ BfAt W' b ⟨f.d, f.s, f.p, f.e, f.v, i.q, i.g, i.u, i.i, i.x, i.y⟩ z ∧ (∀ k, k ≠ b → W'.heap[k]? = W.heap[k]?) ∧ W'.heap.size = W.heap.size ∧ (∀ w, w.heap.size ≤ b → Below w.heap.size w W → Below w.heap.size w W') :=
  ⟨_, store_cells (ty := 47) (o := 15) h info_ITag (by rw [bcs_size]; show 15 + 16 ≤ 32; omega) (by
    intro c hc
    simp only [List.mem_cons, List.not_mem_nil, or_false] at hc
    rcases hc with rfl | rfl | rfl | rfl | rfl | rfl | rfl | rfl | rfl | rfl | rfl | rfl | rfl | rfl | rfl | rfl <;> rfl), setRow_heap W b (bcs f z) (bcs ⟨f.d, f.s, f.p, f.e, f.v, i.q, i.g, i.u, i.i, i.x, i.y⟩ z) 49 (0, 0) h, fun k hk => setRow_other _ _ _ _ hk, by simp, fun w hw hB => below_setRow hB hw _⟩

/-- The frame of zeros. -/
def zeroB : Bf := ⟨⟨0, 0, 0, 0, 0, 0⟩, ⟨0, 0, 0, 0, 0, 0⟩, 0, false, 0, 0, false, false, 0, ⟨0, 0, 0, 0, 0, 0⟩, ⟨0, 0, 0, 0, 0, 0⟩⟩
theorem zeroB_agg : (.agg #[.int .u8 0, .int .u8 0, .int .u8 0, .int .u8 0, .int .u8 0, .int .u8 0, .int .u8 0, .int .u8 0, .int .u8 0, .int .u8 0, .int .u8 0, .int .u8 0, .int .i64 0, .bool false, .int .i64 0, .int .i64 0, .bool false, .bool false, .int .i64 0, .int .u8 0, .int .u8 0, .int .u8 0, .int .u8 0, .int .u8 0, .int .u8 0, .int .u8 0, .int .u8 0, .int .u8 0, .int .u8 0, .int .u8 0, .int .u8 0, .slice none 0 0] : Value) = .agg (bcs zeroB (.slice none 0 0)) := rfl
theorem zeroB_cells : (#[.int .u8 0, .int .u8 0, .int .u8 0, .int .u8 0, .int .u8 0, .int .u8 0, .int .u8 0, .int .u8 0, .int .u8 0, .int .u8 0, .int .u8 0, .int .u8 0, .int .i64 0, .bool false, .int .i64 0, .int .i64 0, .bool false, .bool false, .int .i64 0, .int .u8 0, .int .u8 0, .int .u8 0, .int .u8 0, .int .u8 0, .int .u8 0, .int .u8 0, .int .u8 0, .int .u8 0, .int .u8 0, .int .u8 0, .int .u8 0, .slice none 0 0] : Array Value) = bcs zeroB (.slice none 0 0) := rfl

/-- What is read of such a variable in every later world. -/
structure BLat (W : World) (b : Nat) (f : Bf) (z : Value) : Prop where
  ld : ∀ y : Later W, (ldS 49 (.pointer (some ⟨b, 0, none⟩))).run Try.prog y.val = .ok (.agg (bcs f z)) y.val
  ldd : ∀ y : Later W, (ldS 23 (.pointer (some ⟨b, 0, none⟩))).run Try.prog y.val = .ok f.d.v y.val
  lds : ∀ y : Later W, (ldS 23 (.pointer (some ⟨b, 6, none⟩))).run Try.prog y.val = .ok f.s.v y.val
  ldb : ∀ y : Later W, (ldS 32 (.pointer (some ⟨b, 12, none⟩))).run Try.prog y.val = .ok f.tag y.val
  ldi : ∀ y : Later W, (ldS 47 (.pointer (some ⟨b, 15, none⟩))).run Try.prog y.val = .ok f.itag y.val
  c18 : ∀ y : Later W, y.val.cell? ⟨b, 18, none⟩ = some (.int .i64 f.i)
  c31 : ∀ y : Later W, y.val.cell? ⟨b, 31, none⟩ = some z
theorem BfAt.laters {W : World} {b : Nat} {f : Bf} {z : Value} (h : BfAt W b f z) : BLat W b f z :=
  ⟨fun y => (h.below y.below).ld, fun y => (h.below y.below).ldd, fun y => (h.below y.below).lds, fun y => (h.below y.below).ldb, fun y => (h.below y.below).ldi, fun y => (h.below y.below).c18, fun y => (h.below y.below).c31⟩

theorem BfAt.srcd {W : World} {b : Nat} {f : Bf} {z : Value} (h : BfAt W b f z) : Src W (.slice (some ⟨b, 0, none⟩) 6 6) f.d.l :=
  src6 (h.c 0 _ rfl) (h.c 1 _ rfl) (h.c 2 _ rfl) (h.c 3 _ rfl) (h.c 4 _ rfl) (h.c 5 _ rfl)
theorem BfAt.srcs {W : World} {b : Nat} {f : Bf} {z : Value} (h : BfAt W b f z) : Src W (.slice (some ⟨b, 6, none⟩) 6 6) f.s.l :=
  src6 (h.c 6 _ rfl) (h.c 7 _ rfl) (h.c 8 _ rfl) (h.c 9 _ rfl) (h.c 10 _ rfl) (h.c 11 _ rfl)

/-- Contracts of the layers beneath, met with such a frame's parts. -/
theorem kindB_m (m : M6) (w : World) (h : m.ok) : Calls Try.prog 70 #[m.v] w fun r w' => r = .returned (.int .i64 m.kd) ∧ Below w.heap.size w w' := kind_m m w h
theorem checkB_f (f : Bf) (w : World) : Calls Try.prog 81 #[f.tag] w fun r w' => r = .returned (.int .i64 (chk (tagOk f.p f.v))) ∧ Below w.heap.size w w' := check_f ⟨f.d, f.s, false, f.p, f.e, f.v⟩ w
theorem checkBi_f (f : Bf) (w : World) : Calls Try.prog 108 #[f.itag] w fun r w' => r = .returned (.int .i64 (chk (itagOk f.q f.i))) ∧ Below w.heap.size w w' := checki_any _ _ _ _ _ _ _ _ _ _ _ _ _ _ _ _ w
theorem isB_f (f : Bf) (w : World) : Calls Try.prog 86 #[f.tag] w fun r w' => r = .returned (.bool (tagOk f.p f.v)) ∧ Below w.heap.size w w' := is_any f.p f.v f.e w
theorem isBi_f (f : Bf) (w : World) : Calls Try.prog 96 #[f.itag] w fun r w' => r = .returned (.bool (itagOk f.q f.i)) ∧ Below w.heap.size w w' := isi_any _ _ _ _ _ _ _ _ _ _ _ _ _ _ _ _ w
theorem putB_f (f : Bf) (w : World) (h : tagOk f.p f.v = true) :
    Calls Try.prog 114 #[f.tag] w fun r w' => ∃ s, r = .returned (.tuple #[s, .int .i64 0]) ∧ Own w' w.heap.size s (tagL f.p f.e f.v) ∧ Below w.heap.size w w' := put_yes f.p f.v f.e w h
end S4
end

section
set_option linter.unusedVariables false
set_option maxRecDepth 4000
set_option linter.unusedSimpArgs false
open Go.RowKit

theorem stSb (x y : Value) : Instr.storeAt 30 x y = stS 30 x y := rfl
theorem infoSb : (Try.prog.info? 30).map (·.size) = some 1 := by kernel_rfl
theorem rtF : RowTy 34 17 := ⟨S4.info_Frame, _, Try.underlying34, rfl⟩
theorem rtG : RowTy 49 32 := ⟨S4.info_BFrame, _, Try.underlying49, rfl⟩
/-- A frame's variable; a backbone frame's. -/
def FrAt (W : World) (b : Nat) (f : S4.Fr) (z : Value) : Prop := RvAt W b 34 (S4.fcs f z)
theorem FrAt.below {W W' : World} {b : Nat} {f : S4.Fr} {z : Value} (h : FrAt W b f z) (hb : Below W.heap.size W W') : FrAt W' b f z := RvAt.below h hb
theorem FrAt.lt {W : World} {b : Nat} {f : S4.Fr} {z : Value} (h : FrAt W b f z) : b < W.heap.size := RvAt.lt h
theorem FrAt.keptBut {W W' : World} {b : Nat} {f : S4.Fr} {z : Value} {row : Option Nat} (h : FrAt W b f z) (hg : W.grownBy W' row) (hn : some b ≠ row) : FrAt W' b f z := RvAt.keptBut h hg hn
theorem FrAt.ld {W : World} {b : Nat} {f : S4.Fr} {z : Value} (h : FrAt W b f z) : (ldS 34 (.pointer (some ⟨b, 0, none⟩))).run Try.prog W = .ok (.agg (S4.fcs f z)) W := RvAt.ld rtF h (S4.fcs_size f z)
theorem FrAt.new (W : World) (f : S4.Fr) (z : Value) : ∃ V, W.alloc (.cells (S4.fcs f z) 34) = V ∧ FrAt V W.heap.size f z ∧ Below W.heap.size W V ∧ V.heap.size = W.heap.size + 1 := ⟨_, rfl, RvAt.new W _ _, (Below.refl _ _).alloc (Nat.le_refl _) _, by simp⟩
theorem FrAt.zero (W : World) : ∃ V, W.alloc (.cells #[.int .u8 0, .int .u8 0, .int .u8 0, .int .u8 0, .int .u8 0, .int .u8 0, .int .u8 0, .int .u8 0, .int .u8 0, .int .u8 0, .int .u8 0, .int .u8 0, .bool false, .int .i64 0, .bool false, .int .i64 0, .slice none 0 0] 34) = V ∧ FrAt V W.heap.size S4.zeroF (.slice none 0 0) ∧ Below W.heap.size W V ∧ V.heap.size = W.heap.size + 1 := FrAt.new W S4.zeroF (.slice none 0 0)
theorem FrAt.st {W : World} {b : Nat} {f : S4.Fr} {z : Value} (h : FrAt W b f z) (g : S4.Fr) (y : Value) (hy : y.oneCell' = true) : ∃ V, (stS 34 (.pointer (some ⟨b, 0, none⟩)) (.agg (S4.fcs g y))).run Try.prog W = .ok () V ∧ FrAt V b g y ∧ W.grownBy V (some b) := ⟨_, RvAt.st rtF h (S4.fcs_size _ _) (S4.fcs_size _ _) (S4.fcs_one g y hy), RvAt.set h, grown_row _ _ _⟩
theorem FrAt.put (W : World) (g : S4.Fr) (y : Value) (hy : y.oneCell' = true) : ∃ V, (stS 34 (.pointer (some ⟨W.heap.size, 0, none⟩)) (.agg (S4.fcs g y))).run Try.prog (W.alloc (.cells #[.int .u8 0, .int .u8 0, .int .u8 0, .int .u8 0, .int .u8 0, .int .u8 0, .int .u8 0, .int .u8 0, .int .u8 0, .int .u8 0, .int .u8 0, .int .u8 0, .bool false, .int .i64 0, .bool false, .int .i64 0, .slice none 0 0] 34)) = .ok () V ∧ FrAt V W.heap.size g y ∧ Below W.heap.size W V ∧ V.heap.size = W.heap.size + 1 := by
  obtain ⟨V, h1, h2, h3, h4⟩ := row_new rtF W (S4.fcs S4.zeroF (.slice none 0 0)) (S4.fcs g y) rfl (S4.fcs_size _ _) (S4.fcs_one g y hy)
  exact ⟨V, h1, h2, h3, h4⟩
theorem zF_agg : (.agg #[.int .u8 0, .int .u8 0, .int .u8 0, .int .u8 0, .int .u8 0, .int .u8 0, .int .u8 0, .int .u8 0, .int .u8 0, .int .u8 0, .int .u8 0, .int .u8 0, .bool false, .int .i64 0, .bool false, .int .i64 0, .slice none 0 0] : Value) = .agg (S4.fcs S4.zeroF (.slice none 0 0)) := rfl
def BfAt (W : World) (b : Nat) (f : S4.Bf) (z : Value) : Prop := RvAt W b 49 (S4.bcs f z)
theorem BfAt.below {W W' : World} {b : Nat} {f : S4.Bf} {z : Value} (h : BfAt W b f z) (hb : Below W.heap.size W W') : BfAt W' b f z := RvAt.below h hb
theorem BfAt.lt {W : World} {b : Nat} {f : S4.Bf} {z : Value} (h : BfAt W b f z) : b < W.heap.size := RvAt.lt h
theorem BfAt.keptBut {W W' : World} {b : Nat} {f : S4.Bf} {z : Value} {row : Option Nat} (h : BfAt W b f z) (hg : W.grownBy W' row) (hn : some b ≠ row) : BfAt W' b f z := RvAt.keptBut h hg hn
theorem BfAt.ld {W : World} {b : Nat} {f : S4.Bf} {z : Value} (h : BfAt W b f z) : (ldS 49 (.pointer (some ⟨b, 0, none⟩))).run Try.prog W = .ok (.agg (S4.bcs f z)) W := RvAt.ld rtG h (S4.bcs_size f z)
theorem BfAt.new (W : World) (f : S4.Bf) (z : Value) : ∃ V, W.alloc (.cells (S4.bcs f z) 49) = V ∧ BfAt V W.heap.size f z ∧ Below W.heap.size W V ∧ V.heap.size = W.heap.size + 1 := ⟨_, rfl, RvAt.new W _ _, (Below.refl _ _).alloc (Nat.le_refl _) _, by simp⟩
theorem BfAt.zero (W : World) : ∃ V, W.alloc (.cells #[.int .u8 0, .int .u8 0, .int .u8 0, .int .u8 0, .int .u8 0, .int .u8 0, .int .u8 0, .int .u8 0, .int .u8 0, .int .u8 0, .int .u8 0, .int .u8 0, .int .i64 0, .bool false, .int .i64 0, .int .i64 0, .bool false, .bool false, .int .i64 0, .int .u8 0, .int .u8 0, .int .u8 0, .int .u8 0, .int .u8 0, .int .u8 0, .int .u8 0, .int .u8 0, .int .u8 0, .int .u8 0, .int .u8 0, .int .u8 0, .slice none 0 0] 49) = V ∧ BfAt V W.heap.size S4.zeroB (.slice none 0 0) ∧ Below W.heap.size W V ∧ V.heap.size = W.heap.size + 1 := BfAt.new W S4.zeroB (.slice none 0 0)
theorem BfAt.st {W : World} {b : Nat} {f : S4.Bf} {z : Value} (h : BfAt W b f z) (g : S4.Bf) (y : Value) (hy : y.oneCell' = true) : ∃ V, (stS 49 (.pointer (some ⟨b, 0, none⟩)) (.agg (S4.bcs g y))).run Try.prog W = .ok () V ∧ BfAt V b g y ∧ W.grownBy V (some b) := ⟨_, RvAt.st rtG h (S4.bcs_size _ _) (S4.bcs_size _ _) (S4.bcs_one g y hy), RvAt.set h, grown_row _ _ _⟩
theorem BfAt.put (W : World) (g : S4.Bf) (y : Value) (hy : y.oneCell' = true) : ∃ V, (stS 49 (.pointer (some ⟨W.heap.size, 0, none⟩)) (.agg (S4.bcs g y))).run Try.prog (W.alloc (.cells #[.int .u8 0, .int .u8 0, .int .u8 0, .int .u8 0, .int .u8 0, .int .u8 0, .int .u8 0, .int .u8 0, .int .u8 0, .int .u8 0, .int .u8 0, .int .u8 0, .int .i64 0, .bool false, .int .i64 0, .int .i64 0, .bool false, .bool false, .int .i64 0, .int .u8 0, .int .u8 0, .int .u8 0, .int .u8 0, .int .u8 0, .int .u8 0, .int .u8 0, .int .u8 0, .int .u8 0, .int .u8 0, .int .u8 0, .int .u8 0, .slice none 0 0] 49)) = .ok () V ∧ BfAt V W.heap.size g y ∧ Below W.heap.size W V ∧ V.heap.size = W.heap.size + 1 := by
  obtain ⟨V, h1, h2, h3, h4⟩ := row_new rtG W (S4.bcs S4.zeroB (.slice none 0 0)) (S4.bcs g y) rfl (S4.bcs_size _ _) (S4.bcs_one g y hy)
  exact ⟨V, h1, h2, h3, h4⟩
theorem zG_agg : (.agg #[.int .u8 0, .int .u8 0, .int .u8 0, .int .u8 0, .int .u8 0, .int .u8 0, .int .u8 0, .int .u8 0, .int .u8 0, .int .u8 0, .int .u8 0, .int .u8 0, .int .i64 0, .bool false, .int .i64 0, .int .i64 0, .bool false, .bool false, .int .i64 0, .int .u8 0, .int .u8 0, .int .u8 0, .int .u8 0, .int .u8 0, .int .u8 0, .int .u8 0, .int .u8 0, .int .u8 0, .int .u8 0, .int .u8 0, .int .u8 0, .slice none 0 0] : Value) = .agg (S4.bcs S4.zeroB (.slice none 0 0)) := rfl
theorem FrAt.da {W : World} {b : Nat} {f : S4.Fr} {z : Value} (h : FrAt W b f z) : (ldS 23 (.pointer (some ⟨b, 0, none⟩))).run Try.prog W = .ok (.agg (mc f.d)) W := S4.FrAt.ldd h
theorem FrAt.c12 {W : World} {b : Nat} {f : S4.Fr} {z : Value} (h : FrAt W b f z) : W.cell? ⟨b, 12, none⟩ = some (.bool f.t) := S4.FrAt.c12 h
theorem FrAt.c15 {W : World} {b : Nat} {f : S4.Fr} {z : Value} (h : FrAt W b f z) : W.cell? ⟨b, 15, none⟩ = some (.int .i64 f.v) := S4.FrAt.c15 h
theorem FrAt.c16 {W : World} {b : Nat} {f : S4.Fr} {z : Value} (h : FrAt W b f z) : W.cell? ⟨b, 16, none⟩ = some z := S4.FrAt.c16 h
theorem BfAt.c18 {W : World} {b : Nat} {f : S4.Bf} {z : Value} (h : BfAt W b f z) : W.cell? ⟨b, 18, none⟩ = some (.int .i64 f.i) := S4.BfAt.c18 h
theorem BfAt.c31 {W : World} {b : Nat} {f : S4.Bf} {z : Value} (h : BfAt W b f z) : W.cell? ⟨b, 31, none⟩ = some z := S4.BfAt.c31 h
theorem FrAt.stR {W : World} {b : Nat} {f : S4.Fr} {z : Value} (h : FrAt W b f z) (y : Value) (hy : y.oneCell' = true) : ∃ V, (stS 30 (.pointer (some ⟨b, 16, none⟩)) y).run Try.prog W = .ok () V ∧ FrAt V b f y ∧ W.grownBy V (some b) := ⟨_, RvAt.st1 h infoSb (by rw [S4.fcs_size]; decide) hy, RvAt.set h, grown_row _ _ _⟩
theorem BfAt.stR {W : World} {b : Nat} {f : S4.Bf} {z : Value} (h : BfAt W b f z) (y : Value) (hy : y.oneCell' = true) : ∃ V, (stS 30 (.pointer (some ⟨b, 31, none⟩)) y).run Try.prog W = .ok () V ∧ BfAt V b f y ∧ W.grownBy V (some b) := ⟨_, RvAt.st1 h infoSb (by rw [S4.bcs_size]; decide) hy, RvAt.set h, grown_row _ _ _⟩
theorem S4.Own.kept {W W' : World} {B g : Nat} {v : Value} {l : List Int} (h : S4.Own W B v l) (hg : W.grownBy W' (some g)) (hl : g < B) : S4.Own W' B v l := h.of_block fun k hk => hg.block k (h.block k hk).2 (by have := (h.block k hk).1; simp; omega)
theorem S4.Own.one {W : World} {B : Nat} {v : Value} {l : List Int} (h : S4.Own W B v l) : v.oneCell' = true := S4.src_one h.src
theorem ret_fw {fn : Func} {k j : Nat} (hr : fn.results = #[.cell k 34, .tmp j]) {R : Ending → World → Prop} {a : Act} {w : World} {b : Nat} {f : S4.Fr} {x e : Value} (hd : a.defers = []) (h2 : a.tmps.getD k undef = .pointer (some ⟨b, 0, none⟩)) (h3 : a.tmps.getD j undef = e) (h : FrAt w b f x) (hR : R (.returned (.tuple #[.agg (S4.fcs f x), e])) w) : bodyPost Try.prog fn R .ret a w :=
  bodyPost_ret (S4.results_two hr _ _ _ _ _ _ h2 h3 h) hd hR
theorem results_bw {fn : Func} {k j : Nat} (hr : fn.results = #[.cell k 49, .tmp j]) (tmps : Array Value) (w : World) (b : Nat) (f : S4.Bf) (x e : Value) (h2 : tmps.getD k undef = .pointer (some ⟨b, 0, none⟩)) (h3 : tmps.getD j undef = e) (h : BfAt w b f x) :
    (results fn tmps).run Try.prog w = .ok (.tuple #[.agg (S4.bcs f x), e]) w := by
  have hl := S4.BfAt.lv h
  have h2' : tmps[k]?.getD undef = .pointer (some ⟨b, 0, none⟩) := by simpa using h2
  have h3' : tmps[j]?.getD undef = e := by simpa using h3
  simp [results, hr, asAddr, hl, h2', h3']
theorem ret_bw {fn : Func} {k j : Nat} (hr : fn.results = #[.cell k 49, .tmp j]) {R : Ending → World → Prop} {a : Act} {w : World} {b : Nat} {f : S4.Bf} {x e : Value} (hd : a.defers = []) (h2 : a.tmps.getD k undef = .pointer (some ⟨b, 0, none⟩)) (h3 : a.tmps.getD j undef = e) (h : BfAt w b f x) (hR : R (.returned (.tuple #[.agg (S4.bcs f x), e])) w) : bodyPost Try.prog fn R .ret a w :=
  bodyPost_ret (results_bw hr _ _ _ _ _ _ h2 h3 h) hd hR
end

section
set_option linter.unusedVariables false
set_option maxRecDepth 4000
set_option linter.unusedSimpArgs false
open Go.RowKit

theorem slU (x : Value) (lo hi mx : Option Value) : Instr.sliceAt 30 x lo hi mx = slS 30 x lo hi mx := rfl
theorem slU_cut (a : Option Addr) (n c m : Nat) (hm : m ≤ n) (hc : n ≤ c) (V : World) : (slS 30 (.slice a n c) none (some (.int .i64 m)) none).run Try.prog V = .ok (.slice a m c) V := by
  have hin : (m : Int) ≤ (c : Int) := by omega
  have hz := Try.sizeOf5
  have hu : Try.prog.underlying 30 = some (.slice 5) := Try.underlying30
  unfold slS
  simp only [Instr.sliceAt, Sem.run_bind, run_underlying hu, Result.andThen_ok]
  simp only [Instr.slice, Sem.run_bind, run_underlying hu, Result.andThen_ok, Instr.sliceBounds, Sem.run_pure]
  rw [run_sliceBound V .i64 (m : Int) c _ (by omega) hin]
  simp only [Result.andThen_ok, Sem.run_pure, hz V, Int.toNat_natCast]
  cases a <;> simp [Addr.add]
theorem src_cut {W : World} {a : Option Addr} {n c : Nat} {l : List Int} (h : S4.Src W (.slice a n c) l) {m : Nat} (hm : m < n) : S4.Src W (.slice a m c) (l.take m) := by
  refine S4.Src.take h m (by omega) fun e => ?_
  obtain ⟨a', c', e2, h2, h3, h4, _⟩ := h
  cases e2
  have := (h4 e).1
  rw [this] at hm
  simp at hm
theorem src_all {W : World} {a : Option Addr} {n c : Nat} {l : List Int} (h : S4.Src W (.slice a n c) l) {m : Nat} (hm : n ≤ m) : l.take m = l := by
  obtain ⟨a', c', e2, h2, _⟩ := h
  cases e2
  exact List.take_of_length_le hm
theorem results_bf {fn : Func} {k : Nat} (hr : fn.results = #[.cell k 49]) (tmps : Array Value) (w : World) (b : Nat) (f : S4.Bf) (x : Value) (h2 : tmps.getD k undef = .pointer (some ⟨b, 0, none⟩)) (h : BfAt w b f x) :
    (results fn tmps).run Try.prog w = .ok (.agg (S4.bcs f x)) w := by
  have hl := S4.BfAt.lv h
  have h2' : tmps[k]?.getD undef = .pointer (some ⟨b, 0, none⟩) := by simpa using h2
  simp [results, hr, asAddr, hl, h2']
attribute [local go_sem ↓] ldFr stFr ldBf stBf stSb slU
set_option maxHeartbeats 2000000 in
theorem fewf_any (f : S4.Fr) (z : Value) (l : List Int) (w0 w : World) (h : S4.Src w0 z l) (hb0 : Below w0.heap.size w0 w) :
    Calls Try.prog 9 #[.agg (S4.fcs f z)] w fun r w' => (∃ s, r = .returned (.agg (S4.fcs f s)) ∧ S4.Src w0 s (l.take 1510) ∧ ∃ a n c a' n' c', z = .slice a n c ∧ s = .slice a' n' c' ∧ (n ≤ 8 → s = z)) ∧ Below w.heap.size w w' := by
  obtain ⟨a, n, c, rfl⟩ := S4.src_form h
  obtain ⟨hn, hc, hm⟩ := S4.src_short h
  obtain ⟨W1, hW1, r1, b1, z1⟩ := FrAt.new w f (.slice a n c)
  obtain ⟨V, hV, r2, b2, z2⟩ := FrAt.zero W1
  have H : Hid (FrAt V w.heap.size f (.slice a n c) ∧ FrAt V W1.heap.size S4.zeroF (.slice none 0 0) ∧ Below w.heap.size w V ∧ w.heap.size < W1.heap.size) := ⟨r1.below b2, r2, below_over b1 b2, by omega⟩
  have c1 := (r1.below b2).c16
  have l1 := (r1.below b2).ld
  have HS : Hid (S4.Src w0 (.slice a n c) l) := h
  have hn9 : (n : Int) ≤ 9223372036854775807 := by unfold maxLen at hm; omega
  have HC : Hid (n ≤ c) := hc
  clear h hb0 hn hm hc r1 r2 b1 b2 z1 z2
  by_cases hN : 1510 < n
  · have d1 : decide ((n : Int) > 1510) = true := by simp; omega
    have d2 : decide ((1510 : Int) < (n : Int)) = true := by simp; omega
    have s1 : ∀ Z : World, (slS 30 (.slice a n c) none (some (.int .i64 1510)) none).run Try.prog Z = .ok (.slice a 1510 c) Z := slU_cut a n c 1510 (by omega) HC.out
    obtain ⟨U, sU, mU, gU⟩ := H.out.1.stR (.slice a 1510 c) rfl
    have l2 := mU.ld
    obtain ⟨Z, sZ, mZ, gZ⟩ := (H.out.2.1.keptBut gU (by have := H.out.2.2.2; simp; omega)).st f (.slice a 1510 c) rfl
    have G : Hid (FrAt Z W1.heap.size f (.slice a 1510 c) ∧ Below w.heap.size w Z ∧ S4.Src w0 (.slice a 1510 c) (l.take 1510)) := by
      have bU := gro H.out.2.2.1 gU (Nat.le_refl _) H.out.2.2.1.size
      exact ⟨mZ, gro bU gZ (by have := H.out.2.2.2; omega) bU.size, src_cut HS.out hN⟩
    have HE : Hid (n ≤ 8 → Value.slice a 1510 c = Value.slice a n c) := fun h8 => by omega
    clear mU gU mZ gZ hN l1
    go_enter Try.func9, Try.ntmps9
    go_wp2
    refine bodyPost_ret (S4.results_one Try.results9 _ _ _ _ _ rfl G.out.1) rfl ?_
    exact ⟨⟨_, rfl, G.out.2.2, _, _, _, _, _, _, rfl, rfl, HE.out⟩, G.out.2.1⟩
  · have d1 : decide ((n : Int) > 1510) = false := by simp; omega
    have d2 : decide ((1510 : Int) < (n : Int)) = false := by simp; omega
    obtain ⟨Z, sZ, mZ, gZ⟩ := H.out.2.1.st f (.slice a n c) rfl
    have G : Hid (FrAt Z W1.heap.size f (.slice a n c) ∧ Below w.heap.size w Z ∧ S4.Src w0 (.slice a n c) (l.take 1510)) := ⟨mZ, gro H.out.2.2.1 gZ (by have := H.out.2.2.2; omega) H.out.2.2.1.size, by rw [src_all HS.out (by omega)]; exact HS.out⟩
    clear mZ gZ hN
    
    go_enter Try.func9, Try.ntmps9
    go_wp2
    refine bodyPost_ret (S4.results_one Try.results9 _ _ _ _ _ rfl G.out.1) rfl ?_
    exact ⟨⟨_, rfl, G.out.2.2, _, _, _, _, _, _, rfl, rfl, fun _ => rfl⟩, G.out.2.1⟩
set_option maxHeartbeats 2000000 in
theorem fewb_any (f : S4.Bf) (z : Value) (l : List Int) (w0 w : World) (h : S4.Src w0 z l) (hb0 : Below w0.heap.size w0 w) :
    Calls Try.prog 27 #[.agg (S4.bcs f z)] w fun r w' => (∃ s, r = .returned (.agg (S4.bcs f s)) ∧ S4.Src w0 s (l.take 1510) ∧ ∃ a n c a' n' c', z = .slice a n c ∧ s = .slice a' n' c' ∧ (n ≤ 8 → s = z)) ∧ Below w.heap.size w w' := by
  obtain ⟨a, n, c, rfl⟩ := S4.src_form h
  obtain ⟨hn, hc, hm⟩ := S4.src_short h
  obtain ⟨W1, hW1, r1, b1, z1⟩ := BfAt.new w f (.slice a n c)
  obtain ⟨V, hV, r2, b2, z2⟩ := BfAt.zero W1
  have H : Hid (BfAt V w.heap.size f (.slice a n c) ∧ BfAt V W1.heap.size S4.zeroB (.slice none 0 0) ∧ Below w.heap.size w V ∧ w.heap.size < W1.heap.size) := ⟨r1.below b2, r2, below_over b1 b2, by omega⟩
  have c1 := (r1.below b2).c31
  have l1 := (r1.below b2).ld
  have HS : Hid (S4.Src w0 (.slice a n c) l) := h
  have hn9 : (n : Int) ≤ 9223372036854775807 := by unfold maxLen at hm; omega
  have HC : Hid (n ≤ c) := hc
  clear h hb0 hn hm hc r1 r2 b1 b2 z1 z2
  by_cases hN : 1510 < n
  · have d1 : decide ((n : Int) > 1510) = true := by simp; omega
    have d2 : decide ((1510 : Int) < (n : Int)) = true := by simp; omega
    have s1 : ∀ Z : World, (slS 30 (.slice a n c) none (some (.int .i64 1510)) none).run Try.prog Z = .ok (.slice a 1510 c) Z := slU_cut a n c 1510 (by omega) HC.out
    obtain ⟨U, sU, mU, gU⟩ := H.out.1.stR (.slice a 1510 c) rfl
    have l2 := mU.ld
    obtain ⟨Z, sZ, mZ, gZ⟩ := (H.out.2.1.keptBut gU (by have := H.out.2.2.2; simp; omega)).st f (.slice a 1510 c) rfl
    have G : Hid (BfAt Z W1.heap.size f (.slice a 1510 c) ∧ Below w.heap.size w Z ∧ S4.Src w0 (.slice a 1510 c) (l.take 1510)) := by
      have bU := gro H.out.2.2.1 gU (Nat.le_refl _) H.out.2.2.1.size
      exact ⟨mZ, gro bU gZ (by have := H.out.2.2.2; omega) bU.size, src_cut HS.out hN⟩
    have HE : Hid (n ≤ 8 → Value.slice a 1510 c = Value.slice a n c) := fun h8 => by omega
    clear mU gU mZ gZ hN l1
    go_enter Try.func27, Try.ntmps27
    go_wp2
    refine bodyPost_ret (results_bf Try.results27 _ _ _ _ _ rfl G.out.1) rfl ?_
    exact ⟨⟨_, rfl, G.out.2.2, _, _, _, _, _, _, rfl, rfl, HE.out⟩, G.out.2.1⟩
  · have d1 : decide ((n : Int) > 1510) = false := by simp; omega
    have d2 : decide ((1510 : Int) < (n : Int)) = false := by simp; omega
    obtain ⟨Z, sZ, mZ, gZ⟩ := H.out.2.1.st f (.slice a n c) rfl
    have G : Hid (BfAt Z W1.heap.size f (.slice a n c) ∧ Below w.heap.size w Z ∧ S4.Src w0 (.slice a n c) (l.take 1510)) := ⟨mZ, gro H.out.2.2.1 gZ (by have := H.out.2.2.2; omega) H.out.2.2.1.size, by rw [src_all HS.out (by omega)]; exact HS.out⟩
    clear mZ gZ hN
    
    go_enter Try.func27, Try.ntmps27
    go_wp2
    refine bodyPost_ret (results_bf Try.results27 _ _ _ _ _ rfl G.out.1) rfl ?_
    exact ⟨⟨_, rfl, G.out.2.2, _, _, _, _, _, _, rfl, rfl, fun _ => rfl⟩, G.out.2.1⟩
end

end Go.Proofs.Ytgjagedngdhdaaa
