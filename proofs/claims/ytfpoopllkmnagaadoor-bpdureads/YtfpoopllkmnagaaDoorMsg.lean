/-
  Messages in memory: as values, in a variable, loaded and stored; the table of roles; what stays. Plain laws over the program's types.
-/
import Derived.Test.YtfpoopllkmnagaaDoorKind
namespace Go.Proofs.YtfpoopllkmnagaaDoor
set_option linter.unusedVariables false
set_option maxRecDepth 4000
set_option linter.unusedSimpArgs false
open Go.RowKit

/-- A message. -/
structure Bp where
  k : Int
  tc : Bool
  ak : Bool
  pr : Bool
  le : Bool
  fo : Bool
  ag : Bool
  ro : Int
  rt : Nat
  co : Nat
  br : Nat
  po : Nat
  a : Nat
  x : Nat
  h : Nat
  d : Nat
/-- Its cells. -/
def Bp.cs (m : Bp) : Array Value := #[.int .i64 m.k, .bool m.tc, .bool m.ak, .bool m.pr, .bool m.le, .bool m.fo, .bool m.ag, .int .i64 m.ro, .int .u64 m.rt, .int .u32 m.co, .int .u64 m.br, .int .u16 m.po, .int .u8 m.a, .int .u8 m.x, .int .u8 m.h, .int .u8 m.d]
/-- Its numbers fit. -/
structure Bp.wf (m : Bp) : Prop where
  rt : m.rt < 18446744073709551616
  co : m.co < 4294967296
  br : m.br < 18446744073709551616
  po : m.po < 65536
  a : m.a < 256
  x : m.x < 256
  h : m.h < 256
  d : m.d < 256
/-- A message of which only the kind is told; of zeros. -/
def kP (k : Int) : Bp := ⟨k, false, false, false, false, false, false, 0, 0, 0, 0, 0, 0, 0, 0, 0⟩
def zeroP : Bp := kP 0
theorem kP_wf (k : Int) : (kP k).wf := ⟨by simp [kP], by simp [kP], by simp [kP], by simp [kP], by simp [kP], by simp [kP], by simp [kP], by simp [kP]⟩
theorem zeroP_wf : zeroP.wf := kP_wf 0

theorem Bp.size (m : Bp) : m.cs.size = 16 := rfl
theorem Bp.one (m : Bp) : ∀ v ∈ m.cs.toList, v.oneCell' = true := by
  intro v hv
  simp only [Bp.cs, List.mem_cons, List.not_mem_nil, or_false] at hv
  rcases hv with rfl | rfl | rfl | rfl | rfl | rfl | rfl | rfl | rfl | rfl | rfl | rfl | rfl | rfl | rfl | rfl <;> rfl
theorem M6.one (m : M6) : ∀ v ∈ (#[.int .u8 m.a, .int .u8 m.b, .int .u8 m.c, .int .u8 m.d, .int .u8 m.e, .int .u8 m.f] : Array Value).toList, v.oneCell' = true := by
  intro v hv
  simp only [List.mem_cons, List.not_mem_nil, or_false] at hv
  rcases hv with rfl | rfl | rfl | rfl | rfl | rfl <;> rfl
/-- An address's cells. -/
def M6.cs (m : M6) : Array Value := #[.int .u8 m.a, .int .u8 m.b, .int .u8 m.c, .int .u8 m.d, .int .u8 m.e, .int .u8 m.f]
theorem M6.size (m : M6) : m.cs.size = 6 := rfl
/-- Its class. -/
def M6.kd (m : M6) : Int := kindOf m.a m.b m.c m.d m.e m.f
def zeroM : M6 := ⟨0, 0, 0, 0, 0, 0⟩

theorem info32 : (Tryd.prog.info? 32).map (·.size) = some 16 := by kernel_rfl
theorem info49 : (Tryd.prog.info? 49).map (·.size) = some 6 := by kernel_rfl
theorem info28 : (Tryd.prog.info? 28).map (·.size) = some 4 := by kernel_rfl
theorem info30 : (Tryd.prog.info? 30).map (·.size) = some 4 := by kernel_rfl
theorem info83 : (Tryd.prog.info? 83).map (·.size) = some 4 := by kernel_rfl
theorem rt32 : RowTy 32 16 := ⟨info32, _, Tryd.underlying32, rfl⟩
theorem rt49 : RowTy 49 6 := ⟨info49, _, Tryd.underlying49, rfl⟩
theorem rt28 : RowTy 28 4 := ⟨info28, _, Tryd.underlying28, rfl⟩
theorem rt30 : RowTy 30 4 := ⟨info30, _, Tryd.underlying30, rfl⟩
theorem rt83 : RowTy 83 4 := ⟨info83, _, Tryd.underlying83, rfl⟩
theorem ldS32 (x : Value) : Instr.loadAt 32 x = ldS 32 x := rfl
theorem ldS49 (x : Value) : Instr.loadAt 49 x = ldS 49 x := rfl
theorem ldS28 (x : Value) : Instr.loadAt 28 x = ldS 28 x := rfl
theorem ldS30 (x : Value) : Instr.loadAt 30 x = ldS 30 x := rfl
theorem ldS83 (x : Value) : Instr.loadAt 83 x = ldS 83 x := rfl
theorem stS32 (x y : Value) : Instr.storeAt 32 x y = stS 32 x y := rfl
theorem stS49 (x y : Value) : Instr.storeAt 49 x y = stS 49 x y := rfl
theorem stS28 (x y : Value) : Instr.storeAt 28 x y = stS 28 x y := rfl
theorem stS30 (x y : Value) : Instr.storeAt 30 x y = stS 30 x y := rfl

/-- Block b is a message's variable. -/
def PvAt (W : World) (b : Nat) (m : Bp) : Prop := RvAt W b 32 m.cs
theorem PvAt.new (w : World) (m : Bp) : PvAt (w.alloc (.cells m.cs 32)) w.heap.size m := alloc_at w _
theorem PvAt.lt {W : World} {b : Nat} {m : Bp} (h : PvAt W b m) : b < W.heap.size := RvAt.lt h
theorem PvAt.below {W W' : World} {b : Nat} {m : Bp} (h : PvAt W b m) (hb : Below W.heap.size W W') : PvAt W' b m := RvAt.below h hb
theorem PvAt.ld {W : World} {b : Nat} {m : Bp} (h : PvAt W b m) : (ldS 32 (.pointer (some ⟨b, 0, none⟩))).run Tryd.prog W = .ok (.agg m.cs) W := RvAt.ld rt32 h rfl
theorem PvAt.c {W : World} {b : Nat} {m : Bp} (h : PvAt W b m) (k : Nat) (v : Value) (hk : m.cs[k]? = some v) : W.cell? ⟨b, k, none⟩ = some v := cell_at h k v hk
theorem PvAt.c0 {W : World} {b : Nat} {m : Bp} (h : PvAt W b m) : W.cell? ⟨b, 0, none⟩ = some (.int .i64 m.k) := h.c 0 _ rfl
theorem PvAt.c1 {W : World} {b : Nat} {m : Bp} (h : PvAt W b m) : W.cell? ⟨b, 1, none⟩ = some (.bool m.tc) := h.c 1 _ rfl
theorem PvAt.c2 {W : World} {b : Nat} {m : Bp} (h : PvAt W b m) : W.cell? ⟨b, 2, none⟩ = some (.bool m.ak) := h.c 2 _ rfl
theorem PvAt.c3 {W : World} {b : Nat} {m : Bp} (h : PvAt W b m) : W.cell? ⟨b, 3, none⟩ = some (.bool m.pr) := h.c 3 _ rfl
theorem PvAt.c4 {W : World} {b : Nat} {m : Bp} (h : PvAt W b m) : W.cell? ⟨b, 4, none⟩ = some (.bool m.le) := h.c 4 _ rfl
theorem PvAt.c5 {W : World} {b : Nat} {m : Bp} (h : PvAt W b m) : W.cell? ⟨b, 5, none⟩ = some (.bool m.fo) := h.c 5 _ rfl
theorem PvAt.c6 {W : World} {b : Nat} {m : Bp} (h : PvAt W b m) : W.cell? ⟨b, 6, none⟩ = some (.bool m.ag) := h.c 6 _ rfl
theorem PvAt.c7 {W : World} {b : Nat} {m : Bp} (h : PvAt W b m) : W.cell? ⟨b, 7, none⟩ = some (.int .i64 m.ro) := h.c 7 _ rfl
theorem PvAt.c8 {W : World} {b : Nat} {m : Bp} (h : PvAt W b m) : W.cell? ⟨b, 8, none⟩ = some (.int .u64 m.rt) := h.c 8 _ rfl
theorem PvAt.c9 {W : World} {b : Nat} {m : Bp} (h : PvAt W b m) : W.cell? ⟨b, 9, none⟩ = some (.int .u32 m.co) := h.c 9 _ rfl
theorem PvAt.c10 {W : World} {b : Nat} {m : Bp} (h : PvAt W b m) : W.cell? ⟨b, 10, none⟩ = some (.int .u64 m.br) := h.c 10 _ rfl
theorem PvAt.c11 {W : World} {b : Nat} {m : Bp} (h : PvAt W b m) : W.cell? ⟨b, 11, none⟩ = some (.int .u16 m.po) := h.c 11 _ rfl
theorem PvAt.c12 {W : World} {b : Nat} {m : Bp} (h : PvAt W b m) : W.cell? ⟨b, 12, none⟩ = some (.int .u8 m.a) := h.c 12 _ rfl
theorem PvAt.c13 {W : World} {b : Nat} {m : Bp} (h : PvAt W b m) : W.cell? ⟨b, 13, none⟩ = some (.int .u8 m.x) := h.c 13 _ rfl
theorem PvAt.c14 {W : World} {b : Nat} {m : Bp} (h : PvAt W b m) : W.cell? ⟨b, 14, none⟩ = some (.int .u8 m.h) := h.c 14 _ rfl
theorem PvAt.c15 {W : World} {b : Nat} {m : Bp} (h : PvAt W b m) : W.cell? ⟨b, 15, none⟩ = some (.int .u8 m.d) := h.c 15 _ rfl
theorem PvAt.live {W : World} {b : Nat} {m : Bp} (h : PvAt W b m) (o : Nat) : W.frozen? ⟨b, o, none⟩ = false := by
  unfold PvAt RvAt at h
  simp [World.frozen?, h]
/-- A message's vector and times. -/
def Bp.vv (m : Bp) : Value := .agg #[.int .u64 m.rt, .int .u32 m.co, .int .u64 m.br, .int .u16 m.po]
def Bp.tv (m : Bp) : Value := .agg #[.int .u8 m.a, .int .u8 m.x, .int .u8 m.h, .int .u8 m.d]
theorem PvAt.ldv {W : World} {b : Nat} {m : Bp} (h : PvAt W b m) : (ldS 28 (.pointer (some ⟨b, 8, none⟩))).run Tryd.prog W = .ok m.vv W := by
  have hr := World.rangeAt_of_block h 8 4
  exact run_loadAt_mid W b 8 28 _ _ hr Tryd.underlying28 rfl info28
theorem PvAt.ldt {W : World} {b : Nat} {m : Bp} (h : PvAt W b m) : (ldS 30 (.pointer (some ⟨b, 12, none⟩))).run Tryd.prog W = .ok m.tv W := by
  have hr := World.rangeAt_of_block h 12 4
  exact run_loadAt_mid W b 12 30 _ _ hr Tryd.underlying30 rfl info30
theorem PvAt.st {W : World} {b : Nat} {m n : Bp} (h : PvAt W b m) : (stS 32 (.pointer (some ⟨b, 0, none⟩)) (.agg n.cs)).run Tryd.prog W = .ok () (W.setRow b n.cs) := RvAt.st rt32 h rfl rfl n.one
theorem PvAt.set {W : World} {b : Nat} {m n : Bp} (h : PvAt W b m) : PvAt (W.setRow b n.cs) b n := RvAt.set h
theorem PvAt.stk {W : World} {b : Nat} {m : Bp} (h : PvAt W b m) (k : Int) : (stS 32 (.pointer (some ⟨b, 0, none⟩)) (.agg #[.int .i64 k, .bool false, .bool false, .bool false, .bool false, .bool false, .bool false, .int .i64 0, .int .u64 0, .int .u32 0, .int .u64 0, .int .u16 0, .int .u8 0, .int .u8 0, .int .u8 0, .int .u8 0])).run Tryd.prog W = .ok () (W.setRow b (kP k).cs) := h.st (n := kP k)

/-- Block b is an address's variable. -/
def MvAt (W : World) (b : Nat) (m : M6) : Prop := RvAt W b 49 m.cs
theorem MvAt.new (w : World) (m : M6) : MvAt (w.alloc (.cells m.cs 49)) w.heap.size m := alloc_at w _
theorem MvAt.lt {W : World} {b : Nat} {m : M6} (h : MvAt W b m) : b < W.heap.size := RvAt.lt h
theorem MvAt.below {W W' : World} {b : Nat} {m : M6} (h : MvAt W b m) (hb : Below W.heap.size W W') : MvAt W' b m := RvAt.below h hb
theorem MvAt.ld {W : World} {b : Nat} {m : M6} (h : MvAt W b m) : (ldS 49 (.pointer (some ⟨b, 0, none⟩))).run Tryd.prog W = .ok m.v W := RvAt.ld rt49 h rfl
theorem MvAt.st {W : World} {b : Nat} {m n : M6} (h : MvAt W b m) : (stS 49 (.pointer (some ⟨b, 0, none⟩)) n.v).run Tryd.prog W = .ok () (W.setRow b n.cs) := RvAt.st rt49 h rfl rfl n.one
theorem MvAt.stz {W : World} {b : Nat} {m : M6} (h : MvAt W b m) : (stS 49 (.pointer (some ⟨b, 0, none⟩)) (.agg #[.int .u8 0, .int .u8 0, .int .u8 0, .int .u8 0, .int .u8 0, .int .u8 0])).run Tryd.prog W = .ok () (W.setRow b zeroM.cs) := h.st (n := zeroM)
theorem MvAt.set {W : World} {b : Nat} {m n : M6} (h : MvAt W b m) : MvAt (W.setRow b n.cs) b n := RvAt.set h

/-- The table of roles. -/
def rolesC : Array Value := #[.int .i64 0, .int .i64 1, .int .i64 3, .int .i64 4]
/-- The world has it. -/
def Rl (W : World) : Prop := ∃ t fr, W.heap[0]? = some (.cells rolesC t fr)
theorem Rl.lt {W : World} (h : Rl W) : 0 < W.heap.size := by obtain ⟨_, _, h⟩ := h; exact lt_of_block h
theorem Rl.below {W W' : World} {B : Nat} (h : Rl W) (hb : Below B W W') (hB : 0 < B) : Rl W' := by
  obtain ⟨t, fr, h⟩ := h
  exact ⟨t, fr, (hb.block 0 hB).trans h⟩
theorem Rl.ld {W : World} (h : Rl W) : (ldS 83 (.pointer (some ⟨0, 0, none⟩))).run Tryd.prog W = .ok (.agg rolesC) W := by
  obtain ⟨t, fr, h⟩ := h
  have hl := run_loadVar_row (P := Tryd.prog) W 0 t 83 rolesC fr _ h Tryd.underlying83 rfl info83
  unfold ldS
  simp only [Instr.loadAt, Instr.sureAddr, Sem.run_bind, Sem.run_pure, Result.andThen_ok, hl]
theorem Rl.cell {W : World} (h : Rl W) (k : Nat) (v : Value) (hk : rolesC[k]? = some v) : W.cell? ⟨0, k, none⟩ = some v := by
  obtain ⟨t, fr, h⟩ := h
  simp [World.cell?, h, hk]

/-- W' is W but for blocks of S, and for what is new. -/
structure Ch (S : Nat → Prop) (w w' : World) : Prop where
  os : w'.os = w.os
  tape : w'.tape = w.tape
  output : w'.output = w.output
  size : w.heap.size ≤ w'.heap.size
  block : ∀ i, i < w.heap.size → ¬ S i → w'.heap[i]? = w.heap[i]?
theorem Ch.refl (S : Nat → Prop) (w : World) : Ch S w w := ⟨rfl, rfl, rfl, Nat.le_refl _, fun _ _ _ => rfl⟩
theorem Ch.trans {S : Nat → Prop} {w w1 w2 : World} (h : Ch S w w1) (k : Ch S w1 w2) : Ch S w w2 :=
  ⟨k.os.trans h.os, k.tape.trans h.tape, k.output.trans h.output, Nat.le_trans h.size k.size, fun i hi hs => (k.block i (Nat.lt_of_lt_of_le hi h.size) hs).trans (h.block i hi hs)⟩
theorem Ch.wide {S T : Nat → Prop} {w w' : World} (h : Ch S w w') (k : ∀ i, i < w.heap.size → S i → T i) : Ch T w w' := ⟨h.os, h.tape, h.output, h.size, fun i hi hs => h.block i hi fun hS => hs (k i hi hS)⟩
theorem Ch.of {S : Nat → Prop} {w w' : World} (h : Below w.heap.size w w') : Ch S w w' := ⟨h.os, h.tape, h.output, h.size, fun i hi _ => h.block i hi⟩
theorem Ch.below {S : Nat → Prop} {w w' : World} {B : Nat} (h : Ch S w w') (hB : B ≤ w.heap.size) (k : ∀ i, i < w.heap.size → S i → B ≤ i) : Below B w w' :=
  ⟨h.os, h.tape, h.output, h.size, fun i hi => h.block i (by omega) fun hs => by have := k i (by omega) hs; omega⟩
theorem Ch.setCell {S : Nat → Prop} {w w' : World} (h : Ch S w w') (a : Addr) (v : Value) (ha : a.block < w.heap.size → S a.block) : Ch S w (w'.setCell a v) :=
  ⟨h.os, h.tape, h.output, by simpa using h.size, fun i hi hs => by
    rw [heap_setCell_other _ _ _ _ (by intro e; subst e; exact hs (ha hi))]
    exact h.block i hi hs⟩
theorem Ch.dn {S : Nat → Prop} {w w' : World} (h : Ch S w w') (n : Nat) : Ch S w (w'.drewN n) := ⟨h.os, h.tape, h.output, h.size, h.block⟩
theorem Ch.drew {S : Nat → Prop} {w w' : World} (h : Ch S w w') : Ch S w w'.drew := ⟨h.os, h.tape, h.output, h.size, h.block⟩
theorem Ch.pv {S : Nat → Prop} {w w' : World} {b : Nat} {m : Bp} (h : Ch S w w') (p : PvAt w b m) (hs : ¬ S b) : PvAt w' b m := (h.block b p.lt hs).trans p
theorem Ch.mv {S : Nat → Prop} {w w' : World} {b : Nat} {m : M6} (h : Ch S w w') (p : MvAt w b m) (hs : ¬ S b) : MvAt w' b m := (h.block b p.lt hs).trans p
theorem Ch.rl {S : Nat → Prop} {w w' : World} (h : Ch S w w') (p : Rl w) (hs : ¬ S 0) : Rl w' := by
  have hl := p.lt
  obtain ⟨t, fr, p⟩ := p
  exact ⟨t, fr, (h.block 0 hl hs).trans p⟩
theorem Ch.cell {S : Nat → Prop} {w w' : World} (h : Ch S w w') (b o : Nat) (hb : b < w.heap.size) (hs : ¬ S b) : w'.cell? ⟨b, o, none⟩ = w.cell? ⟨b, o, none⟩ := World.cell?_of_block (w := w) (h.block b hb hs)

/-- What a call answers: a row's variable and a slot; two rows' and a slot. -/
theorem results_row2 {fn : Func} {k j n : Nat} {ty : TypeId} (t : RowTy ty n) (hr : fn.results = #[.cell k ty, .tmp j]) (tmps : Array Value) (w : World) (b : Nat) (cs : Array Value) (e : Value) (h2 : tmps.getD k undef = .pointer (some ⟨b, 0, none⟩)) (h3 : tmps.getD j undef = e) (h : RvAt w b ty cs) (hn : cs.size = n) :
    (results fn tmps).run Tryd.prog w = .ok (.tuple #[.agg cs, e]) w := by
  have hl := h.lv t hn
  have h2' : tmps[k]?.getD undef = .pointer (some ⟨b, 0, none⟩) := by simpa using h2
  have h3' : tmps[j]?.getD undef = e := by simpa using h3
  simp [results, hr, asAddr, hl, h2', h3']
theorem results_row3 {fn : Func} {k k' j n n' : Nat} {ty ty' : TypeId} (t : RowTy ty n) (t' : RowTy ty' n') (hr : fn.results = #[.cell k ty, .cell k' ty', .tmp j]) (tmps : Array Value) (w : World) (b b' : Nat) (cs cs' : Array Value) (e : Value) (h2 : tmps.getD k undef = .pointer (some ⟨b, 0, none⟩)) (h4 : tmps.getD k' undef = .pointer (some ⟨b', 0, none⟩)) (h3 : tmps.getD j undef = e) (h : RvAt w b ty cs) (hn : cs.size = n) (h' : RvAt w b' ty' cs') (hn' : cs'.size = n') :
    (results fn tmps).run Tryd.prog w = .ok (.tuple #[.agg cs, .agg cs', e]) w := by
  have hl := h.lv t hn
  have hl' := h'.lv t' hn'
  have h2' : tmps[k]?.getD undef = .pointer (some ⟨b, 0, none⟩) := by simpa using h2
  have h4' : tmps[k']?.getD undef = .pointer (some ⟨b', 0, none⟩) := by simpa using h4
  have h3' : tmps[j]?.getD undef = e := by simpa using h3
  simp [results, hr, asAddr, hl, hl', h2', h3', h4']
end Go.Proofs.YtfpoopllkmnagaaDoor
