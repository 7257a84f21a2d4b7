/-
  What is provisioned, as it lies in memory: its rows, its variable; loads, stores, appends, sealed. Plain laws over the program's types.
-/
import Derived.Test.YtcejfkkhmlebdaaSq
import Derived.Test.YtcejfkkhmlebdaaTail
namespace Go.Proofs.Ytcejfkkhmlebdaa
set_option linter.unusedVariables false
set_option maxRecDepth 4000
set_option linter.unusedSimpArgs false
open Go.RowKit

/-- A customer's VLAN at a port, and its service. -/
structure Mp where
  p : Int
  v : Int
  s : Int
def Mp.cs (x : Mp) : Array Value := #[.int .i64 x.p, .int .i64 x.v, .int .i64 x.s]
/-- A service, and its backbone VLAN. -/
structure Cr where
  s : Int
  v : Int
def Cr.cs (x : Cr) : Array Value := #[.int .i64 x.s, .int .i64 x.v]
/-- A backbone VLAN, and its ports. -/
structure Mb where
  v : Int
  ps : List Int
/-- .. as it lies in memory. -/
structure Mr where
  v : Int
  a : Option Addr
  n : Nat
  c : Nat
def Mr.cs (x : Mr) : Array Value := #[.int .i64 x.v, .slice x.a x.n x.c]
def eI : El Int := ⟨fun n => #[.int .i64 n], 3, 59, 1, 8⟩
def eK : El Int := ⟨fun n => #[.int .i64 n], 91, 43, 1, 8⟩
def eM : El Mp := ⟨Mp.cs, 100, 44, 3, 24⟩
def eC : El Cr := ⟨Cr.cs, 70, 45, 2, 16⟩
def eB : El Mr := ⟨Mr.cs, 68, 46, 2, 32⟩
theorem one_of {l : List Value} (h : l.all (fun v => v.oneCell') = true) : ∀ v ∈ l, v.oneCell' = true := fun v hv => List.all_eq_true.1 h v hv
theorem kI : eI.Ok := ⟨fun _ => rfl, by decide, fun _ => one_of rfl, Try.underlying59, ⟨.int .i64 0, by kernel_rfl, rfl⟩, by decide⟩
theorem kK : eK.Ok := ⟨fun _ => rfl, by decide, fun _ => one_of rfl, Try.underlying43, ⟨.int .i64 0, by kernel_rfl, rfl⟩, by decide⟩
theorem kM : eM.Ok := ⟨fun _ => rfl, by decide, fun _ => one_of rfl, Try.underlying44, ⟨.agg (Mp.cs ⟨0, 0, 0⟩), by kernel_rfl, rfl⟩, by decide⟩
theorem kC : eC.Ok := ⟨fun _ => rfl, by decide, fun _ => one_of rfl, Try.underlying45, ⟨.agg (Cr.cs ⟨0, 0⟩), by kernel_rfl, rfl⟩, by decide⟩
theorem kB : eB.Ok := ⟨fun _ => rfl, by decide, fun _ => one_of rfl, Try.underlying46, ⟨.agg (Mr.cs ⟨0, none, 0, 0⟩), by kernel_rfl, rfl⟩, by decide⟩
theorem infoM : (Try.prog.info? 100).map (·.size) = some 3 := by kernel_rfl
theorem infoC : (Try.prog.info? 70).map (·.size) = some 2 := by kernel_rfl
theorem infoB : (Try.prog.info? 68).map (·.size) = some 2 := by kernel_rfl
theorem infoP : (Try.prog.info? 48).map (·.size) = some 10 := by kernel_rfl
theorem infoI : (Try.prog.info? 3).map (·.size) = some 1 := by kernel_rfl
theorem infoIs : (Try.prog.info? 59).map (·.size) = some 1 := by kernel_rfl
theorem infoKs : (Try.prog.info? 43).map (·.size) = some 1 := by kernel_rfl
theorem infoMs : (Try.prog.info? 44).map (·.size) = some 1 := by kernel_rfl
theorem infoCs : (Try.prog.info? 45).map (·.size) = some 1 := by kernel_rfl
theorem infoBs : (Try.prog.info? 46).map (·.size) = some 1 := by kernel_rfl
theorem rtM : RowTy 100 3 := ⟨infoM, _, Try.underlying100, rfl⟩
theorem rtC : RowTy 70 2 := ⟨infoC, _, Try.underlying70, rfl⟩
theorem rtB : RowTy 68 2 := ⟨infoB, _, Try.underlying68, rfl⟩
theorem rtP : RowTy 48 10 := ⟨infoP, _, Try.underlying48, rfl⟩
/-! ### sealed -/
theorem ldM (x : Value) : Instr.loadAt 100 x = ldS 100 x := rfl
theorem stM (x y : Value) : Instr.storeAt 100 x y = stS 100 x y := rfl
theorem ldC (x : Value) : Instr.loadAt 70 x = ldS 70 x := rfl
theorem stC (x y : Value) : Instr.storeAt 70 x y = stS 70 x y := rfl
theorem ldB (x : Value) : Instr.loadAt 68 x = ldS 68 x := rfl
theorem stB (x y : Value) : Instr.storeAt 68 x y = stS 68 x y := rfl
theorem ldP (x : Value) : Instr.loadAt 48 x = ldS 48 x := rfl
theorem stP (x y : Value) : Instr.storeAt 48 x y = stS 48 x y := rfl
theorem stIs (x y : Value) : Instr.storeAt 59 x y = stS 59 x y := rfl
theorem stKs (x y : Value) : Instr.storeAt 43 x y = stS 43 x y := rfl
theorem stMs (x y : Value) : Instr.storeAt 44 x y = stS 44 x y := rfl
theorem stCs (x y : Value) : Instr.storeAt 45 x y = stS 45 x y := rfl
theorem stBs (x y : Value) : Instr.storeAt 46 x y = stS 46 x y := rfl
theorem apI (ty : TypeId) (xs : Array Value) : Builtin.append_ #[59, 59] ty xs = apS 59 ty xs := rfl
theorem apK (ty : TypeId) (xs : Array Value) : Builtin.append_ #[43, 43] ty xs = apS 43 ty xs := rfl
theorem apM (ty : TypeId) (xs : Array Value) : Builtin.append_ #[44, 44] ty xs = apS 44 ty xs := rfl
theorem apC (ty : TypeId) (xs : Array Value) : Builtin.append_ #[45, 45] ty xs = apS 45 ty xs := rfl
theorem apB (ty : TypeId) (xs : Array Value) : Builtin.append_ #[46, 46] ty xs = apS 46 ty xs := rfl
/-- A slice of rows, built: sealed. -/
def bsS (st : TypeId) (n : Nat) (ps : Array (Nat × Value)) : Sem Value := Instr.buildSlice st n ps
theorem bsI (n : Nat) (ps : Array (Nat × Value)) : Instr.buildSlice 59 n ps = bsS 59 n ps := rfl
theorem bsK (n : Nat) (ps : Array (Nat × Value)) : Instr.buildSlice 43 n ps = bsS 43 n ps := rfl
theorem bsM (n : Nat) (ps : Array (Nat × Value)) : Instr.buildSlice 44 n ps = bsS 44 n ps := rfl
theorem bsC (n : Nat) (ps : Array (Nat × Value)) : Instr.buildSlice 45 n ps = bsS 45 n ps := rfl
theorem bsB (n : Nat) (ps : Array (Nat × Value)) : Instr.buildSlice 46 n ps = bsS 46 n ps := rfl
theorem bsI_is (x : Int) (w : World) : (bsS 59 1 #[(0, .int .i64 x)]).run Try.prog w = .ok (.slice (some ⟨w.heap.size, 0, none⟩) 1 1) (w.alloc (.cells #[.int .i64 x] 3)) := by kernel_rfl
theorem bsI2_is (x y : Int) (w : World) : (bsS 59 2 #[(0, .int .i64 x), (1, .int .i64 y)]).run Try.prog w = .ok (.slice (some ⟨w.heap.size, 0, none⟩) 2 2) (w.alloc (.cells #[.int .i64 x, .int .i64 y] 3)) := by kernel_rfl
theorem bsK_is (x : Int) (w : World) : (bsS 43 1 #[(0, .int .i64 x)]).run Try.prog w = .ok (.slice (some ⟨w.heap.size, 0, none⟩) 1 1) (w.alloc (.cells #[.int .i64 x] 91)) := by kernel_rfl
theorem bsM_is (x : Mp) (w : World) : (bsS 44 1 #[(0, .agg x.cs)]).run Try.prog w = .ok (.slice (some ⟨w.heap.size, 0, none⟩) 1 1) (w.alloc (.cells x.cs 100)) := by kernel_rfl
theorem bsC_is (x : Cr) (w : World) : (bsS 45 1 #[(0, .agg x.cs)]).run Try.prog w = .ok (.slice (some ⟨w.heap.size, 0, none⟩) 1 1) (w.alloc (.cells x.cs 70)) := by kernel_rfl
theorem bsB_is (x : Mr) (w : World) : (bsS 46 1 #[(0, .agg x.cs)]).run Try.prog w = .ok (.slice (some ⟨w.heap.size, 0, none⟩) 1 1) (w.alloc (.cells x.cs 68)) := by kernel_rfl
/-! ### one more -/
theorem nI {W : World} {B : Nat} {v : Value} {l : List Int} (o : Own eI W B v l) (hB : B ≤ W.heap.size) (hl : l.length ≤ 1000) (p : Int) :
    ∃ v' W', (apS 59 59 #[v, .slice (some ⟨W.heap.size, 0, none⟩) 1 1]).run Try.prog (W.alloc (.cells (#[.int .i64 p]) 3)) = .ok v' W' ∧ Own eI W' B v' (l ++ [p]) ∧ Below B W W' := o.next kI hB hl p _
theorem nK {W : World} {B : Nat} {v : Value} {l : List Int} (o : Own eK W B v l) (hB : B ≤ W.heap.size) (hl : l.length ≤ 1000) (p : Int) :
    ∃ v' W', (apS 43 43 #[v, .slice (some ⟨W.heap.size, 0, none⟩) 1 1]).run Try.prog (W.alloc (.cells (#[.int .i64 p]) 91)) = .ok v' W' ∧ Own eK W' B v' (l ++ [p]) ∧ Below B W W' := o.next kK hB hl p _
theorem nM {W : World} {B : Nat} {v : Value} {l : List Mp} (o : Own eM W B v l) (hB : B ≤ W.heap.size) (hl : l.length ≤ 1000) (p : Mp) :
    ∃ v' W', (apS 44 44 #[v, .slice (some ⟨W.heap.size, 0, none⟩) 1 1]).run Try.prog (W.alloc (.cells (p.cs) 100)) = .ok v' W' ∧ Own eM W' B v' (l ++ [p]) ∧ Below B W W' := o.next kM hB hl p _
theorem nC {W : World} {B : Nat} {v : Value} {l : List Cr} (o : Own eC W B v l) (hB : B ≤ W.heap.size) (hl : l.length ≤ 1000) (p : Cr) :
    ∃ v' W', (apS 45 45 #[v, .slice (some ⟨W.heap.size, 0, none⟩) 1 1]).run Try.prog (W.alloc (.cells (p.cs) 70)) = .ok v' W' ∧ Own eC W' B v' (l ++ [p]) ∧ Below B W W' := o.next kC hB hl p _
theorem nB {W : World} {B : Nat} {v : Value} {l : List Mr} (o : Own eB W B v l) (hB : B ≤ W.heap.size) (hl : l.length ≤ 1000) (p : Mr) :
    ∃ v' W', (apS 46 46 #[v, .slice (some ⟨W.heap.size, 0, none⟩) 1 1]).run Try.prog (W.alloc (.cells (p.cs) 68)) = .ok v' W' ∧ Own eB W' B v' (l ++ [p]) ∧ Below B W W' := o.next kB hB hl p _
/-! ### loads -/
theorem lI {W : World} {b o n c i : Nat} {l : List Int} {x : Int} (h : SlAt eI W (some ⟨b, o, none⟩) n c l) (hx : l[i]? = some x) : W.cell? ⟨b, o + i, none⟩ = some (.int .i64 x) := h.cell kI (j := 0) hx rfl (by show o + i = o + (i * 1 + 0); omega)
theorem lK {W : World} {b o n c i : Nat} {l : List Int} {x : Int} (h : SlAt eK W (some ⟨b, o, none⟩) n c l) (hx : l[i]? = some x) : W.cell? ⟨b, o + i, none⟩ = some (.int .i64 x) := h.cell kK (j := 0) hx rfl (by show o + i = o + (i * 1 + 0); omega)
theorem lM {W : World} {b o n c i : Nat} {l : List Mp} {x : Mp} (h : SlAt eM W (some ⟨b, o, none⟩) n c l) (hx : l[i]? = some x) : (ldS 100 (.pointer (some ⟨b, o + i * 3, none⟩))).run Try.prog W = .ok (.agg x.cs) W := h.ld kM hx Try.underlying100 rfl rfl
theorem lM0 {W : World} {b o n c i : Nat} {l : List Mp} {x : Mp} (h : SlAt eM W (some ⟨b, o, none⟩) n c l) (hx : l[i]? = some x) : W.cell? ⟨b, o + i * 3, none⟩ = some (.int .i64 x.p) := h.cell kM (j := 0) hx rfl rfl
theorem lM1 {W : World} {b o n c i : Nat} {l : List Mp} {x : Mp} (h : SlAt eM W (some ⟨b, o, none⟩) n c l) (hx : l[i]? = some x) : W.cell? ⟨b, o + i * 3 + 1, none⟩ = some (.int .i64 x.v) := h.cell kM (j := 1) hx rfl rfl
theorem lM2 {W : World} {b o n c i : Nat} {l : List Mp} {x : Mp} (h : SlAt eM W (some ⟨b, o, none⟩) n c l) (hx : l[i]? = some x) : W.cell? ⟨b, o + i * 3 + 2, none⟩ = some (.int .i64 x.s) := h.cell kM (j := 2) hx rfl rfl
theorem lC {W : World} {b o n c i : Nat} {l : List Cr} {x : Cr} (h : SlAt eC W (some ⟨b, o, none⟩) n c l) (hx : l[i]? = some x) : (ldS 70 (.pointer (some ⟨b, o + i * 2, none⟩))).run Try.prog W = .ok (.agg x.cs) W := h.ld kC hx Try.underlying70 rfl rfl
theorem lC0 {W : World} {b o n c i : Nat} {l : List Cr} {x : Cr} (h : SlAt eC W (some ⟨b, o, none⟩) n c l) (hx : l[i]? = some x) : W.cell? ⟨b, o + i * 2, none⟩ = some (.int .i64 x.s) := h.cell kC (j := 0) hx rfl rfl
theorem lC1 {W : World} {b o n c i : Nat} {l : List Cr} {x : Cr} (h : SlAt eC W (some ⟨b, o, none⟩) n c l) (hx : l[i]? = some x) : W.cell? ⟨b, o + i * 2 + 1, none⟩ = some (.int .i64 x.v) := h.cell kC (j := 1) hx rfl rfl
theorem lB {W : World} {b o n c i : Nat} {l : List Mr} {x : Mr} (h : SlAt eB W (some ⟨b, o, none⟩) n c l) (hx : l[i]? = some x) : (ldS 68 (.pointer (some ⟨b, o + i * 2, none⟩))).run Try.prog W = .ok (.agg x.cs) W := h.ld kB hx Try.underlying68 rfl rfl
theorem lB0 {W : World} {b o n c i : Nat} {l : List Mr} {x : Mr} (h : SlAt eB W (some ⟨b, o, none⟩) n c l) (hx : l[i]? = some x) : W.cell? ⟨b, o + i * 2, none⟩ = some (.int .i64 x.v) := h.cell kB (j := 0) hx rfl rfl
theorem lB1 {W : World} {b o n c i : Nat} {l : List Mr} {x : Mr} (h : SlAt eB W (some ⟨b, o, none⟩) n c l) (hx : l[i]? = some x) : W.cell? ⟨b, o + i * 2 + 1, none⟩ = some (.slice x.a x.n x.c) := h.cell kB (j := 1) hx rfl rfl
/-! ### what is provisioned -/
/-- A bridge's address. -/
structure O6 where
  a : Int
  b : Int
  c : Int
  d : Int
  e : Int
  f : Int
def O6.cs (x : O6) : Array Value := #[.int .u8 x.a, .int .u8 x.b, .int .u8 x.c, .int .u8 x.d, .int .u8 x.e, .int .u8 x.f]
/-- A value that is a slice of l. -/
def SlV {α : Type} (e : El α) (W : World) (v : Value) (l : List α) : Prop := ∃ a n c, v = .slice a n c ∧ SlAt e W a n c l
theorem SlV.below {α : Type} {e : El α} {W W' : World} {v : Value} {l : List α} (h : SlV e W v l) (hb : Below W.heap.size W W') : SlV e W' v l := by
  obtain ⟨a, n, c, hv, hs⟩ := h
  exact ⟨a, n, c, hv, hs.below hb⟩
theorem SlV.none' {α : Type} {e : El α} (W : World) : SlV e W (.slice none 0 0) [] := ⟨_, _, _, rfl, SlAt.none' W⟩
theorem SlV.one {α : Type} {e : El α} {W : World} {v : Value} {l : List α} (h : SlV e W v l) : v.oneCell' = true := by
  obtain ⟨a, n, c, rfl, _⟩ := h
  rfl
theorem Own.slv {α : Type} {e : El α} {W : World} {B : Nat} {v : Value} {l : List α} (h : Own e W B v l) : SlV e W v l := by
  obtain ⟨a, c, rfl, hs, _⟩ := h.form
  exact ⟨_, _, _, rfl, hs⟩
theorem SlAt.slv {α : Type} {e : El α} {W : World} {a : Option Addr} {n c : Nat} {l : List α} (h : SlAt e W a n c l) : SlV e W (.slice a n c) l := ⟨_, _, _, rfl, h⟩
theorem slv_at {α : Type} {e : El α} {W : World} {a : Option Addr} {n c : Nat} {l : List α} (h : SlV e W (.slice a n c) l) : SlAt e W a n c l := by
  obtain ⟨_, _, _, e', hs⟩ := h
  cases e'
  exact hs
/-- Members as they lie in memory, and what they are. -/
structure Mem (W : World) (r : List Mr) (l : List Mb) : Prop where
  len : r.length = l.length
  at' : ∀ (i : Nat) (x : Mr) (y : Mb), r[i]? = some x → l[i]? = some y → x.v = y.v ∧ SlAt eI W x.a x.n x.c y.ps
theorem Mem.below {W W' : World} {r : List Mr} {l : List Mb} (h : Mem W r l) (hb : Below W.heap.size W W') : Mem W' r l := ⟨h.len, fun i x y hx hy => ⟨(h.at' i x y hx hy).1, (h.at' i x y hx hy).2.below hb⟩⟩
theorem Mem.nil (W : World) : Mem W [] [] := ⟨rfl, fun i x y hx => by simp at hx⟩
theorem Mem.get {W : World} {r : List Mr} {l : List Mb} (h : Mem W r l) {i : Nat} (hi : i < l.length) : ∃ x y, r[i]? = some x ∧ l[i]? = some y ∧ x.v = y.v ∧ SlAt eI W x.a x.n x.c y.ps := by
  have hr : i < r.length := by rw [h.len]; exact hi
  exact ⟨_, _, List.getElem?_eq_getElem hr, List.getElem?_eq_getElem hi, h.at' i _ _ (List.getElem?_eq_getElem hr) (List.getElem?_eq_getElem hi)⟩
theorem Mem.app {W : World} {r r' : List Mr} {l l' : List Mb} (h : Mem W r l) (k : Mem W r' l') : Mem W (r ++ r') (l ++ l') := by
  refine ⟨by rw [List.length_append, List.length_append, h.len, k.len], fun i x y hx hy => ?_⟩
  by_cases hi : i < r.length
  · rw [List.getElem?_append_left hi] at hx
    rw [List.getElem?_append_left (by rw [← h.len]; exact hi)] at hy
    exact h.at' i x y hx hy
  · rw [List.getElem?_append_right (by omega)] at hx
    rw [List.getElem?_append_right (by rw [← h.len]; omega), ← h.len] at hy
    exact k.at' _ x y hx hy
theorem Mem.one {W : World} {x : Mr} {y : Mb} (h : x.v = y.v) (k : SlAt eI W x.a x.n x.c y.ps) : Mem W [x] [y] := by
  refine ⟨rfl, fun i a b ha hb => ?_⟩
  cases i with
  | zero => simp at ha hb; subst ha hb; exact ⟨h, k⟩
  | succ i => simp at ha
theorem Mem.drop {W : World} {r : List Mr} {l : List Mb} (h : Mem W r l) (j : Nat) : Mem W (r.drop j) (l.drop j) := by
  refine ⟨by rw [List.length_drop, List.length_drop, h.len], fun i x y hx hy => ?_⟩
  rw [List.getElem?_drop] at hx hy
  exact h.at' _ x y hx hy
theorem Mem.take {W : World} {r : List Mr} {l : List Mb} (h : Mem W r l) (j : Nat) : Mem W (r.take j) (l.take j) := by
  refine ⟨by rw [List.length_take, List.length_take, h.len], fun i x y hx hy => ?_⟩
  rw [List.getElem?_take] at hx hy
  split at hx
  · rename_i hi
    rw [if_pos hi] at hy
    exact h.at' _ x y hx hy
  · cases hx
/-- A value that is a slice of members l. -/
def MbV (W : World) (v : Value) (l : List Mb) : Prop := ∃ r, SlV eB W v r ∧ Mem W r l
theorem MbV.below {W W' : World} {v : Value} {l : List Mb} (h : MbV W v l) (hb : Below W.heap.size W W') : MbV W' v l := by
  obtain ⟨r, h1, h2⟩ := h
  exact ⟨r, h1.below hb, h2.below hb⟩
theorem MbV.one {W : World} {v : Value} {l : List Mb} (h : MbV W v l) : v.oneCell' = true := by
  obtain ⟨r, h1, _⟩ := h
  exact h1.one
/-- What is provisioned. -/
structure Pv where
  o : O6
  ks : List Int
  ms : List Mp
  cs : List Cr
  bs : List Mb
/-- .. as it lies in memory. -/
structure Pr where
  o : O6
  k : Value
  m : Value
  c : Value
  b : Value
def Pr.cs (x : Pr) : Array Value := #[.int .u8 x.o.a, .int .u8 x.o.b, .int .u8 x.o.c, .int .u8 x.o.d, .int .u8 x.o.e, .int .u8 x.o.f, x.k, x.m, x.c, x.b]
def O6.wf (x : O6) : Prop := 0 ≤ x.a ∧ x.a ≤ 255
structure IsPv (W : World) (x : Pr) (p : Pv) : Prop where
  o : x.o = p.o
  wf : p.o.wf
  k : SlV eK W x.k p.ks
  m : SlV eM W x.m p.ms
  c : SlV eC W x.c p.cs
  b : MbV W x.b p.bs
theorem IsPv.below {W W' : World} {x : Pr} {p : Pv} (h : IsPv W x p) (hb : Below W.heap.size W W') : IsPv W' x p := ⟨h.o, h.wf, h.k.below hb, h.m.below hb, h.c.below hb, h.b.below hb⟩
theorem IsPv.one {W : World} {x : Pr} {p : Pv} (h : IsPv W x p) : ∀ v ∈ x.cs.toList, v.oneCell' = true := by
  have i : ∀ k n, (Value.int k n).oneCell' = true := fun _ _ => rfl
  refine one_of ?_
  simp [Pr.cs, h.k.one, h.m.one, h.c.one, h.b.one, i]
/-- Its variable. -/
def PrAt (W : World) (b : Nat) (x : Pr) : Prop := RvAt W b 48 x.cs
theorem PrAt.below {W W' : World} {b : Nat} {x : Pr} (h : PrAt W b x) (hb : Below W.heap.size W W') : PrAt W' b x := RvAt.below h hb
theorem PrAt.lt {W : World} {b : Nat} {x : Pr} (h : PrAt W b x) : b < W.heap.size := RvAt.lt h
theorem PrAt.ld {W : World} {b : Nat} {x : Pr} (h : PrAt W b x) : (ldS 48 (.pointer (some ⟨b, 0, none⟩))).run Try.prog W = .ok (.agg x.cs) W := RvAt.ld rtP h rfl
theorem PrAt.k {W : World} {b : Nat} {x : Pr} (h : PrAt W b x) : W.cell? ⟨b, 6, none⟩ = some x.k := RvAt.cell h 6 _ rfl
theorem PrAt.m {W : World} {b : Nat} {x : Pr} (h : PrAt W b x) : W.cell? ⟨b, 7, none⟩ = some x.m := RvAt.cell h 7 _ rfl
theorem PrAt.c {W : World} {b : Nat} {x : Pr} (h : PrAt W b x) : W.cell? ⟨b, 8, none⟩ = some x.c := RvAt.cell h 8 _ rfl
theorem PrAt.b {W : World} {b : Nat} {x : Pr} (h : PrAt W b x) : W.cell? ⟨b, 9, none⟩ = some x.b := RvAt.cell h 9 _ rfl
theorem PrAt.new (W : World) (x : Pr) : ∃ V, W.alloc (.cells x.cs 48) = V ∧ PrAt V W.heap.size x ∧ Below W.heap.size W V ∧ V.heap.size = W.heap.size + 1 := ⟨_, rfl, RvAt.new W _ _, (Below.refl _ _).alloc (Nat.le_refl _) _, by simp⟩
theorem PrAt.own {W : World} {b : Nat} {x : Pr} (h : PrAt W b x) : (Instr.loadAt 42 (.pointer (some ⟨b, 0, none⟩))).run Try.prog W = .ok (.agg x.o.cs) W := by
  have := run_loadAt_mid (P := Try.prog) W b 0 42 x.o.cs.toList _ (fun r v hv => by
    rw [Nat.zero_add]
    refine RvAt.cell h r v ?_
    have hr : r < 6 := (List.getElem?_eq_some_iff.1 hv).1
    match r, hr, hv with
    | 0, _, hv => exact hv
    | 1, _, hv => exact hv
    | 2, _, hv => exact hv
    | 3, _, hv => exact hv
    | 4, _, hv => exact hv
    | 5, _, hv => exact hv) Try.underlying42 rfl (by kernel_rfl)
  exact this
/-! ### variables of rows -/
def MpAt (W : World) (b : Nat) (x : Mp) : Prop := RvAt W b 100 x.cs
def CrAt (W : World) (b : Nat) (x : Cr) : Prop := RvAt W b 70 x.cs
def MrAt (W : World) (b : Nat) (x : Mr) : Prop := RvAt W b 68 x.cs
theorem MpAt.below {W W' : World} {b : Nat} {x : Mp} (h : MpAt W b x) (hb : Below W.heap.size W W') : MpAt W' b x := RvAt.below h hb
theorem CrAt.below {W W' : World} {b : Nat} {x : Cr} (h : CrAt W b x) (hb : Below W.heap.size W W') : CrAt W' b x := RvAt.below h hb
theorem MrAt.below {W W' : World} {b : Nat} {x : Mr} (h : MrAt W b x) (hb : Below W.heap.size W W') : MrAt W' b x := RvAt.below h hb
theorem MpAt.ld {W : World} {b : Nat} {x : Mp} (h : MpAt W b x) : (ldS 100 (.pointer (some ⟨b, 0, none⟩))).run Try.prog W = .ok (.agg x.cs) W := RvAt.ld rtM h rfl
theorem CrAt.ld {W : World} {b : Nat} {x : Cr} (h : CrAt W b x) : (ldS 70 (.pointer (some ⟨b, 0, none⟩))).run Try.prog W = .ok (.agg x.cs) W := RvAt.ld rtC h rfl
theorem MrAt.ld {W : World} {b : Nat} {x : Mr} (h : MrAt W b x) : (ldS 68 (.pointer (some ⟨b, 0, none⟩))).run Try.prog W = .ok (.agg x.cs) W := RvAt.ld rtB h rfl
theorem MpAt.c0 {W : World} {b : Nat} {x : Mp} (h : MpAt W b x) : W.cell? ⟨b, 0, none⟩ = some (.int .i64 x.p) := RvAt.cell h 0 _ rfl
theorem MpAt.c1 {W : World} {b : Nat} {x : Mp} (h : MpAt W b x) : W.cell? ⟨b, 1, none⟩ = some (.int .i64 x.v) := RvAt.cell h 1 _ rfl
theorem MpAt.c2 {W : World} {b : Nat} {x : Mp} (h : MpAt W b x) : W.cell? ⟨b, 2, none⟩ = some (.int .i64 x.s) := RvAt.cell h 2 _ rfl
theorem CrAt.c0 {W : World} {b : Nat} {x : Cr} (h : CrAt W b x) : W.cell? ⟨b, 0, none⟩ = some (.int .i64 x.s) := RvAt.cell h 0 _ rfl
theorem CrAt.c1 {W : World} {b : Nat} {x : Cr} (h : CrAt W b x) : W.cell? ⟨b, 1, none⟩ = some (.int .i64 x.v) := RvAt.cell h 1 _ rfl
theorem MrAt.c0 {W : World} {b : Nat} {x : Mr} (h : MrAt W b x) : W.cell? ⟨b, 0, none⟩ = some (.int .i64 x.v) := RvAt.cell h 0 _ rfl
theorem MrAt.c1 {W : World} {b : Nat} {x : Mr} (h : MrAt W b x) : W.cell? ⟨b, 1, none⟩ = some (.slice x.a x.n x.c) := RvAt.cell h 1 _ rfl
theorem MpAt.put (W : World) (x : Mp) : ∃ V, (stS 100 (.pointer (some ⟨W.heap.size, 0, none⟩)) (.agg x.cs)).run Try.prog (W.alloc (.cells #[.int .i64 0, .int .i64 0, .int .i64 0] 100)) = .ok () V ∧ MpAt V W.heap.size x ∧ Below W.heap.size W V := by
  obtain ⟨V, h1, h2, h3, _⟩ := row_new rtM W #[.int .i64 0, .int .i64 0, .int .i64 0] x.cs rfl rfl (one_of rfl)
  exact ⟨V, h1, h2, h3⟩
theorem CrAt.put (W : World) (x : Cr) : ∃ V, (stS 70 (.pointer (some ⟨W.heap.size, 0, none⟩)) (.agg x.cs)).run Try.prog (W.alloc (.cells #[.int .i64 0, .int .i64 0] 70)) = .ok () V ∧ CrAt V W.heap.size x ∧ Below W.heap.size W V := by
  obtain ⟨V, h1, h2, h3, _⟩ := row_new rtC W #[.int .i64 0, .int .i64 0] x.cs rfl rfl (one_of rfl)
  exact ⟨V, h1, h2, h3⟩
theorem MrAt.put (W : World) (x : Mr) : ∃ V, (stS 68 (.pointer (some ⟨W.heap.size, 0, none⟩)) (.agg x.cs)).run Try.prog (W.alloc (.cells #[.int .i64 0, .slice none 0 0] 68)) = .ok () V ∧ MrAt V W.heap.size x ∧ Below W.heap.size W V := by
  obtain ⟨V, h1, h2, h3, _⟩ := row_new rtB W #[.int .i64 0, .slice none 0 0] x.cs rfl rfl (one_of rfl)
  exact ⟨V, h1, h2, h3⟩
theorem MpAt.new (W : World) (x : Mp) : ∃ V, W.alloc (.cells x.cs 100) = V ∧ MpAt V W.heap.size x ∧ Below W.heap.size W V ∧ V.heap.size = W.heap.size + 1 := ⟨_, rfl, RvAt.new W _ _, (Below.refl _ _).alloc (Nat.le_refl _) _, by simp⟩
theorem CrAt.new (W : World) (x : Cr) : ∃ V, W.alloc (.cells x.cs 70) = V ∧ CrAt V W.heap.size x ∧ Below W.heap.size W V ∧ V.heap.size = W.heap.size + 1 := ⟨_, rfl, RvAt.new W _ _, (Below.refl _ _).alloc (Nat.le_refl _) _, by simp⟩
theorem MrAt.new (W : World) (x : Mr) : ∃ V, W.alloc (.cells x.cs 68) = V ∧ MrAt V W.heap.size x ∧ Below W.heap.size W V ∧ V.heap.size = W.heap.size + 1 := ⟨_, rfl, RvAt.new W _ _, (Below.refl _ _).alloc (Nat.le_refl _) _, by simp⟩
theorem Own.mono {α : Type} {e : El α} {W : World} {B B' : Nat} {v : Value} {l : List α} (h : Own e W B v l) (hb : B' ≤ B) : Own e W B' v l := by
  refine ⟨h.1, ?_⟩
  rcases h.2 with h2 | ⟨g, cap, cur, h1, hB, hr⟩
  · exact Or.inl h2
  · exact Or.inr ⟨g, cap, cur, h1, Nat.le_trans hb hB, hr⟩
theorem lt_nth {α : Type} {l : List α} {i : Nat} (h : i < l.length) : ∃ x, l[i]? = some x := ⟨_, List.getElem?_eq_getElem h⟩
/-- From place i on: the one that stands there, and those behind it. -/
theorem drop_at {α : Type} {l : List α} {i : Nat} {x : α} (h : l[i]? = some x) : l.drop i = x :: l.drop (i + 1) := by
  have hl := (List.getElem?_eq_some_iff.1 h).1
  rw [List.drop_eq_getElem_cons hl]
  rw [(List.getElem?_eq_some_iff.1 h).2]
theorem drop_end {α : Type} {l : List α} {i : Nat} (h : l.length ≤ i) : l.drop i = [] := List.drop_eq_nil_of_le h
end Go.Proofs.Ytcejfkkhmlebdaa
