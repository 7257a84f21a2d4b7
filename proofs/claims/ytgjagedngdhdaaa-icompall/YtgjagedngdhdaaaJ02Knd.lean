/-
  What is provisioned, as it lies in memory: its rows, its variable; loads, stores, appends, sealed. Plain laws over the program's types. What is asked of what is provisioned: plain functions of its rows. What is asked of what is provisioned: the walks of Service, VIDOf and Carrier, for every input.
-/
import Derived.Test.YtgjagedngdhdaaaJ01Sq
namespace Go.Proofs.Ytgjagedngdhdaaa

section
set_option linter.unusedVariables false
set_option maxRecDepth 4000
set_option linter.unusedSimpArgs false
open Go.RowKit

/-- A customer's VLAN at a port, and its service. -/
structure Mp where
  p : Int
  v : Int
  s : Int
def Mp.cs (x : Mp) : Array Value := #[.int .i64 x.p, .int .i64 x.v, .int .i64 x.s]
/-- A service, and its backbone VLAN. -/
structure Cr where
  s : Int
  v : Int
def Cr.cs (x : Cr) : Array Value := #[.int .i64 x.s, .int .i64 x.v]
/-- A backbone VLAN, and its ports. -/
structure Mb where
  v : Int
  ps : List Int
/-- .. as it lies in memory. -/
structure Mr where
  v : Int
  a : Option Addr
  n : Nat
  c : Nat
def Mr.cs (x : Mr) : Array Value := #[.int .i64 x.v, .slice x.a x.n x.c]
def eI : El Int := ⟨fun n => #[.int .i64 n], 3, 61, 1, 8⟩
def eK : El Int := ⟨fun n => #[.int .i64 n], 95, 24, 1, 8⟩
def eM : El Mp := ⟨Mp.cs, 100, 25, 3, 24⟩
def eC : El Cr := ⟨Cr.cs, 102, 26, 2, 16⟩
def eB : El Mr := ⟨Mr.cs, 76, 27, 2, 32⟩
theorem one_of {l : List Value} (h : l.all (fun v => v.oneCell') = true) : ∀ v ∈ l, v.oneCell' = true := fun v hv => List.all_eq_true.1 h v hv
theorem kI : eI.Ok := ⟨fun _ => rfl, by decide, fun _ => one_of rfl, Try.underlying61, ⟨.int .i64 0, by kernel_rfl, rfl⟩, by decide⟩
theorem kK : eK.Ok := ⟨fun _ => rfl, by decide, fun _ => one_of rfl, Try.underlying24, ⟨.int .i64 0, by kernel_rfl, rfl⟩, by decide⟩
theorem kM : eM.Ok := ⟨fun _ => rfl, by decide, fun _ => one_of rfl, Try.underlying25, ⟨.agg (Mp.cs ⟨0, 0, 0⟩), by kernel_rfl, rfl⟩, by decide⟩
theorem kC : eC.Ok := ⟨fun _ => rfl, by decide, fun _ => one_of rfl, Try.underlying26, ⟨.agg (Cr.cs ⟨0, 0⟩), by kernel_rfl, rfl⟩, by decide⟩
theorem kB : eB.Ok := ⟨fun _ => rfl, by decide, fun _ => one_of rfl, Try.underlying27, ⟨.agg (Mr.cs ⟨0, none, 0, 0⟩), by kernel_rfl, rfl⟩, by decide⟩
theorem infoM : (Try.prog.info? 100).map (·.size) = some 3 := by kernel_rfl
theorem infoC : (Try.prog.info? 102).map (·.size) = some 2 := by kernel_rfl
theorem infoB : (Try.prog.info? 76).map (·.size) = some 2 := by kernel_rfl
theorem infoP : (Try.prog.info? 29).map (·.size) = some 10 := by kernel_rfl
theorem infoI : (Try.prog.info? 3).map (·.size) = some 1 := by kernel_rfl
theorem infoIs : (Try.prog.info? 61).map (·.size) = some 1 := by kernel_rfl
theorem infoKs : (Try.prog.info? 24).map (·.size) = some 1 := by kernel_rfl
theorem infoMs : (Try.prog.info? 25).map (·.size) = some 1 := by kernel_rfl
theorem infoCs : (Try.prog.info? 26).map (·.size) = some 1 := by kernel_rfl
theorem infoBs : (Try.prog.info? 27).map (·.size) = some 1 := by kernel_rfl
theorem rtM : RowTy 100 3 := ⟨infoM, _, Try.underlying100, rfl⟩
theorem rtC : RowTy 102 2 := ⟨infoC, _, Try.underlying102, rfl⟩
theorem rtB : RowTy 76 2 := ⟨infoB, _, Try.underlying76, rfl⟩
theorem rtP : RowTy 29 10 := ⟨infoP, _, Try.underlying29, rfl⟩
/-! ### sealed -/
theorem ldM (x : Value) : Instr.loadAt 100 x = ldS 100 x := rfl
theorem stM (x y : Value) : Instr.storeAt 100 x y = stS 100 x y := rfl
theorem ldC (x : Value) : Instr.loadAt 102 x = ldS 102 x := rfl
theorem stC (x y : Value) : Instr.storeAt 102 x y = stS 102 x y := rfl
theorem ldB (x : Value) : Instr.loadAt 76 x = ldS 76 x := rfl
theorem stB (x y : Value) : Instr.storeAt 76 x y = stS 76 x y := rfl
theorem ldP (x : Value) : Instr.loadAt 29 x = ldS 29 x := rfl
theorem stP (x y : Value) : Instr.storeAt 29 x y = stS 29 x y := rfl
theorem stIs (x y : Value) : Instr.storeAt 61 x y = stS 61 x y := rfl
theorem stKs (x y : Value) : Instr.storeAt 24 x y = stS 24 x y := rfl
theorem stMs (x y : Value) : Instr.storeAt 25 x y = stS 25 x y := rfl
theorem stCs (x y : Value) : Instr.storeAt 26 x y = stS 26 x y := rfl
theorem stBs (x y : Value) : Instr.storeAt 27 x y = stS 27 x y := rfl
theorem apI (ty : TypeId) (xs : Array Value) : Builtin.append_ #[61, 61] ty xs = apS 61 ty xs := rfl
theorem apK (ty : TypeId) (xs : Array Value) : Builtin.append_ #[24, 24] ty xs = apS 24 ty xs := rfl
theorem apM (ty : TypeId) (xs : Array Value) : Builtin.append_ #[25, 25] ty xs = apS 25 ty xs := rfl
theorem apC (ty : TypeId) (xs : Array Value) : Builtin.append_ #[26, 26] ty xs = apS 26 ty xs := rfl
theorem apB (ty : TypeId) (xs : Array Value) : Builtin.append_ #[27, 27] ty xs = apS 27 ty xs := rfl
/-- A slice of rows, built: sealed. -/
def bsS (st : TypeId) (n : Nat) (ps : Array (Nat × Value)) : Sem Value := Instr.buildSlice st n ps
theorem bsI (n : Nat) (ps : Array (Nat × Value)) : Instr.buildSlice 61 n ps = bsS 61 n ps := rfl
theorem bsK (n : Nat) (ps : Array (Nat × Value)) : Instr.buildSlice 24 n ps = bsS 24 n ps := rfl
theorem bsM (n : Nat) (ps : Array (Nat × Value)) : Instr.buildSlice 25 n ps = bsS 25 n ps := rfl
theorem bsC (n : Nat) (ps : Array (Nat × Value)) : Instr.buildSlice 26 n ps = bsS 26 n ps := rfl
theorem bsB (n : Nat) (ps : Array (Nat × Value)) : Instr.buildSlice 27 n ps = bsS 27 n ps := rfl
theorem bsI_is (x : Int) (w : World) : (bsS 61 1 #[(0, .int .i64 x)]).run Try.prog w = .ok (.slice (some ⟨w.heap.size, 0, none⟩) 1 1) (w.alloc (.cells #[.int .i64 x] 3)) := by kernel_rfl
theorem bsI2_is (x y : Int) (w : World) : (bsS 61 2 #[(0, .int .i64 x), (1, .int .i64 y)]).run Try.prog w = .ok (.slice (some ⟨w.heap.size, 0, none⟩) 2 2) (w.alloc (.cells #[.int .i64 x, .int .i64 y] 3)) := by kernel_rfl
theorem bsK_is (x : Int) (w : World) : (bsS 24 1 #[(0, .int .i64 x)]).run Try.prog w = .ok (.slice (some ⟨w.heap.size, 0, none⟩) 1 1) (w.alloc (.cells #[.int .i64 x] 95)) := by kernel_rfl
theorem bsM_is (x : Mp) (w : World) : (bsS 25 1 #[(0, .agg x.cs)]).run Try.prog w = .ok (.slice (some ⟨w.heap.size, 0, none⟩) 1 1) (w.alloc (.cells x.cs 100)) := by kernel_rfl
theorem bsC_is (x : Cr) (w : World) : (bsS 26 1 #[(0, .agg x.cs)]).run Try.prog w = .ok (.slice (some ⟨w.heap.size, 0, none⟩) 1 1) (w.alloc (.cells x.cs 102)) := by kernel_rfl
theorem bsB_is (x : Mr) (w : World) : (bsS 27 1 #[(0, .agg x.cs)]).run Try.prog w = .ok (.slice (some ⟨w.heap.size, 0, none⟩) 1 1) (w.alloc (.cells x.cs 76)) := by kernel_rfl
/-! ### one more -/
theorem nI {W : World} {B : Nat} {v : Value} {l : List Int} (o : Own eI W B v l) (hB : B ≤ W.heap.size) (hl : l.length ≤ 1000) (p : Int) :
    ∃ v' W', (apS 61 61 #[v, .slice (some ⟨W.heap.size, 0, none⟩) 1 1]).run Try.prog (W.alloc (.cells (#[.int .i64 p]) 3)) = .ok v' W' ∧ Own eI W' B v' (l ++ [p]) ∧ Below B W W' := o.next kI hB hl p _
theorem nK {W : World} {B : Nat} {v : Value} {l : List Int} (o : Own eK W B v l) (hB : B ≤ W.heap.size) (hl : l.length ≤ 1000) (p : Int) :
    ∃ v' W', (apS 24 24 #[v, .slice (some ⟨W.heap.size, 0, none⟩) 1 1]).run Try.prog (W.alloc (.cells (#[.int .i64 p]) 95)) = .ok v' W' ∧ Own eK W' B v' (l ++ [p]) ∧ Below B W W' := o.next kK hB hl p _
theorem nM {W : World} {B : Nat} {v : Value} {l : List Mp} (o : Own eM W B v l) (hB : B ≤ W.heap.size) (hl : l.length ≤ 1000) (p : Mp) :
    ∃ v' W', (apS 25 25 #[v, .slice (some ⟨W.heap.size, 0, none⟩) 1 1]).run Try.prog (W.alloc (.cells (p.cs) 100)) = .ok v' W' ∧ Own eM W' B v' (l ++ [p]) ∧ Below B W W' := o.next kM hB hl p _
theorem nC {W : World} {B : Nat} {v : Value} {l : List Cr} (o : Own eC W B v l) (hB : B ≤ W.heap.size) (hl : l.length ≤ 1000) (p : Cr) :
    ∃ v' W', (apS 26 26 #[v, .slice (some ⟨W.heap.size, 0, none⟩) 1 1]).run Try.prog (W.alloc (.cells (p.cs) 102)) = .ok v' W' ∧ Own eC W' B v' (l ++ [p]) ∧ Below B W W' := o.next kC hB hl p _
theorem nB {W : World} {B : Nat} {v : Value} {l : List Mr} (o : Own eB W B v l) (hB : B ≤ W.heap.size) (hl : l.length ≤ 1000) (p : Mr) :
    ∃ v' W', (apS 27 27 #[v, .slice (some ⟨W.heap.size, 0, none⟩) 1 1]).run Try.prog (W.alloc (.cells (p.cs) 76)) = .ok v' W' ∧ Own eB W' B v' (l ++ [p]) ∧ Below B W W' := o.next kB hB hl p _
/-! ### loads -/
theorem lI {W : World} {b o n c i : Nat} {l : List Int} {x : Int} (h : SlAt eI W (some ⟨b, o, none⟩) n c l) (hx : l[i]? = some x) : W.cell? ⟨b, o + i, none⟩ = some (.int .i64 x) := h.cell kI (j := 0) hx rfl (by show o + i = o + (i * 1 + 0); omega)
theorem lK {W : World} {b o n c i : Nat} {l : List Int} {x : Int} (h : SlAt eK W (some ⟨b, o, none⟩) n c l) (hx : l[i]? = some x) : W.cell? ⟨b, o + i, none⟩ = some (.int .i64 x) := h.cell kK (j := 0) hx rfl (by show o + i = o + (i * 1 + 0); omega)
theorem lM {W : World} {b o n c i : Nat} {l : List Mp} {x : Mp} (h : SlAt eM W (some ⟨b, o, none⟩) n c l) (hx : l[i]? = some x) : (ldS 100 (.pointer (some ⟨b, o + i * 3, none⟩))).run Try.prog W = .ok (.agg x.cs) W := h.ld kM hx Try.underlying100 rfl rfl
theorem lM0 {W : World} {b o n c i : Nat} {l : List Mp} {x : Mp} (h : SlAt eM W (some ⟨b, o, none⟩) n c l) (hx : l[i]? = some x) : W.cell? ⟨b, o + i * 3, none⟩ = some (.int .i64 x.p) := h.cell kM (j := 0) hx rfl rfl
theorem lM1 {W : World} {b o n c i : Nat} {l : List Mp} {x : Mp} (h : SlAt eM W (some ⟨b, o, none⟩) n c l) (hx : l[i]? = some x) : W.cell? ⟨b, o + i * 3 + 1, none⟩ = some (.int .i64 x.v) := h.cell kM (j := 1) hx rfl rfl
theorem lM2 {W : World} {b o n c i : Nat} {l : List Mp} {x : Mp} (h : SlAt eM W (some ⟨b, o, none⟩) n c l) (hx : l[i]? = some x) : W.cell? ⟨b, o + i * 3 + 2, none⟩ = some (.int .i64 x.s) := h.cell kM (j := 2) hx rfl rfl
theorem lC {W : World} {b o n c i : Nat} {l : List Cr} {x : Cr} (h : SlAt eC W (some ⟨b, o, none⟩) n c l) (hx : l[i]? = some x) : (ldS 102 (.pointer (some ⟨b, o + i * 2, none⟩))).run Try.prog W = .ok (.agg x.cs) W := h.ld kC hx Try.underlying102 rfl rfl
theorem lC0 {W : World} {b o n c i : Nat} {l : List Cr} {x : Cr} (h : SlAt eC W (some ⟨b, o, none⟩) n c l) (hx : l[i]? = some x) : W.cell? ⟨b, o + i * 2, none⟩ = some (.int .i64 x.s) := h.cell kC (j := 0) hx rfl rfl
theorem lC1 {W : World} {b o n c i : Nat} {l : List Cr} {x : Cr} (h : SlAt eC W (some ⟨b, o, none⟩) n c l) (hx : l[i]? = some x) : W.cell? ⟨b, o + i * 2 + 1, none⟩ = some (.int .i64 x.v) := h.cell kC (j := 1) hx rfl rfl
theorem lB {W : World} {b o n c i : Nat} {l : List Mr} {x : Mr} (h : SlAt eB W (some ⟨b, o, none⟩) n c l) (hx : l[i]? = some x) : (ldS 76 (.pointer (some ⟨b, o + i * 2, none⟩))).run Try.prog W = .ok (.agg x.cs) W := h.ld kB hx Try.underlying76 rfl rfl
theorem lB0 {W : World} {b o n c i : Nat} {l : List Mr} {x : Mr} (h : SlAt eB W (some ⟨b, o, none⟩) n c l) (hx : l[i]? = some x) : W.cell? ⟨b, o + i * 2, none⟩ = some (.int .i64 x.v) := h.cell kB (j := 0) hx rfl rfl
theorem lB1 {W : World} {b o n c i : Nat} {l : List Mr} {x : Mr} (h : SlAt eB W (some ⟨b, o, none⟩) n c l) (hx : l[i]? = some x) : W.cell? ⟨b, o + i * 2 + 1, none⟩ = some (.slice x.a x.n x.c) := h.cell kB (j := 1) hx rfl rfl
/-! ### what is provisioned -/
/-- A bridge's address. -/
structure O6 where
  a : Int
  b : Int
  c : Int
  d : Int
  e : Int
  f : Int
def O6.cs (x : O6) : Array Value := #[.int .u8 x.a, .int .u8 x.b, .int .u8 x.c, .int .u8 x.d, .int .u8 x.e, .int .u8 x.f]
/-- A value that is a slice of l. -/
def SlV {α : Type} (e : El α) (W : World) (v : Value) (l : List α) : Prop := ∃ a n c, v = .slice a n c ∧ SlAt e W a n c l
theorem SlV.below {α : Type} {e : El α} {W W' : World} {v : Value} {l : List α} (h : SlV e W v l) (hb : Below W.heap.size W W') : SlV e W' v l := by
  obtain ⟨a, n, c, hv, hs⟩ := h
  exact ⟨a, n, c, hv, hs.below hb⟩
theorem SlV.none' {α : Type} {e : El α} (W : World) : SlV e W (.slice none 0 0) [] := ⟨_, _, _, rfl, SlAt.none' W⟩
theorem SlV.one {α : Type} {e : El α} {W : World} {v : Value} {l : List α} (h : SlV e W v l) : v.oneCell' = true := by
  obtain ⟨a, n, c, rfl, _⟩ := h
  rfl
theorem Own.slv {α : Type} {e : El α} {W : World} {B : Nat} {v : Value} {l : List α} (h : Own e W B v l) : SlV e W v l := by
  obtain ⟨a, c, rfl, hs, _⟩ := h.form
  exact ⟨_, _, _, rfl, hs⟩
theorem SlAt.slv {α : Type} {e : El α} {W : World} {a : Option Addr} {n c : Nat} {l : List α} (h : SlAt e W a n c l) : SlV e W (.slice a n c) l := ⟨_, _, _, rfl, h⟩
theorem slv_at {α : Type} {e : El α} {W : World} {a : Option Addr} {n c : Nat} {l : List α} (h : SlV e W (.slice a n c) l) : SlAt e W a n c l := by
  obtain ⟨_, _, _, e', hs⟩ := h
  cases e'
  exact hs
/-- Members as they lie in memory, and what they are. -/
structure Mem (W : World) (r : List Mr) (l : List Mb) : Prop where
  len : r.length = l.length
  at' : ∀ (i : Nat) (x : Mr) (y : Mb), r[i]? = some x → l[i]? = some y → x.v = y.v ∧ SlAt eI W x.a x.n x.c y.ps
theorem Mem.below {W W' : World} {r : List Mr} {l : List Mb} (h : Mem W r l) (hb : Below W.heap.size W W') : Mem W' r l := ⟨h.len, fun i x y hx hy => ⟨(h.at' i x y hx hy).1, (h.at' i x y hx hy).2.below hb⟩⟩
theorem Mem.nil (W : World) : Mem W [] [] := ⟨rfl, fun i x y hx => by simp at hx⟩
theorem Mem.get {W : World} {r : List Mr} {l : List Mb} (h : Mem W r l) {i : Nat} (hi : i < l.length) : ∃ x y, r[i]? = some x ∧ l[i]? = some y ∧ x.v = y.v ∧ SlAt eI W x.a x.n x.c y.ps := by
  have hr : i < r.length := by rw [h.len]; exact hi
  exact ⟨_, _, List.getElem?_eq_getElem hr, List.getElem?_eq_getElem hi, h.at' i _ _ (List.getElem?_eq_getElem hr) (List.getElem?_eq_getElem hi)⟩
theorem Mem.app {W : World} {r r' : List Mr} {l l' : List Mb} (h : Mem W r l) (k : Mem W r' l') : Mem W (r ++ r') (l ++ l') := by
  refine ⟨by rw [List.length_append, List.length_append, h.len, k.len], fun i x y hx hy => ?_⟩
  by_cases hi : i < r.length
  · rw [List.getElem?_append_left hi] at hx
    rw [List.getElem?_append_left (by rw [← h.len]; exact hi)] at hy
    exact h.at' i x y hx hy
  · rw [List.getElem?_append_right (by omega)] at hx
    rw [List.getElem?_append_right (by rw [← h.len]; omega), ← h.len] at hy
    exact k.at' _ x y hx hy
theorem Mem.one {W : World} {x : Mr} {y : Mb} (h : x.v = y.v) (k : SlAt eI W x.a x.n x.c y.ps) : Mem W [x] [y] := by
  refine ⟨rfl, fun i a b ha hb => ?_⟩
  cases i with
  | zero => simp at ha hb; subst ha hb; exact ⟨h, k⟩
  | succ i => simp at ha
theorem Mem.drop {W : World} {r : List Mr} {l : List Mb} (h : Mem W r l) (j : Nat) : Mem W (r.drop j) (l.drop j) := by
  refine ⟨by rw [List.length_drop, List.length_drop, h.len], fun i x y hx hy => ?_⟩
  rw [List.getElem?_drop] at hx hy
  exact h.at' _ x y hx hy
theorem Mem.take {W : World} {r : List Mr} {l : List Mb} (h : Mem W r l) (j : Nat) : Mem W (r.take j) (l.take j) := by
  refine ⟨by rw [List.length_take, List.length_take, h.len], fun i x y hx hy => ?_⟩
  rw [List.getElem?_take] at hx hy
  split at hx
  · rename_i hi
    rw [if_pos hi] at hy
    exact h.at' _ x y hx hy
  · cases hx
/-- A value that is a slice of members l. -/
def MbV (W : World) (v : Value) (l : List Mb) : Prop := ∃ r, SlV eB W v r ∧ Mem W r l
theorem MbV.below {W W' : World} {v : Value} {l : List Mb} (h : MbV W v l) (hb : Below W.heap.size W W') : MbV W' v l := by
  obtain ⟨r, h1, h2⟩ := h
  exact ⟨r, h1.below hb, h2.below hb⟩
theorem MbV.one {W : World} {v : Value} {l : List Mb} (h : MbV W v l) : v.oneCell' = true := by
  obtain ⟨r, h1, _⟩ := h
  exact h1.one
/-- What is provisioned. -/
structure Pv where
  o : O6
  ks : List Int
  ms : List Mp
  cs : List Cr
  bs : List Mb
/-- .. as it lies in memory. -/
structure Pr where
  o : O6
  k : Value
  m : Value
  c : Value
  b : Value
def Pr.cs (x : Pr) : Array Value := #[.int .u8 x.o.a, .int .u8 x.o.b, .int .u8 x.o.c, .int .u8 x.o.d, .int .u8 x.o.e, .int .u8 x.o.f, x.k, x.m, x.c, x.b]
def O6.wf (x : O6) : Prop := (0 ≤ x.a ∧ x.a ≤ 255) ∧ (0 ≤ x.b ∧ x.b ≤ 255) ∧ (0 ≤ x.c ∧ x.c ≤ 255) ∧ (0 ≤ x.d ∧ x.d ≤ 255) ∧ (0 ≤ x.e ∧ x.e ≤ 255) ∧ (0 ≤ x.f ∧ x.f ≤ 255)
structure IsPv (W : World) (x : Pr) (p : Pv) : Prop where
  o : x.o = p.o
  wf : p.o.wf
  k : SlV eK W x.k p.ks
  m : SlV eM W x.m p.ms
  c : SlV eC W x.c p.cs
  b : MbV W x.b p.bs
theorem IsPv.below {W W' : World} {x : Pr} {p : Pv} (h : IsPv W x p) (hb : Below W.heap.size W W') : IsPv W' x p := ⟨h.o, h.wf, h.k.below hb, h.m.below hb, h.c.below hb, h.b.below hb⟩
theorem IsPv.one {W : World} {x : Pr} {p : Pv} (h : IsPv W x p) : ∀ v ∈ x.cs.toList, v.oneCell' = true := by
  have i : ∀ k n, (Value.int k n).oneCell' = true := fun _ _ => rfl
  refine one_of ?_
  simp [Pr.cs, h.k.one, h.m.one, h.c.one, h.b.one, i]
/-- Its variable. -/
def PrAt (W : World) (b : Nat) (x : Pr) : Prop := RvAt W b 29 x.cs
theorem PrAt.below {W W' : World} {b : Nat} {x : Pr} (h : PrAt W b x) (hb : Below W.heap.size W W') : PrAt W' b x := RvAt.below h hb
theorem PrAt.lt {W : World} {b : Nat} {x : Pr} (h : PrAt W b x) : b < W.heap.size := RvAt.lt h
theorem PrAt.ld {W : World} {b : Nat} {x : Pr} (h : PrAt W b x) : (ldS 29 (.pointer (some ⟨b, 0, none⟩))).run Try.prog W = .ok (.agg x.cs) W := RvAt.ld rtP h rfl
theorem PrAt.k {W : World} {b : Nat} {x : Pr} (h : PrAt W b x) : W.cell? ⟨b, 6, none⟩ = some x.k := RvAt.cell h 6 _ rfl
theorem PrAt.m {W : World} {b : Nat} {x : Pr} (h : PrAt W b x) : W.cell? ⟨b, 7, none⟩ = some x.m := RvAt.cell h 7 _ rfl
theorem PrAt.c {W : World} {b : Nat} {x : Pr} (h : PrAt W b x) : W.cell? ⟨b, 8, none⟩ = some x.c := RvAt.cell h 8 _ rfl
theorem PrAt.b {W : World} {b : Nat} {x : Pr} (h : PrAt W b x) : W.cell? ⟨b, 9, none⟩ = some x.b := RvAt.cell h 9 _ rfl
theorem PrAt.new (W : World) (x : Pr) : ∃ V, W.alloc (.cells x.cs 29) = V ∧ PrAt V W.heap.size x ∧ Below W.heap.size W V ∧ V.heap.size = W.heap.size + 1 := ⟨_, rfl, RvAt.new W _ _, (Below.refl _ _).alloc (Nat.le_refl _) _, by simp⟩
theorem PrAt.own {W : World} {b : Nat} {x : Pr} (h : PrAt W b x) : (Instr.loadAt 23 (.pointer (some ⟨b, 0, none⟩))).run Try.prog W = .ok (.agg x.o.cs) W := by
  have := run_loadAt_mid (P := Try.prog) W b 0 23 x.o.cs.toList _ (fun r v hv => by
    rw [Nat.zero_add]
    refine RvAt.cell h r v ?_
    have hr : r < 6 := (List.getElem?_eq_some_iff.1 hv).1
    match r, hr, hv with
    | 0, _, hv => exact hv
    | 1, _, hv => exact hv
    | 2, _, hv => exact hv
    | 3, _, hv => exact hv
    | 4, _, hv => exact hv
    | 5, _, hv => exact hv) Try.underlying23 rfl (by kernel_rfl)
  exact this
/-! ### variables of rows -/
def MpAt (W : World) (b : Nat) (x : Mp) : Prop := RvAt W b 100 x.cs
def CrAt (W : World) (b : Nat) (x : Cr) : Prop := RvAt W b 102 x.cs
def MrAt (W : World) (b : Nat) (x : Mr) : Prop := RvAt W b 76 x.cs
theorem MpAt.below {W W' : World} {b : Nat} {x : Mp} (h : MpAt W b x) (hb : Below W.heap.size W W') : MpAt W' b x := RvAt.below h hb
theorem CrAt.below {W W' : World} {b : Nat} {x : Cr} (h : CrAt W b x) (hb : Below W.heap.size W W') : CrAt W' b x := RvAt.below h hb
theorem MrAt.below {W W' : World} {b : Nat} {x : Mr} (h : MrAt W b x) (hb : Below W.heap.size W W') : MrAt W' b x := RvAt.below h hb
theorem MpAt.ld {W : World} {b : Nat} {x : Mp} (h : MpAt W b x) : (ldS 100 (.pointer (some ⟨b, 0, none⟩))).run Try.prog W = .ok (.agg x.cs) W := RvAt.ld rtM h rfl
theorem CrAt.ld {W : World} {b : Nat} {x : Cr} (h : CrAt W b x) : (ldS 102 (.pointer (some ⟨b, 0, none⟩))).run Try.prog W = .ok (.agg x.cs) W := RvAt.ld rtC h rfl
theorem MrAt.ld {W : World} {b : Nat} {x : Mr} (h : MrAt W b x) : (ldS 76 (.pointer (some ⟨b, 0, none⟩))).run Try.prog W = .ok (.agg x.cs) W := RvAt.ld rtB h rfl
theorem MpAt.c0 {W : World} {b : Nat} {x : Mp} (h : MpAt W b x) : W.cell? ⟨b, 0, none⟩ = some (.int .i64 x.p) := RvAt.cell h 0 _ rfl
theorem MpAt.c1 {W : World} {b : Nat} {x : Mp} (h : MpAt W b x) : W.cell? ⟨b, 1, none⟩ = some (.int .i64 x.v) := RvAt.cell h 1 _ rfl
theorem MpAt.c2 {W : World} {b : Nat} {x : Mp} (h : MpAt W b x) : W.cell? ⟨b, 2, none⟩ = some (.int .i64 x.s) := RvAt.cell h 2 _ rfl
theorem CrAt.c0 {W : World} {b : Nat} {x : Cr} (h : CrAt W b x) : W.cell? ⟨b, 0, none⟩ = some (.int .i64 x.s) := RvAt.cell h 0 _ rfl
theorem CrAt.c1 {W : World} {b : Nat} {x : Cr} (h : CrAt W b x) : W.cell? ⟨b, 1, none⟩ = some (.int .i64 x.v) := RvAt.cell h 1 _ rfl
theorem MrAt.c0 {W : World} {b : Nat} {x : Mr} (h : MrAt W b x) : W.cell? ⟨b, 0, none⟩ = some (.int .i64 x.v) := RvAt.cell h 0 _ rfl
theorem MrAt.c1 {W : World} {b : Nat} {x : Mr} (h : MrAt W b x) : W.cell? ⟨b, 1, none⟩ = some (.slice x.a x.n x.c) := RvAt.cell h 1 _ rfl
theorem MpAt.put (W : World) (x : Mp) : ∃ V, (stS 100 (.pointer (some ⟨W.heap.size, 0, none⟩)) (.agg x.cs)).run Try.prog (W.alloc (.cells #[.int .i64 0, .int .i64 0, .int .i64 0] 100)) = .ok () V ∧ MpAt V W.heap.size x ∧ Below W.heap.size W V := by
  obtain ⟨V, h1, h2, h3, _⟩ := row_new rtM W #[.int .i64 0, .int .i64 0, .int .i64 0] x.cs rfl rfl (one_of rfl)
  exact ⟨V, h1, h2, h3⟩
theorem CrAt.put (W : World) (x : Cr) : ∃ V, (stS 102 (.pointer (some ⟨W.heap.size, 0, none⟩)) (.agg x.cs)).run Try.prog (W.alloc (.cells #[.int .i64 0, .int .i64 0] 102)) = .ok () V ∧ CrAt V W.heap.size x ∧ Below W.heap.size W V := by
  obtain ⟨V, h1, h2, h3, _⟩ := row_new rtC W #[.int .i64 0, .int .i64 0] x.cs rfl rfl (one_of rfl)
  exact ⟨V, h1, h2, h3⟩
theorem MrAt.put (W : World) (x : Mr) : ∃ V, (stS 76 (.pointer (some ⟨W.heap.size, 0, none⟩)) (.agg x.cs)).run Try.prog (W.alloc (.cells #[.int .i64 0, .slice none 0 0] 76)) = .ok () V ∧ MrAt V W.heap.size x ∧ Below W.heap.size W V := by
  obtain ⟨V, h1, h2, h3, _⟩ := row_new rtB W #[.int .i64 0, .slice none 0 0] x.cs rfl rfl (one_of rfl)
  exact ⟨V, h1, h2, h3⟩
theorem MpAt.new (W : World) (x : Mp) : ∃ V, W.alloc (.cells x.cs 100) = V ∧ MpAt V W.heap.size x ∧ Below W.heap.size W V ∧ V.heap.size = W.heap.size + 1 := ⟨_, rfl, RvAt.new W _ _, (Below.refl _ _).alloc (Nat.le_refl _) _, by simp⟩
theorem CrAt.new (W : World) (x : Cr) : ∃ V, W.alloc (.cells x.cs 102) = V ∧ CrAt V W.heap.size x ∧ Below W.heap.size W V ∧ V.heap.size = W.heap.size + 1 := ⟨_, rfl, RvAt.new W _ _, (Below.refl _ _).alloc (Nat.le_refl _) _, by simp⟩
theorem MrAt.new (W : World) (x : Mr) : ∃ V, W.alloc (.cells x.cs 76) = V ∧ MrAt V W.heap.size x ∧ Below W.heap.size W V ∧ V.heap.size = W.heap.size + 1 := ⟨_, rfl, RvAt.new W _ _, (Below.refl _ _).alloc (Nat.le_refl _) _, by simp⟩
theorem Own.mono {α : Type} {e : El α} {W : World} {B B' : Nat} {v : Value} {l : List α} (h : Own e W B v l) (hb : B' ≤ B) : Own e W B' v l := by
  refine ⟨h.1, ?_⟩
  rcases h.2 with h2 | ⟨g, cap, cur, h1, hB, hr⟩
  · exact Or.inl h2
  · exact Or.inr ⟨g, cap, cur, h1, Nat.le_trans hb hB, hr⟩
theorem lt_nth {α : Type} {l : List α} {i : Nat} (h : i < l.length) : ∃ x, l[i]? = some x := ⟨_, List.getElem?_eq_getElem h⟩
/-- From place i on: the one that stands there, and those behind it. -/
theorem drop_at {α : Type} {l : List α} {i : Nat} {x : α} (h : l[i]? = some x) : l.drop i = x :: l.drop (i + 1) := by
  have hl := (List.getElem?_eq_some_iff.1 h).1
  rw [List.drop_eq_getElem_cons hl]
  rw [(List.getElem?_eq_some_iff.1 h).2]
theorem drop_end {α : Type} {l : List α} {i : Nat} (h : l.length ≤ i) : l.drop i = [] := List.drop_eq_nil_of_le h
end

section
set_option linter.unusedVariables false
set_option maxRecDepth 4000
set_option linter.unusedSimpArgs false

/-- What stands first of a row, by a test. -/
def fnd {α : Type} (c : α → Bool) (g : α → Int) : List α → Int × Bool
  | [] => (0, false)
  | x :: l => if c x then (g x, true) else fnd c g l
theorem fnd_yes {α : Type} {c : α → Bool} {g : α → Int} {l : List α} {i : Nat} {x : α} (h : l[i]? = some x) (hc : c x = true) : fnd c g (l.drop i) = (g x, true) := by
  rw [drop_at h, fnd, if_pos hc]
theorem fnd_no {α : Type} {c : α → Bool} {g : α → Int} {l : List α} {i : Nat} {x : α} (h : l[i]? = some x) (hc : c x = false) : fnd c g (l.drop i) = fnd c g (l.drop (i + 1)) := by
  rw [drop_at h, fnd, if_neg (by rw [hc]; decide)]
theorem fnd_end {α : Type} {c : α → Bool} {g : α → Int} {l : List α} {i : Nat} (h : l.length ≤ i) : fnd c g (l.drop i) = (0, false) := by
  rw [drop_end h]
  rfl
def svc (p : Pv) (port vid : Int) : Int × Bool := fnd (fun m => m.p == port && m.v == vid) (fun m => m.s) p.ms
def vof (p : Pv) (port isid : Int) : Int × Bool := fnd (fun m => m.p == port && m.s == isid) (fun m => m.v) p.ms
def car (p : Pv) (isid : Int) : Int × Bool := fnd (fun c => c.s == isid) (fun c => c.v) p.cs
/-- The ports of the first member of a VLAN. -/
def ptl (vid : Int) : List Mb → Option (List Int)
  | [] => none
  | x :: l => if x.v == vid then some x.ps else ptl vid l
theorem ptl_yes {vid : Int} {l : List Mb} {i : Nat} {x : Mb} (h : l[i]? = some x) (hc : x.v = vid) : ptl vid (l.drop i) = some x.ps := by
  rw [drop_at h, ptl, if_pos (by simp [hc])]
theorem ptl_no {vid : Int} {l : List Mb} {i : Nat} {x : Mb} (h : l[i]? = some x) (hc : ¬ x.v = vid) : ptl vid (l.drop i) = ptl vid (l.drop (i + 1)) := by
  rw [drop_at h, ptl, if_neg (by simp [hc])]
theorem ptl_end {vid : Int} {l : List Mb} {i : Nat} (h : l.length ≤ i) : ptl vid (l.drop i) = none := by
  rw [drop_end h]
  rfl
def pts (p : Pv) (vid : Int) : Option (List Int) := ptl vid p.bs
def att (p : Pv) (isid : Int) : List Int := (p.ms.filter (fun m => m.s == isid)).map (fun m => m.p)
def svs (p : Pv) (vid : Int) : List Int := (p.cs.filter (fun c => c.v == vid)).map (fun c => c.s)
/-- Some of a row, gone through from place i on. -/
theorem fil_yes {α : Type} {c : α → Bool} {g : α → Int} {l : List α} {i : Nat} {x : α} (h : l[i]? = some x) (hc : c x = true) : ((l.drop i).filter c).map g = g x :: ((l.drop (i + 1)).filter c).map g := by
  rw [drop_at h, List.filter_cons, if_pos hc, List.map_cons]
theorem fil_no {α : Type} {c : α → Bool} {g : α → Int} {l : List α} {i : Nat} {x : α} (h : l[i]? = some x) (hc : c x = false) : ((l.drop i).filter c).map g = ((l.drop (i + 1)).filter c).map g := by
  rw [drop_at h, List.filter_cons, if_neg (by rw [hc]; decide)]
theorem fil_end {α : Type} {c : α → Bool} {g : α → Int} {l : List α} {i : Nat} (h : l.length ≤ i) : ((l.drop i).filter c).map g = [] := by
  rw [drop_end h]
  rfl
end

section
set_option linter.unusedVariables false
set_option maxRecDepth 4000
set_option linter.unusedSimpArgs false
open Go.RowKit
attribute [local go_sem ↓] ldM stM ldC stC ldB stB ldP stP apI bsI
attribute [local go_sem] bsI_is

set_option maxHeartbeats 2000000 in
theorem svc_any (x : Pr) (p : Pv) (port vid : Int) (w : World) (h : IsPv w x p) :
    Calls Try.prog 36 #[.agg x.cs, .int .i64 port, .int .i64 vid] w fun r w' => r = .returned (.tuple #[.int .i64 (svc p port vid).1, .bool (svc p port vid).2]) ∧ Below w.heap.size w w' := by
  obtain ⟨a, n, c, hv, hs⟩ := h.m
  obtain ⟨W, hW, r0, bW, zW⟩ := PrAt.new w x
  have c7 := r0.m
  rw [hv] at c7
  have hnn := hs.int
  obtain ⟨R, hR⟩ : ∃ z, svc p port vid = z := ⟨_, rfl⟩
  have H : Hid (SlAt eM W a n c p.ms ∧ p.ms.length = n ∧ Below w.heap.size w W ∧ PrAt W w.heap.size x ∧ x.m = .slice a n c) := ⟨hs.below bW, hs.len, bW, r0, hv⟩
  have HR : Hid (svc p port vid = R) := hR
  rw [hR]
  clear hs bW zW r0 h hv hR
  go_enter Try.func36, Try.ntmps36
  go_wp2_with fail
  go_loopw [13] (fun v13 wr => ∃ i : Nat, i ≤ n ∧ v13 = .int .i64 i ∧ R = fnd (fun m => m.p == port && m.v == vid) (fun m => m.s) (p.ms.drop i) ∧ Below W.heap.size W wr) (fun v13 _ => n - (intOf v13).toNat)
  case atStart => exact ⟨0, by omega, rfl, HR.out.symm, Below.refl _ _⟩
  case round =>
    obtain ⟨i, hi, rfl, hf, hB⟩ := hrel
    have J : Hid (R = fnd (fun m => m.p == port && m.v == vid) (fun m => m.s) (p.ms.drop i) ∧ Below W.heap.size W wr) := ⟨hf, hB⟩
    have hi0 : (0 : Int) ≤ (i : Int) := by omega
    clear c7
    have c7 := (H.out.2.2.2.1.below hB).m
    rw [H.out.2.2.2.2] at c7
    by_cases hit : i < n
    · have hi1 : (i : Int) < (n : Int) := by omega
      obtain ⟨b, o, rfl⟩ := H.out.1.some' (by omega)
      obtain ⟨y, hx⟩ := lt_nth (l := p.ms) (i := i) (by rw [H.out.2.1]; exact hit)
      have l1 := lM (H.out.1.below hB) hx
      obtain ⟨V, sV, mV, bV⟩ := MpAt.put wr y
      have k0 := mV.c0
      have k1 := mV.c1
      have k2 := mV.c2
      have HX : Hid (p.ms[i]? = some y) := hx
      clear hf hB hx mV
      by_cases e0 : y.p = port
      · have q0 : (y.p == port) = true := by simp [e0]
        have Q0 : Hid (y.p = port) := e0
        clear e0
        by_cases e1 : y.v = vid
        · have q1 : (y.v == vid) = true := by simp [e1]
          have Q1 : Hid (y.v = vid) := e1
          clear e1
          have E : Hid (R = (y.s, true)) := by rw [J.out.1, fnd_yes HX.out (by simp [Q0.out, Q1.out])]; exact rfl
          go_wp2
          go_returns
          exact ⟨by rw [E.out]; rfl, below_over H.out.2.2.1 (below_over J.out.2 bV)⟩
        · have q1 : (y.v == vid) = false := by simp [e1]
          have Q1 : Hid (¬ y.v = vid) := e1
          clear e1
          have E : Hid (R = fnd (fun m => m.p == port && m.v == vid) (fun m => m.s) (p.ms.drop (i + 1))) := by rw [J.out.1, fnd_no HX.out (by simp [Q1.out])]; exact rfl
          go_wp2
          go_roundw
          case rel => exact ⟨i + 1, by omega, by go_num, E.out, (below_over J.out.2 bV)⟩
          case measure => simp [intOf]; omega
      · have q0 : (y.p == port) = false := by simp [e0]
        have Q0 : Hid (¬ y.p = port) := e0
        clear e0
        have E : Hid (R = fnd (fun m => m.p == port && m.v == vid) (fun m => m.s) (p.ms.drop (i + 1))) := by rw [J.out.1, fnd_no HX.out (by simp [Q0.out])]; exact rfl
        go_wp2
        go_roundw
        case rel => exact ⟨i + 1, by omega, by go_num, E.out, (below_over J.out.2 bV)⟩
        case measure => simp [intOf]; omega
    · have hin : i = n := by omega
      subst hin
      have hi1 : ¬ (i : Int) < (i : Int) := by omega
      have E : Hid (R = (0, false)) := by rw [J.out.1, fnd_end (by rw [H.out.2.1]; exact Nat.le_refl _)]; exact rfl
      clear hf hB
      go_wp2
      go_returns
      exact ⟨by rw [E.out]; rfl, below_over H.out.2.2.1 J.out.2⟩
set_option maxHeartbeats 2000000 in
theorem vof_any (x : Pr) (p : Pv) (port isid : Int) (w : World) (h : IsPv w x p) :
    Calls Try.prog 85 #[.agg x.cs, .int .i64 port, .int .i64 isid] w fun r w' => r = .returned (.tuple #[.int .i64 (vof p port isid).1, .bool (vof p port isid).2]) ∧ Below w.heap.size w w' := by
  obtain ⟨a, n, c, hv, hs⟩ := h.m
  obtain ⟨W, hW, r0, bW, zW⟩ := PrAt.new w x
  have c7 := r0.m
  rw [hv] at c7
  have hnn := hs.int
  obtain ⟨R, hR⟩ : ∃ z, vof p port isid = z := ⟨_, rfl⟩
  have H : Hid (SlAt eM W a n c p.ms ∧ p.ms.length = n ∧ Below w.heap.size w W ∧ PrAt W w.heap.size x ∧ x.m = .slice a n c) := ⟨hs.below bW, hs.len, bW, r0, hv⟩
  have HR : Hid (vof p port isid = R) := hR
  rw [hR]
  clear hs bW zW r0 h hv hR
  go_enter Try.func85, Try.ntmps85
  go_wp2_with fail
  go_loopw [13] (fun v13 wr => ∃ i : Nat, i ≤ n ∧ v13 = .int .i64 i ∧ R = fnd (fun m => m.p == port && m.s == isid) (fun m => m.v) (p.ms.drop i) ∧ Below W.heap.size W wr) (fun v13 _ => n - (intOf v13).toNat)
  case atStart => exact ⟨0, by omega, rfl, HR.out.symm, Below.refl _ _⟩
  case round =>
    obtain ⟨i, hi, rfl, hf, hB⟩ := hrel
    have J : Hid (R = fnd (fun m => m.p == port && m.s == isid) (fun m => m.v) (p.ms.drop i) ∧ Below W.heap.size W wr) := ⟨hf, hB⟩
    have hi0 : (0 : Int) ≤ (i : Int) := by omega
    clear c7
    have c7 := (H.out.2.2.2.1.below hB).m
    rw [H.out.2.2.2.2] at c7
    by_cases hit : i < n
    · have hi1 : (i : Int) < (n : Int) := by omega
      obtain ⟨b, o, rfl⟩ := H.out.1.some' (by omega)
      obtain ⟨y, hx⟩ := lt_nth (l := p.ms) (i := i) (by rw [H.out.2.1]; exact hit)
      have l1 := lM (H.out.1.below hB) hx
      obtain ⟨V, sV, mV, bV⟩ := MpAt.put wr y
      have k0 := mV.c0
      have k1 := mV.c1
      have k2 := mV.c2
      have HX : Hid (p.ms[i]? = some y) := hx
      clear hf hB hx mV
      by_cases e0 : y.p = port
      · have q0 : (y.p == port) = true := by simp [e0]
        have Q0 : Hid (y.p = port) := e0
        clear e0
        by_cases e1 : y.s = isid
        · have q1 : (y.s == isid) = true := by simp [e1]
          have Q1 : Hid (y.s = isid) := e1
          clear e1
          have E : Hid (R = (y.v, true)) := by rw [J.out.1, fnd_yes HX.out (by simp [Q0.out, Q1.out])]; exact rfl
          go_wp2
          go_returns
          exact ⟨by rw [E.out]; rfl, below_over H.out.2.2.1 (below_over J.out.2 bV)⟩
        · have q1 : (y.s == isid) = false := by simp [e1]
          have Q1 : Hid (¬ y.s = isid) := e1
          clear e1
          have E : Hid (R = fnd (fun m => m.p == port && m.s == isid) (fun m => m.v) (p.ms.drop (i + 1))) := by rw [J.out.1, fnd_no HX.out (by simp [Q1.out])]; exact rfl
          go_wp2
          go_roundw
          case rel => exact ⟨i + 1, by omega, by go_num, E.out, (below_over J.out.2 bV)⟩
          case measure => simp [intOf]; omega
      · have q0 : (y.p == port) = false := by simp [e0]
        have Q0 : Hid (¬ y.p = port) := e0
        clear e0
        have E : Hid (R = fnd (fun m => m.p == port && m.s == isid) (fun m => m.v) (p.ms.drop (i + 1))) := by rw [J.out.1, fnd_no HX.out (by simp [Q0.out])]; exact rfl
        go_wp2
        go_roundw
        case rel => exact ⟨i + 1, by omega, by go_num, E.out, (below_over J.out.2 bV)⟩
        case measure => simp [intOf]; omega
    · have hin : i = n := by omega
      subst hin
      have hi1 : ¬ (i : Int) < (i : Int) := by omega
      have E : Hid (R = (0, false)) := by rw [J.out.1, fnd_end (by rw [H.out.2.1]; exact Nat.le_refl _)]; exact rfl
      clear hf hB
      go_wp2
      go_returns
      exact ⟨by rw [E.out]; rfl, below_over H.out.2.2.1 J.out.2⟩
set_option maxHeartbeats 2000000 in
theorem car_any (x : Pr) (p : Pv) (isid : Int) (w : World) (h : IsPv w x p) :
    Calls Try.prog 41 #[.agg x.cs, .int .i64 isid] w fun r w' => r = .returned (.tuple #[.int .i64 (car p isid).1, .bool (car p isid).2]) ∧ Below w.heap.size w w' := by
  obtain ⟨a, n, c, hv, hs⟩ := h.c
  obtain ⟨W, hW, r0, bW, zW⟩ := PrAt.new w x
  have c7 := r0.c
  rw [hv] at c7
  have hnn := hs.int
  obtain ⟨R, hR⟩ : ∃ z, car p isid = z := ⟨_, rfl⟩
  have H : Hid (SlAt eC W a n c p.cs ∧ p.cs.length = n ∧ Below w.heap.size w W ∧ PrAt W w.heap.size x ∧ x.c = .slice a n c) := ⟨hs.below bW, hs.len, bW, r0, hv⟩
  have HR : Hid (car p isid = R) := hR
  rw [hR]
  clear hs bW zW r0 h hv hR
  go_enter Try.func41, Try.ntmps41
  go_wp2_with fail
  go_loopw [11] (fun v13 wr => ∃ i : Nat, i ≤ n ∧ v13 = .int .i64 i ∧ R = fnd (fun m => m.s == isid) (fun m => m.v) (p.cs.drop i) ∧ Below W.heap.size W wr) (fun v13 _ => n - (intOf v13).toNat)
  case atStart => exact ⟨0, by omega, rfl, HR.out.symm, Below.refl _ _⟩
  case round =>
    obtain ⟨i, hi, rfl, hf, hB⟩ := hrel
    have J : Hid (R = fnd (fun m => m.s == isid) (fun m => m.v) (p.cs.drop i) ∧ Below W.heap.size W wr) := ⟨hf, hB⟩
    have hi0 : (0 : Int) ≤ (i : Int) := by omega
    clear c7
    have c7 := (H.out.2.2.2.1.below hB).c
    rw [H.out.2.2.2.2] at c7
    by_cases hit : i < n
    · have hi1 : (i : Int) < (n : Int) := by omega
      obtain ⟨b, o, rfl⟩ := H.out.1.some' (by omega)
      obtain ⟨y, hx⟩ := lt_nth (l := p.cs) (i := i) (by rw [H.out.2.1]; exact hit)
      have l1 := lC (H.out.1.below hB) hx
      obtain ⟨V, sV, mV, bV⟩ := CrAt.put wr y
      have k0 := mV.c0
      have k1 := mV.c1
      have HX : Hid (p.cs[i]? = some y) := hx
      clear hf hB hx mV
      by_cases e0 : y.s = isid
      · have q0 : (y.s == isid) = true := by simp [e0]
        have Q0 : Hid (y.s = isid) := e0
        clear e0
        have E : Hid (R = (y.v, true)) := by rw [J.out.1, fnd_yes HX.out (by simp [Q0.out])]; exact rfl
        go_wp2
        go_returns
        exact ⟨by rw [E.out]; rfl, below_over H.out.2.2.1 (below_over J.out.2 bV)⟩
      · have q0 : (y.s == isid) = false := by simp [e0]
        have Q0 : Hid (¬ y.s = isid) := e0
        clear e0
        have E : Hid (R = fnd (fun m => m.s == isid) (fun m => m.v) (p.cs.drop (i + 1))) := by rw [J.out.1, fnd_no HX.out (by simp [Q0.out])]; exact rfl
        go_wp2
        go_roundw
        case rel => exact ⟨i + 1, by omega, by go_num, E.out, (below_over J.out.2 bV)⟩
        case measure => simp [intOf]; omega
    · have hin : i = n := by omega
      subst hin
      have hi1 : ¬ (i : Int) < (i : Int) := by omega
      have E : Hid (R = (0, false)) := by rw [J.out.1, fnd_end (by rw [H.out.2.1]; exact Nat.le_refl _)]; exact rfl
      clear hf hB
      go_wp2
      go_returns
      exact ⟨by rw [E.out]; rfl, below_over H.out.2.2.1 J.out.2⟩
set_option maxHeartbeats 2000000 in
theorem att_any (x : Pr) (p : Pv) (isid : Int) (w : World) (h : IsPv w x p) (hl : p.ms.length ≤ 100) :
    Calls Try.prog 50 #[.agg x.cs, .int .i64 isid] w fun r w' => (∃ v, r = .returned v ∧ Own eI w' w.heap.size v (att p isid)) ∧ Below w.heap.size w w' := by
  obtain ⟨a, n, c, hv, hs⟩ := h.m
  obtain ⟨W, hW, r0, bW, zW⟩ := PrAt.new w x
  have c7 := r0.m
  rw [hv] at c7
  have hnn := hs.int
  obtain ⟨R, hR⟩ : ∃ z, att p isid = z := ⟨_, rfl⟩
  have H : Hid (SlAt eM W a n c p.ms ∧ p.ms.length = n ∧ Below w.heap.size w W ∧ PrAt W w.heap.size x ∧ x.m = .slice a n c ∧ n ≤ 100) := ⟨hs.below bW, hs.len, bW, r0, hv, by rw [← hs.len]; exact hl⟩
  have HR : Hid (att p isid = R) := hR
  rw [hR]
  clear hs bW zW r0 h hv hR hl
  go_enter Try.func50, Try.ntmps50
  go_wp2_with fail
  go_loopw [5, 11] (fun u v wr => ∃ (i : Nat) (acc : List Int), i ≤ n ∧ v = .int .i64 i ∧ R = acc ++ ((p.ms.drop i).filter (fun m => m.s == isid)).map (fun m => m.p) ∧ acc.length ≤ i ∧ Own eI wr W.heap.size u acc ∧ Below W.heap.size W wr) (fun u v _ => n - (intOf v).toNat)
  case atStart => exact ⟨0, [], by omega, rfl, HR.out.symm, Nat.le_refl _, Own.nil _ _, Below.refl _ _⟩
  case round =>
    obtain ⟨i, acc, hi, rfl, hf, ha, hO, hB⟩ := hrel
    have J : Hid (R = acc ++ ((p.ms.drop i).filter (fun m => m.s == isid)).map (fun m => m.p) ∧ acc.length ≤ i ∧ Own eI wr W.heap.size u5 acc ∧ Below W.heap.size W wr) := ⟨hf, ha, hO, hB⟩
    have hi0 : (0 : Int) ≤ (i : Int) := by omega
    clear c7
    have c7 := (H.out.2.2.2.1.below hB).m
    rw [H.out.2.2.2.2.1] at c7
    by_cases hit : i < n
    · have hi1 : (i : Int) < (n : Int) := by omega
      obtain ⟨b, o, rfl⟩ := H.out.1.some' (by omega)
      obtain ⟨y, hx⟩ := lt_nth (l := p.ms) (i := i) (by rw [H.out.2.1]; exact hit)
      have l1 := lM (H.out.1.below hB) hx
      obtain ⟨V, sV, mV, bV⟩ := MpAt.put wr y
      have k0 := mV.c0
      have k1 := mV.c1
      have k2 := mV.c2
      have G : Hid (Own eI V W.heap.size u5 acc ∧ Below W.heap.size W V) := ⟨hO.below bV, below_over hB bV⟩
      have HX : Hid (p.ms[i]? = some y) := hx
      by_cases e0 : y.s = isid
      · have q0 : (y.s == isid) = true := by simp [e0]
        have E : Hid (R = (acc ++ [y.p]) ++ ((p.ms.drop (i + 1)).filter (fun m => m.s == isid)).map (fun m => m.p)) := by rw [J.out.1, fil_yes HX.out q0, List.append_assoc]; exact rfl
        obtain ⟨v', X, aX, oX, bX⟩ := nI G.out.1 G.out.2.size (by have := H.out.2.2.2.2.2; have := J.out.2.1; omega) y.p
        clear e0 hf ha hO hB hx mV bV
        go_wp2
        go_roundw
        case rel => exact ⟨i + 1, _, by omega, by go_num, E.out, by have := J.out.2.1; simp; omega, oX, G.out.2.trans bX⟩
        case measure => simp [intOf]; omega
      · have q0 : (y.s == isid) = false := by simp [e0]
        have E : Hid (R = acc ++ ((p.ms.drop (i + 1)).filter (fun m => m.s == isid)).map (fun m => m.p)) := by rw [J.out.1, fil_no HX.out q0]; exact rfl
        clear e0 hf ha hO hB hx mV bV
        go_wp2
        go_roundw
        case rel => exact ⟨i + 1, acc, by omega, by go_num, E.out, by have := J.out.2.1; omega, G.out.1, G.out.2⟩
        case measure => simp [intOf]; omega
    · have hin : i = n := by omega
      subst hin
      have hi1 : ¬ (i : Int) < (i : Int) := by omega
      have E : Hid (R = acc) := by rw [J.out.1, fil_end (by rw [H.out.2.1]; exact Nat.le_refl _), List.append_nil]; exact rfl
      clear hf ha hO hB
      go_wp2
      go_ret
      exact ⟨⟨_, rfl, by rw [E.out]; exact J.out.2.2.1.mono H.out.2.2.1.size⟩, below_over H.out.2.2.1 J.out.2.2.2⟩
end

end Go.Proofs.Ytgjagedngdhdaaa
