/-
  The kinds of rows that span and its definition keep: edges, sides, nodes, ends, vectors, numbers; loads, stores, appends, sealed. Plain laws over the program's types.
-/
import Derived.Test.YtcagdfdhpbeolaaSq
import Derived.Test.YtcagdfdhpbeolaaVRef
namespace Go.Proofs.Ytcagdfdhpbeolaa
set_option linter.unusedVariables false
set_option maxRecDepth 4000
set_option linter.unusedSimpArgs false
open Go.RowKit

/-- An edge, as it is handed in. -/
structure Eg where
  a : Int
  pa : Int
  b : Int
  pb : Int
  ca : Int
  cb : Int
def Eg.cs (x : Eg) : Array Value := #[.int .i64 x.a, .int .i64 x.pa, .int .i64 x.b, .int .i64 x.pb, .int .u32 x.ca, .int .u32 x.cb]
/-- .. seen from its other end. -/
def Eg.turn (x : Eg) : Eg := ⟨x.b, x.pb, x.a, x.pa, x.cb, x.ca⟩
def inI (n : Int) : Prop := -9223372036854775808 ≤ n ∧ n ≤ 9223372036854775807
structure Eg.wf (x : Eg) : Prop where
  a : inI x.a
  pa : inI x.pa
  b : inI x.b
  pb : inI x.pb
  ca : 0 ≤ x.ca ∧ x.ca ≤ 4294967295
  cb : 0 ≤ x.cb ∧ x.cb ≤ 4294967295
theorem Eg.wf.turn {x : Eg} (h : x.wf) : x.turn.wf := ⟨h.b, h.pb, h.a, h.pa, h.cb, h.ca⟩
/-- A bridge's root, cost and root port. -/
structure Nd where
  r : Nat
  c : Nat
  p : Int
def Nd.cs (x : Nd) : Array Value := #[.int .u64 (x.r : Int), .int .u32 (x.c : Int), .int .i64 x.p]
/-- A port in an edge. -/
structure En where
  b : Int
  p : Int
  o : Int
  v : V4
def En.cs (x : En) : Array Value := #[.int .i64 x.b, .int .i64 x.p, .int .i64 x.o, .int .u64 x.v.r, .int .u32 x.v.c, .int .u64 x.v.b, .int .u16 x.v.p]
/-- A side, as the definition keeps it: that of an edge seen from A. -/
def Eg.ss (x : Eg) : Array Value := #[.int .i64 x.a, .int .i64 x.pa, .int .u32 x.ca, .int .i64 x.b, .int .i64 x.pb]
/-- An address, and a port, as arrays. -/
def adr (n : Int) : Array Value := #[.int .u8 (n / 1099511627776 % 256), .int .u8 (n / 4294967296 % 256), .int .u8 (n / 16777216 % 256), .int .u8 (n / 65536 % 256), .int .u8 (n / 256 % 256), .int .u8 (n % 256)]
def prt (x : Int × Int) : Array Value := #[.int .i64 x.1, .int .i64 x.2]
def eE : El Eg := ⟨Eg.cs, 50, 23, 6, 40⟩
def eU : El Nat := ⟨fun n => #[.int .u64 (n : Int)], 53, 22, 1, 8⟩
def eN : El Nd := ⟨Nd.cs, 60, 26, 3, 24⟩
def eX : El En := ⟨En.cs, 58, 37, 7, 56⟩
def eI : El Int := ⟨fun n => #[.int .i64 n], 3, 43, 1, 8⟩
def eA : El Int := ⟨adr, 93, 91, 6, 6⟩
def eP : El (Int × Int) := ⟨prt, 98, 97, 2, 16⟩
def eS : El Eg := ⟨Eg.ss, 64, 61, 5, 40⟩
def eV : El V4 := ⟨V4.cs, 56, 71, 4, 32⟩
def eM : El Nd := ⟨Nd.cs, 72, 30, 3, 24⟩
def eY : El En := ⟨En.cs, 87, 40, 7, 56⟩
theorem one_of {l : List Value} (h : l.all (fun v => v.oneCell') = true) : ∀ v ∈ l, v.oneCell' = true := fun v hv => List.all_eq_true.1 h v hv
theorem kE : eE.Ok := ⟨fun _ => rfl, by decide, fun _ => one_of rfl, Try.underlying23, ⟨.agg (Eg.cs ⟨0, 0, 0, 0, 0, 0⟩), by kernel_rfl, rfl⟩, by decide⟩
theorem kU : eU.Ok := ⟨fun _ => rfl, by decide, fun _ => one_of rfl, Try.underlying22, ⟨.int .u64 0, by kernel_rfl, rfl⟩, by decide⟩
theorem kN : eN.Ok := ⟨fun _ => rfl, by decide, fun _ => one_of rfl, Try.underlying26, ⟨.agg (Nd.cs ⟨0, 0, 0⟩), by kernel_rfl, rfl⟩, by decide⟩
theorem kX : eX.Ok := ⟨fun _ => rfl, by decide, fun _ => one_of rfl, Try.underlying37, ⟨.agg (En.cs ⟨0, 0, 0, ⟨0, 0, 0, 0⟩⟩), by kernel_rfl, rfl⟩, by decide⟩
theorem kI : eI.Ok := ⟨fun _ => rfl, by decide, fun _ => one_of rfl, Try.underlying43, ⟨.int .i64 0, by kernel_rfl, rfl⟩, by decide⟩
theorem kA : eA.Ok := ⟨fun _ => rfl, by decide, fun _ => one_of rfl, Try.underlying91, ⟨.agg (adr 0), by kernel_rfl, rfl⟩, by decide⟩
theorem kP : eP.Ok := ⟨fun _ => rfl, by decide, fun _ => one_of rfl, Try.underlying97, ⟨.agg (prt (0, 0)), by kernel_rfl, rfl⟩, by decide⟩
theorem kS : eS.Ok := ⟨fun _ => rfl, by decide, fun _ => one_of rfl, Try.underlying61, ⟨.agg (Eg.ss ⟨0, 0, 0, 0, 0, 0⟩), by kernel_rfl, rfl⟩, by decide⟩
theorem kV : eV.Ok := ⟨fun _ => rfl, by decide, fun _ => one_of rfl, Try.underlying71, ⟨.agg (V4.cs ⟨0, 0, 0, 0⟩), by kernel_rfl, rfl⟩, by decide⟩
theorem kM : eM.Ok := ⟨fun _ => rfl, by decide, fun _ => one_of rfl, Try.underlying30, ⟨.agg (Nd.cs ⟨0, 0, 0⟩), by kernel_rfl, rfl⟩, by decide⟩
theorem kY : eY.Ok := ⟨fun _ => rfl, by decide, fun _ => one_of rfl, Try.underlying40, ⟨.agg (En.cs ⟨0, 0, 0, ⟨0, 0, 0, 0⟩⟩), by kernel_rfl, rfl⟩, by decide⟩
theorem infoE : (Try.prog.info? 50).map (·.size) = some 6 := by kernel_rfl
theorem infoN : (Try.prog.info? 60).map (·.size) = some 3 := by kernel_rfl
theorem infoX : (Try.prog.info? 58).map (·.size) = some 7 := by kernel_rfl
theorem infoS : (Try.prog.info? 64).map (·.size) = some 5 := by kernel_rfl
theorem infoA : (Try.prog.info? 93).map (·.size) = some 6 := by kernel_rfl
theorem infoP : (Try.prog.info? 98).map (·.size) = some 2 := by kernel_rfl
theorem infoT : (Try.prog.info? 68).map (·.size) = some 2 := by kernel_rfl
theorem infoL : (Try.prog.info? 26).map (·.size) = some 1 := by kernel_rfl
theorem infoI : (Try.prog.info? 3).map (·.size) = some 1 := by kernel_rfl
theorem infoR : (Try.prog.info? 52).map (·.size) = some 1 := by kernel_rfl
theorem infoU : (Try.prog.info? 53).map (·.size) = some 1 := by kernel_rfl
theorem info32 : (Try.prog.info? 48).map (·.size) = some 1 := by kernel_rfl
theorem rtE : RowTy 50 6 := ⟨infoE, _, Try.underlying50, rfl⟩
theorem rtN : RowTy 60 3 := ⟨infoN, _, Try.underlying60, rfl⟩
theorem rtX : RowTy 58 7 := ⟨infoX, _, Try.underlying58, rfl⟩
theorem rtS : RowTy 64 5 := ⟨infoS, _, Try.underlying64, rfl⟩
theorem rtA : RowTy 93 6 := ⟨infoA, _, Try.underlying93, rfl⟩
theorem rtP : RowTy 98 2 := ⟨infoP, _, Try.underlying98, rfl⟩
theorem rtT : RowTy 68 2 := ⟨infoT, _, Try.underlying68, rfl⟩
theorem infoQ2 : (Try.prog.info? 84).map (·.size) = some 12 := by kernel_rfl
theorem rtQ2 : RowTy 84 12 := ⟨infoQ2, _, Try.underlying84, rfl⟩
theorem infoM : (Try.prog.info? 72).map (·.size) = some 3 := by kernel_rfl
theorem infoY : (Try.prog.info? 87).map (·.size) = some 7 := by kernel_rfl
theorem rtM : RowTy 72 3 := ⟨infoM, _, Try.underlying72, rfl⟩
theorem rtY : RowTy 87 7 := ⟨infoY, _, Try.underlying87, rfl⟩
/-! ### sealed -/
theorem ldE (x : Value) : Instr.loadAt 50 x = ldS 50 x := rfl
theorem stE (x y : Value) : Instr.storeAt 50 x y = stS 50 x y := rfl
theorem ldN (x : Value) : Instr.loadAt 60 x = ldS 60 x := rfl
theorem stN (x y : Value) : Instr.storeAt 60 x y = stS 60 x y := rfl
theorem ldX (x : Value) : Instr.loadAt 58 x = ldS 58 x := rfl
theorem stX (x y : Value) : Instr.storeAt 58 x y = stS 58 x y := rfl
theorem ldSd (x : Value) : Instr.loadAt 64 x = ldS 64 x := rfl
theorem stSd (x y : Value) : Instr.storeAt 64 x y = stS 64 x y := rfl
theorem ldA (x : Value) : Instr.loadAt 93 x = ldS 93 x := rfl
theorem stA (x y : Value) : Instr.storeAt 93 x y = stS 93 x y := rfl
theorem ldP (x : Value) : Instr.loadAt 98 x = ldS 98 x := rfl
theorem stP (x y : Value) : Instr.storeAt 98 x y = stS 98 x y := rfl
theorem ldT (x : Value) : Instr.loadAt 68 x = ldS 68 x := rfl
theorem stT (x y : Value) : Instr.storeAt 68 x y = stS 68 x y := rfl
theorem stL (x y : Value) : Instr.storeAt 26 x y = stS 26 x y := rfl
theorem stI (x y : Value) : Instr.storeAt 3 x y = stS 3 x y := rfl
theorem stR (x y : Value) : Instr.storeAt 52 x y = stS 52 x y := rfl
theorem stU (x y : Value) : Instr.storeAt 53 x y = stS 53 x y := rfl
theorem st32 (x y : Value) : Instr.storeAt 48 x y = stS 48 x y := rfl
theorem stQ2 (x y : Value) : Instr.storeAt 84 x y = stS 84 x y := rfl
theorem apE (ty : TypeId) (xs : Array Value) : Builtin.append_ #[23, 23] ty xs = apS 23 ty xs := rfl
theorem apN (ty : TypeId) (xs : Array Value) : Builtin.append_ #[26, 26] ty xs = apS 26 ty xs := rfl
theorem apX (ty : TypeId) (xs : Array Value) : Builtin.append_ #[37, 37] ty xs = apS 37 ty xs := rfl
theorem apI (ty : TypeId) (xs : Array Value) : Builtin.append_ #[43, 43] ty xs = apS 43 ty xs := rfl
theorem apA (ty : TypeId) (xs : Array Value) : Builtin.append_ #[91, 91] ty xs = apS 91 ty xs := rfl
theorem apP (ty : TypeId) (xs : Array Value) : Builtin.append_ #[97, 97] ty xs = apS 97 ty xs := rfl
theorem apSd (ty : TypeId) (xs : Array Value) : Builtin.append_ #[61, 61] ty xs = apS 61 ty xs := rfl
theorem apV (ty : TypeId) (xs : Array Value) : Builtin.append_ #[71, 71] ty xs = apS 71 ty xs := rfl
theorem ldM (x : Value) : Instr.loadAt 72 x = ldS 72 x := rfl
theorem stM (x y : Value) : Instr.storeAt 72 x y = stS 72 x y := rfl
theorem ldY (x : Value) : Instr.loadAt 87 x = ldS 87 x := rfl
theorem stY (x y : Value) : Instr.storeAt 87 x y = stS 87 x y := rfl
theorem apM (ty : TypeId) (xs : Array Value) : Builtin.append_ #[30, 30] ty xs = apS 30 ty xs := rfl
theorem apY (ty : TypeId) (xs : Array Value) : Builtin.append_ #[40, 40] ty xs = apS 40 ty xs := rfl
/-- A slice of rows, built: sealed. -/
def bsS (st : TypeId) (n : Nat) (ps : Array (Nat × Value)) : Sem Value := Instr.buildSlice st n ps
theorem bsA (n : Nat) (ps : Array (Nat × Value)) : Instr.buildSlice 91 n ps = bsS 91 n ps := rfl
theorem bsP (n : Nat) (ps : Array (Nat × Value)) : Instr.buildSlice 97 n ps = bsS 97 n ps := rfl
theorem bsN (n : Nat) (ps : Array (Nat × Value)) : Instr.buildSlice 26 n ps = bsS 26 n ps := rfl
theorem bsX (n : Nat) (ps : Array (Nat × Value)) : Instr.buildSlice 37 n ps = bsS 37 n ps := rfl
theorem bsI (n : Nat) (ps : Array (Nat × Value)) : Instr.buildSlice 43 n ps = bsS 43 n ps := rfl
theorem bsE (n : Nat) (ps : Array (Nat × Value)) : Instr.buildSlice 23 n ps = bsS 23 n ps := rfl
theorem bsSd (n : Nat) (ps : Array (Nat × Value)) : Instr.buildSlice 61 n ps = bsS 61 n ps := rfl
theorem bsV (n : Nat) (ps : Array (Nat × Value)) : Instr.buildSlice 71 n ps = bsS 71 n ps := rfl
theorem bsA_0 (x y z t u v : Int) (w : World) : (bsS 91 1 #[(0, .agg #[.int .u8 x, .int .u8 y, .int .u8 z, .int .u8 t, .int .u8 u, .int .u8 v])]).run Try.prog w = .ok (.slice (some ⟨w.heap.size, 0, none⟩) 1 1) (w.alloc (.cells #[.int .u8 x, .int .u8 y, .int .u8 z, .int .u8 t, .int .u8 u, .int .u8 v] 93)) := by kernel_rfl
theorem bsA_is (n : Int) (w : World) : (bsS 91 1 #[(0, .agg (adr n))]).run Try.prog w = .ok (.slice (some ⟨w.heap.size, 0, none⟩) 1 1) (w.alloc (.cells (adr n) 93)) := bsA_0 ..
theorem bsP_is (x : Int × Int) (w : World) : (bsS 97 1 #[(0, .agg (prt x))]).run Try.prog w = .ok (.slice (some ⟨w.heap.size, 0, none⟩) 1 1) (w.alloc (.cells (prt x) 98)) := by kernel_rfl
theorem bsN_is (x : Nd) (w : World) : (bsS 26 1 #[(0, .agg x.cs)]).run Try.prog w = .ok (.slice (some ⟨w.heap.size, 0, none⟩) 1 1) (w.alloc (.cells x.cs 60)) := by kernel_rfl
theorem bsX_is (x : En) (w : World) : (bsS 37 1 #[(0, .agg x.cs)]).run Try.prog w = .ok (.slice (some ⟨w.heap.size, 0, none⟩) 1 1) (w.alloc (.cells x.cs 58)) := by kernel_rfl
theorem bsI_is (x : Int) (w : World) : (bsS 43 1 #[(0, .int .i64 x)]).run Try.prog w = .ok (.slice (some ⟨w.heap.size, 0, none⟩) 1 1) (w.alloc (.cells #[.int .i64 x] 3)) := by kernel_rfl
theorem bsE_is (x : Eg) (w : World) : (bsS 23 1 #[(0, .agg x.cs)]).run Try.prog w = .ok (.slice (some ⟨w.heap.size, 0, none⟩) 1 1) (w.alloc (.cells x.cs 50)) := by kernel_rfl
theorem bsV_is (x : V4) (w : World) : (bsS 71 1 #[(0, .agg x.cs)]).run Try.prog w = .ok (.slice (some ⟨w.heap.size, 0, none⟩) 1 1) (w.alloc (.cells x.cs 56)) := by kernel_rfl
theorem bsSd_is (x y : Eg) (w : World) : (bsS 61 2 #[(0, .agg x.ss), (1, .agg y.ss)]).run Try.prog w = .ok (.slice (some ⟨w.heap.size, 0, none⟩) 2 2) (w.alloc (.cells (x.ss ++ y.ss) 64)) := by kernel_rfl
theorem bsM (n : Nat) (ps : Array (Nat × Value)) : Instr.buildSlice 30 n ps = bsS 30 n ps := rfl
theorem bsY (n : Nat) (ps : Array (Nat × Value)) : Instr.buildSlice 40 n ps = bsS 40 n ps := rfl
theorem bsM_is (x : Nd) (w : World) : (bsS 30 1 #[(0, .agg x.cs)]).run Try.prog w = .ok (.slice (some ⟨w.heap.size, 0, none⟩) 1 1) (w.alloc (.cells x.cs 72)) := by kernel_rfl
theorem bsY_is (x : En) (w : World) : (bsS 40 1 #[(0, .agg x.cs)]).run Try.prog w = .ok (.slice (some ⟨w.heap.size, 0, none⟩) 1 1) (w.alloc (.cells x.cs 87)) := by kernel_rfl
/-! ### one more -/
theorem nA {W : World} {B : Nat} {v : Value} {l : List (Int)} (o : Own eA W B v l) (hB : B ≤ W.heap.size) (hl : l.length ≤ 1000) (p : Int) :
    ∃ v' W', (apS 91 91 #[v, .slice (some ⟨W.heap.size, 0, none⟩) 1 1]).run Try.prog (W.alloc (.cells (adr p) 93)) = .ok v' W' ∧ Own eA W' B v' (l ++ [p]) ∧ Below B W W' := o.next kA hB hl p _
theorem nP {W : World} {B : Nat} {v : Value} {l : List (Int × Int)} (o : Own eP W B v l) (hB : B ≤ W.heap.size) (hl : l.length ≤ 1000) (p : Int × Int) :
    ∃ v' W', (apS 97 97 #[v, .slice (some ⟨W.heap.size, 0, none⟩) 1 1]).run Try.prog (W.alloc (.cells (prt p) 98)) = .ok v' W' ∧ Own eP W' B v' (l ++ [p]) ∧ Below B W W' := o.next kP hB hl p _
theorem nN {W : World} {B : Nat} {v : Value} {l : List (Nd)} (o : Own eN W B v l) (hB : B ≤ W.heap.size) (hl : l.length ≤ 1000) (p : Nd) :
    ∃ v' W', (apS 26 26 #[v, .slice (some ⟨W.heap.size, 0, none⟩) 1 1]).run Try.prog (W.alloc (.cells (p.cs) 60)) = .ok v' W' ∧ Own eN W' B v' (l ++ [p]) ∧ Below B W W' := o.next kN hB hl p _
theorem nX {W : World} {B : Nat} {v : Value} {l : List (En)} (o : Own eX W B v l) (hB : B ≤ W.heap.size) (hl : l.length ≤ 1000) (p : En) :
    ∃ v' W', (apS 37 37 #[v, .slice (some ⟨W.heap.size, 0, none⟩) 1 1]).run Try.prog (W.alloc (.cells (p.cs) 58)) = .ok v' W' ∧ Own eX W' B v' (l ++ [p]) ∧ Below B W W' := o.next kX hB hl p _
theorem nI {W : World} {B : Nat} {v : Value} {l : List (Int)} (o : Own eI W B v l) (hB : B ≤ W.heap.size) (hl : l.length ≤ 1000) (p : Int) :
    ∃ v' W', (apS 43 43 #[v, .slice (some ⟨W.heap.size, 0, none⟩) 1 1]).run Try.prog (W.alloc (.cells (#[.int .i64 p]) 3)) = .ok v' W' ∧ Own eI W' B v' (l ++ [p]) ∧ Below B W W' := o.next kI hB hl p _
theorem nE {W : World} {B : Nat} {v : Value} {l : List (Eg)} (o : Own eE W B v l) (hB : B ≤ W.heap.size) (hl : l.length ≤ 1000) (p : Eg) :
    ∃ v' W', (apS 23 23 #[v, .slice (some ⟨W.heap.size, 0, none⟩) 1 1]).run Try.prog (W.alloc (.cells (p.cs) 50)) = .ok v' W' ∧ Own eE W' B v' (l ++ [p]) ∧ Below B W W' := o.next kE hB hl p _
theorem nV {W : World} {B : Nat} {v : Value} {l : List (V4)} (o : Own eV W B v l) (hB : B ≤ W.heap.size) (hl : l.length ≤ 1000) (p : V4) :
    ∃ v' W', (apS 71 71 #[v, .slice (some ⟨W.heap.size, 0, none⟩) 1 1]).run Try.prog (W.alloc (.cells (p.cs) 56)) = .ok v' W' ∧ Own eV W' B v' (l ++ [p]) ∧ Below B W W' := o.next kV hB hl p _
theorem nM {W : World} {B : Nat} {v : Value} {l : List (Nd)} (o : Own eM W B v l) (hB : B ≤ W.heap.size) (hl : l.length ≤ 1000) (p : Nd) :
    ∃ v' W', (apS 30 30 #[v, .slice (some ⟨W.heap.size, 0, none⟩) 1 1]).run Try.prog (W.alloc (.cells (p.cs) 72)) = .ok v' W' ∧ Own eM W' B v' (l ++ [p]) ∧ Below B W W' := o.next kM hB hl p _
theorem nY {W : World} {B : Nat} {v : Value} {l : List (En)} (o : Own eY W B v l) (hB : B ≤ W.heap.size) (hl : l.length ≤ 1000) (p : En) :
    ∃ v' W', (apS 40 40 #[v, .slice (some ⟨W.heap.size, 0, none⟩) 1 1]).run Try.prog (W.alloc (.cells (p.cs) 87)) = .ok v' W' ∧ Own eY W' B v' (l ++ [p]) ∧ Below B W W' := o.next kY hB hl p _
theorem nS {W : World} {B : Nat} {v : Value} {l : List Eg} (o : Own eS W B v l) (hB : B ≤ W.heap.size) (hl : l.length ≤ 1000) (p q : Eg) :
    ∃ v' W', (apS 61 61 #[v, .slice (some ⟨W.heap.size, 0, none⟩) 2 2]).run Try.prog (W.alloc (.cells (p.ss ++ q.ss) 64)) = .ok v' W' ∧ Own eS W' B v' (l ++ [p, q]) ∧ Below B W W' := o.next2 kS hB hl p q _
/-- Both sides of an edge, as an array; side j. -/
def both (x : Eg) : Array Value := x.cs ++ x.turn.cs
def sdE (x : Eg) (j : Nat) : Eg := if j = 0 then x else x.turn
theorem ixB0 (x : Eg) (w : World) : (Instr.index 84 (.agg (both x)) (.int .i64 0)).run Try.prog w = .ok (.agg x.cs) w := by kernel_rfl
theorem ixB1 (x : Eg) (w : World) : (Instr.index 84 (.agg (both x)) (.int .i64 1)).run Try.prog w = .ok (.agg x.turn.cs) w := by kernel_rfl
theorem ixB (x : Eg) (j : Nat) (hj : j < 2) (w : World) : (Instr.index 84 (.agg (both x)) (.int .i64 (j : Int))).run Try.prog w = .ok (.agg (sdE x j).cs) w := by
  match j, hj with
  | 0, _ => exact ixB0 x w
  | 1, _ => exact ixB1 x w
/-- Equality of ports and of addresses as arrays. -/
theorem eqMacA (n m : Int) (w : World) : (Op.equalIn 10000 93 (.agg (adr n)) (.agg (adr m))).run Try.prog w = .ok (sameA n m) w := by
  rw [← eq6_ad]
  exact eqMac ..
def sameP (x y : Int × Int) : Bool := decide (x.1 = y.1 ∧ x.2 = y.2)
theorem eqPrt (x y : Int × Int) (w : World) : (Op.equalIn 10000 98 (.agg (prt x)) (.agg (prt y))).run Try.prog w = .ok (sameP x y) w := by
  obtain ⟨a, b⟩ := x
  obtain ⟨c, d⟩ := y
  show (Op.equalIn 10000 98 (.agg #[.int .i64 a, .int .i64 b]) (.agg #[.int .i64 c, .int .i64 d])).run Try.prog w = _
  rw [show (10000 : Nat) = 9999 + 1 from rfl, Op.equalIn]
  simp only [Sem.run_bind, run_underlying Try.underlying98, Result.andThen_ok]
  simp only [Std.Legacy.Range.forIn_eq_forIn_range', Std.Legacy.Range.size, Nat.sub_zero, Nat.add_sub_cancel, Nat.div_one, List.range'_succ, List.range'_zero, List.forIn_cons, List.forIn_nil]
  go_simp
  unfold sameP
  by_cases h1 : a = c <;> simp [h1]
  by_cases h2 : b = d <;> simp [h2]
end Go.Proofs.Ytcagdfdhpbeolaa
