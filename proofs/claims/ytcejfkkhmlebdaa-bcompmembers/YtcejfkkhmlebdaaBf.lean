/-
  Frames of the backbone and gates in memory: values, variables, slices. Plain laws over the program's types.
-/
import Derived.Test.YtcejfkkhmlebdaaBas
namespace Go.Proofs.Ytcejfkkhmlebdaa
set_option linter.unusedVariables false
set_option maxRecDepth 4000
set_option linter.unusedSimpArgs false
open Go.RowKit

/-- A frame of the backbone; z: its rest. -/
structure Bf where
  d : O6
  s : O6
  p : Int
  e : Bool
  v : Int
  q : Int
  g : Bool
  u : Bool
  i : Int
  x : O6
  y : O6
  z : Value
def Bf.cs (f : Bf) : Array Value := #[.int .u8 f.d.a, .int .u8 f.d.b, .int .u8 f.d.c, .int .u8 f.d.d, .int .u8 f.d.e, .int .u8 f.d.f, .int .u8 f.s.a, .int .u8 f.s.b, .int .u8 f.s.c, .int .u8 f.s.d, .int .u8 f.s.e, .int .u8 f.s.f, .int .i64 f.p, .bool f.e, .int .i64 f.v, .int .i64 f.q, .bool f.g, .bool f.u, .int .i64 f.i, .int .u8 f.x.a, .int .u8 f.x.b, .int .u8 f.x.c, .int .u8 f.x.d, .int .u8 f.x.e, .int .u8 f.x.f, .int .u8 f.y.a, .int .u8 f.y.b, .int .u8 f.y.c, .int .u8 f.y.d, .int .u8 f.y.e, .int .u8 f.y.f, f.z]
structure Bf.ok (f : Bf) : Prop where
  d : f.d.wf
  s : f.s.wf
  z : f.z.oneCell' = true
theorem Bf.one {f : Bf} (h : f.ok) : ∀ v ∈ f.cs.toList, v.oneCell' = true := by
  have i : ∀ k n, (Value.int k n).oneCell' = true := fun _ _ => rfl
  have j : ∀ b, (Value.bool b).oneCell' = true := fun _ => rfl
  refine one_of ?_
  simp [Bf.cs, h.z, i, j]
theorem infoF : (Try.prog.info? 55).map (·.size) = some 32 := by kernel_rfl
theorem rtF : RowTy 55 32 := ⟨infoF, _, Try.underlying55, rfl⟩
theorem infoO : (Try.prog.info? 42).map (·.size) = some 6 := by kernel_rfl
theorem info8 : (Try.prog.info? 5).map (·.size) = some 1 := by kernel_rfl
theorem ldF (x : Value) : Instr.loadAt 55 x = ldS 55 x := rfl
theorem stF (x y : Value) : Instr.storeAt 55 x y = stS 55 x y := rfl
theorem stO (x y : Value) : Instr.storeAt 42 x y = stS 42 x y := rfl
theorem st8 (x y : Value) : Instr.storeAt 5 x y = stS 5 x y := rfl
/-- Its variable. -/
def FrAt (W : World) (b : Nat) (f : Bf) : Prop := RvAt W b 55 f.cs
theorem FrAt.below {W W' : World} {b : Nat} {f : Bf} (h : FrAt W b f) (hb : Below W.heap.size W W') : FrAt W' b f := RvAt.below h hb
theorem FrAt.keptBut {W W' : World} {b : Nat} {f : Bf} {row : Option Nat} (h : FrAt W b f) (hg : W.grownBy W' row) (hn : some b ≠ row) : FrAt W' b f := RvAt.keptBut h hg hn
theorem FrAt.lt {W : World} {b : Nat} {f : Bf} (h : FrAt W b f) : b < W.heap.size := RvAt.lt h
theorem FrAt.ld {W : World} {b : Nat} {f : Bf} (h : FrAt W b f) : (ldS 55 (.pointer (some ⟨b, 0, none⟩))).run Try.prog W = .ok (.agg f.cs) W := RvAt.ld rtF h rfl
theorem FrAt.v {W : World} {b : Nat} {f : Bf} (h : FrAt W b f) : W.cell? ⟨b, 14, none⟩ = some (.int .i64 f.v) := RvAt.cell h 14 _ rfl
theorem FrAt.i {W : World} {b : Nat} {f : Bf} (h : FrAt W b f) : W.cell? ⟨b, 18, none⟩ = some (.int .i64 f.i) := RvAt.cell h 18 _ rfl
theorem FrAt.c5 {W : World} {b : Nat} {f : Bf} (h : FrAt W b f) : W.cell? ⟨b, 5, none⟩ = some (.int .u8 f.d.f) := RvAt.cell h 5 _ rfl
theorem FrAt.new (W : World) (f : Bf) : ∃ V, W.alloc (.cells f.cs 55) = V ∧ FrAt V W.heap.size f ∧ Below W.heap.size W V ∧ V.heap.size = W.heap.size + 1 := ⟨_, rfl, RvAt.new W _ _, (Below.refl _ _).alloc (Nat.le_refl _) _, by simp⟩
theorem FrAt.da {W : World} {b : Nat} {f : Bf} (h : FrAt W b f) : (ldS 42 (.pointer (some ⟨b, 0, none⟩))).run Try.prog W = .ok (.agg f.d.cs) W := by
  have hr := World.rangeAt_of_block h 0 6
  exact run_loadAt_mid W b 0 42 _ _ hr Try.underlying42 rfl infoO
theorem FrAt.sa {W : World} {b : Nat} {f : Bf} (h : FrAt W b f) : (ldS 42 (.pointer (some ⟨b, 6, none⟩))).run Try.prog W = .ok (.agg f.s.cs) W := by
  have hr := World.rangeAt_of_block h 6 6
  exact run_loadAt_mid W b 6 42 _ _ hr Try.underlying42 rfl infoO
theorem FrAt.stda {W : World} {b : Nat} {f : Bf} (h : FrAt W b f) (m : O6) : ∃ V, (stS 42 (.pointer (some ⟨b, 0, none⟩)) (.agg m.cs)).run Try.prog W = .ok () V ∧ FrAt V b { f with d := m } ∧ W.grownBy V (some b) :=
  ⟨_, store_cells (ty := 42) (o := 0) (cs := m.cs) h infoO (by show 0 + 6 ≤ 32; omega) (one_of rfl), RvAt.set h, grown_row _ _ _⟩
theorem FrAt.st5 {W : World} {b : Nat} {f : Bf} (h : FrAt W b f) (n : Int) : ∃ V, (stS 5 (.pointer (some ⟨b, 5, none⟩)) (.int .u8 n)).run Try.prog W = .ok () V ∧ FrAt V b { f with d := { f.d with f := n } } ∧ W.grownBy V (some b) :=
  ⟨_, RvAt.st1 h info8 (by show 5 < 32; omega) rfl, RvAt.set h, grown_row _ _ _⟩
def zO : O6 := ⟨0, 0, 0, 0, 0, 0⟩
def zF : Bf := ⟨zO, zO, 0, false, 0, 0, false, false, 0, zO, zO, .slice none 0 0⟩
theorem FrAt.put (W : World) (f : Bf) (hf : f.ok) : ∃ V, (stS 55 (.pointer (some ⟨W.heap.size, 0, none⟩)) (.agg f.cs)).run Try.prog (W.alloc (.cells #[.int .u8 0, .int .u8 0, .int .u8 0, .int .u8 0, .int .u8 0, .int .u8 0, .int .u8 0, .int .u8 0, .int .u8 0, .int .u8 0, .int .u8 0, .int .u8 0, .int .i64 0, .bool false, .int .i64 0, .int .i64 0, .bool false, .bool false, .int .i64 0, .int .u8 0, .int .u8 0, .int .u8 0, .int .u8 0, .int .u8 0, .int .u8 0, .int .u8 0, .int .u8 0, .int .u8 0, .int .u8 0, .int .u8 0, .int .u8 0, .slice none 0 0] 55)) = .ok () V ∧ FrAt V W.heap.size f ∧ Below W.heap.size W V ∧ V.heap.size = W.heap.size + 1 :=
  row_new rtF W zF.cs f.cs rfl rfl (Bf.one hf)
/-! ### gates -/
structure Gt where
  l : Bool
  f : Bool
def Gt.cs (x : Gt) : Array Value := #[.bool x.l, .bool x.f]
def zG : Gt := ⟨false, false⟩
def eG : El Gt := ⟨Gt.cs, 37, 32, 2, 2⟩
def eH : El Gt := ⟨Gt.cs, 38, 34, 2, 2⟩
def eL : El Bool := ⟨fun b => #[.bool b], 4, 85, 1, 1⟩
theorem kG : eG.Ok := ⟨fun _ => rfl, by decide, fun _ => one_of rfl, Try.underlying32, ⟨.agg zG.cs, by kernel_rfl, rfl⟩, by decide⟩
theorem kH : eH.Ok := ⟨fun _ => rfl, by decide, fun _ => one_of rfl, Try.underlying34, ⟨.agg zG.cs, by kernel_rfl, rfl⟩, by decide⟩
theorem kL : eL.Ok := ⟨fun _ => rfl, by decide, fun _ => one_of rfl, Try.underlying85, ⟨.bool false, by kernel_rfl, rfl⟩, by decide⟩
theorem infoG : (Try.prog.info? 37).map (·.size) = some 2 := by kernel_rfl
theorem infoL : (Try.prog.info? 4).map (·.size) = some 1 := by kernel_rfl
theorem rtG : RowTy 37 2 := ⟨infoG, _, Try.underlying37, rfl⟩
theorem ldG (x : Value) : Instr.loadAt 37 x = ldS 37 x := rfl
theorem stG (x y : Value) : Instr.storeAt 37 x y = stS 37 x y := rfl
theorem stL (x y : Value) : Instr.storeAt 4 x y = stS 4 x y := rfl
theorem apH (ty : TypeId) (xs : Array Value) : Builtin.append_ #[34, 34] ty xs = apS 34 ty xs := rfl
theorem bsH (n : Nat) (ps : Array (Nat × Value)) : Instr.buildSlice 34 n ps = bsS 34 n ps := rfl
theorem bsH_is (x : Gt) (w : World) : (bsS 34 1 #[(0, .agg x.cs)]).run Try.prog w = .ok (.slice (some ⟨w.heap.size, 0, none⟩) 1 1) (w.alloc (.cells x.cs 38)) := by kernel_rfl
theorem nH {W : World} {B : Nat} {v : Value} {l : List Gt} (o : Own eH W B v l) (hB : B ≤ W.heap.size) (hl : l.length ≤ 1000) (p : Gt) :
    ∃ v' W', (apS 34 34 #[v, .slice (some ⟨W.heap.size, 0, none⟩) 1 1]).run Try.prog (W.alloc (.cells (p.cs) 38)) = .ok v' W' ∧ Own eH W' B v' (l ++ [p]) ∧ Below B W W' := o.next kH hB hl p _
theorem lG {W : World} {b o n c i : Nat} {l : List Gt} {x : Gt} (h : SlAt eG W (some ⟨b, o, none⟩) n c l) (hx : l[i]? = some x) : (ldS 37 (.pointer (some ⟨b, o + i * 2, none⟩))).run Try.prog W = .ok (.agg x.cs) W := h.ld kG hx Try.underlying37 rfl rfl
theorem lG0 {W : World} {b o n c i : Nat} {l : List Gt} {x : Gt} (h : SlAt eG W (some ⟨b, o, none⟩) n c l) (hx : l[i]? = some x) : W.cell? ⟨b, o + i * 2, none⟩ = some (.bool x.l) := h.cell kG (j := 0) hx rfl rfl
theorem lG1 {W : World} {b o n c i : Nat} {l : List Gt} {x : Gt} (h : SlAt eG W (some ⟨b, o, none⟩) n c l) (hx : l[i]? = some x) : W.cell? ⟨b, o + i * 2 + 1, none⟩ = some (.bool x.f) := h.cell kG (j := 1) hx rfl rfl
theorem lH0 {W : World} {b o n c i : Nat} {l : List Gt} {x : Gt} (h : SlAt eH W (some ⟨b, o, none⟩) n c l) (hx : l[i]? = some x) : W.cell? ⟨b, o + i * 2, none⟩ = some (.bool x.l) := h.cell kH (j := 0) hx rfl rfl
theorem lH1 {W : World} {b o n c i : Nat} {l : List Gt} {x : Gt} (h : SlAt eH W (some ⟨b, o, none⟩) n c l) (hx : l[i]? = some x) : W.cell? ⟨b, o + i * 2 + 1, none⟩ = some (.bool x.f) := h.cell kH (j := 1) hx rfl rfl
theorem lL {W : World} {b o n c i : Nat} {l : List Bool} {x : Bool} (h : SlAt eL W (some ⟨b, o, none⟩) n c l) (hx : l[i]? = some x) : W.cell? ⟨b, o + i, none⟩ = some (.bool x) := h.cell kL (j := 0) hx rfl (by show o + i = o + (i * 1 + 0); omega)
/-- Structs, built: sealed. -/
def bdS (t : TypeId) (ps : Array (Nat × Value)) : Sem Value := Instr.build t ps
theorem bdG (ps : Array (Nat × Value)) : Instr.build 37 ps = bdS 37 ps := rfl
theorem bdH (ps : Array (Nat × Value)) : Instr.build 38 ps = bdS 38 ps := rfl
theorem bdO (ps : Array (Nat × Value)) : Instr.build 42 ps = bdS 42 ps := rfl
theorem bdB (ps : Array (Nat × Value)) : Instr.build 68 ps = bdS 68 ps := rfl
theorem bdC (ps : Array (Nat × Value)) : Instr.build 70 ps = bdS 70 ps := rfl
theorem bdP (ps : Array (Nat × Value)) : Instr.build 48 ps = bdS 48 ps := rfl
theorem bdF (ps : Array (Nat × Value)) : Instr.build 55 ps = bdS 55 ps := rfl
theorem bdT (ps : Array (Nat × Value)) : Instr.build 50 ps = bdS 50 ps := rfl
theorem bdI (ps : Array (Nat × Value)) : Instr.build 52 ps = bdS 52 ps := rfl
theorem bdG_is (l f : Bool) (w : World) : (bdS 37 #[(0, .bool l), (1, .bool f)]).run Try.prog w = .ok (.agg (Gt.mk l f).cs) w := by kernel_rfl
theorem bdG_z (w : World) : (bdS 37 #[]).run Try.prog w = .ok (.agg zG.cs) w := by kernel_rfl
theorem bdH_is (l f : Bool) (w : World) : (bdS 38 #[(0, .bool l), (1, .bool f)]).run Try.prog w = .ok (.agg (Gt.mk l f).cs) w := by kernel_rfl
theorem bdB_is (v : Int) (a : Option Addr) (n c : Nat) (w : World) : (bdS 68 #[(0, .int .i64 v), (1, .slice a n c)]).run Try.prog w = .ok (.agg (Mr.mk v a n c).cs) w := by kernel_rfl
theorem bdC_is (s v : Int) (w : World) : (bdS 70 #[(0, .int .i64 s), (1, .int .i64 v)]).run Try.prog w = .ok (.agg (Cr.mk s v).cs) w := by kernel_rfl
theorem fdG0 (x : Gt) (w : World) : (Instr.field 37 (.agg x.cs) 0).run Try.prog w = .ok (.bool x.l) w := by kernel_rfl
theorem fdG1 (x : Gt) (w : World) : (Instr.field 37 (.agg x.cs) 1).run Try.prog w = .ok (.bool x.f) w := by kernel_rfl
/-- A port's gate. -/
def gAt (l : List Gt) (i : Int) : Gt := if i < 0 then zG else (l[i.toNat]?).getD zG
theorem gAt_in {l : List Gt} {i : Int} {x : Gt} (h0 : ¬ i < 0) (h : l[i.toNat]? = some x) : gAt l i = x := by rw [gAt, if_neg h0, h]; rfl
theorem gAt_neg {l : List Gt} {i : Int} (h0 : i < 0) : gAt l i = zG := by rw [gAt, if_pos h0]
theorem gAt_out {l : List Gt} {i : Int} (h : (l.length : Int) ≤ i) : gAt l i = zG := by
  unfold gAt
  split
  · rfl
  · rw [List.getElem?_eq_none (by omega)]; rfl
/-- A variable of a gate. -/
def GtAt (W : World) (b : Nat) (x : Gt) : Prop := RvAt W b 37 x.cs
theorem GtAt.put (W : World) (x : Gt) : ∃ V, (stS 37 (.pointer (some ⟨W.heap.size, 0, none⟩)) (.agg x.cs)).run Try.prog (W.alloc (.cells #[.bool false, .bool false] 37)) = .ok () V ∧ GtAt V W.heap.size x ∧ Below W.heap.size W V ∧ V.heap.size = W.heap.size + 1 :=
  row_new rtG W #[.bool false, .bool false] x.cs rfl rfl (one_of rfl)
end Go.Proofs.Ytcejfkkhmlebdaa
