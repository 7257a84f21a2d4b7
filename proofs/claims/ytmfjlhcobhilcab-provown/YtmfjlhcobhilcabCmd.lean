/-
  A command as it lies in memory: its variable, its parts. Plain laws over the program's types.
-/
import Derived.Test.YtmfjlhcobhilcabTwn
import Derived.Test.YtmfjlhcobhilcabPh
namespace Go.Proofs.Ytmfjlhcobhilcab
set_option linter.unusedVariables false
set_option maxRecDepth 4000
set_option linter.unusedSimpArgs false
open Go.RowKit
attribute [local go_sem ↓] ldM stM ldC stC ldB stB ldP stP apI bsI
attribute [local go_sem] bsI_is bsI2_is

/-- What a command has besides. -/
structure Ct where
  v : Int
  a : Int
  b : Int
  c : Int
  d : Int
  e : Int
  f : Int
  p : Int
  st : Bool
  s : Int
  id : Int
  po : Int
  co : Int
/-- A command, as it lies in memory. -/
structure Cm where
  k : Int
  m : Mp
  c : Cr
  b : Mr
  t : Ct
def Cm.cs (x : Cm) : Array Value := #[.int .i64 x.k, .int .i64 x.m.p, .int .i64 x.m.v, .int .i64 x.m.s, .int .i64 x.c.s, .int .i64 x.c.v, .int .i64 x.b.v, .slice x.b.a x.b.n x.b.c, .int .i64 x.t.v, .int .u8 x.t.a, .int .u8 x.t.b, .int .u8 x.t.c, .int .u8 x.t.d, .int .u8 x.t.e, .int .u8 x.t.f, .int .i64 x.t.p, .bool x.t.st, .int .i64 x.t.s, .int .u64 x.t.id, .int .i64 x.t.po, .int .u32 x.t.co]
theorem infoD : (Try.prog.info? 48).map (·.size) = some 21 := by kernel_rfl
theorem rtD : RowTy 48 21 := ⟨infoD, _, Try.underlying48, rfl⟩
theorem ldD (x : Value) : Instr.loadAt 48 x = ldS 48 x := rfl
theorem stD (x y : Value) : Instr.storeAt 48 x y = stS 48 x y := rfl
def CmAt (W : World) (b : Nat) (x : Cm) : Prop := RvAt W b 48 x.cs
theorem CmAt.below {W W' : World} {b : Nat} {x : Cm} (h : CmAt W b x) (hb : Below W.heap.size W W') : CmAt W' b x := RvAt.below h hb
theorem CmAt.keptBut {W W' : World} {b : Nat} {x : Cm} {row : Option Nat} (h : CmAt W b x) (hg : W.grownBy W' row) (hn : some b ≠ row) : CmAt W' b x := RvAt.keptBut h hg hn
theorem CmAt.ld {W : World} {b : Nat} {x : Cm} (h : CmAt W b x) : (ldS 48 (.pointer (some ⟨b, 0, none⟩))).run Try.prog W = .ok (.agg x.cs) W := RvAt.ld rtD h rfl
theorem CmAt.new (W : World) (x : Cm) : ∃ V, W.alloc (.cells x.cs 48) = V ∧ CmAt V W.heap.size x ∧ Below W.heap.size W V ∧ V.heap.size = W.heap.size + 1 := ⟨_, rfl, RvAt.new W _ _, (Below.refl _ _).alloc (Nat.le_refl _) _, by simp⟩
theorem CmAt.k {W : World} {b : Nat} {x : Cm} (h : CmAt W b x) : W.cell? ⟨b, 0, none⟩ = some (.int .i64 x.k) := RvAt.cell h 0 _ rfl
theorem CmAt.bv {W : World} {b : Nat} {x : Cm} (h : CmAt W b x) : W.cell? ⟨b, 6, none⟩ = some (.int .i64 x.b.v) := RvAt.cell h 6 _ rfl
theorem CmAt.bp {W : World} {b : Nat} {x : Cm} (h : CmAt W b x) : W.cell? ⟨b, 7, none⟩ = some (.slice x.b.a x.b.n x.b.c) := RvAt.cell h 7 _ rfl
theorem CmAt.part {W : World} {b : Nat} {x : Cm} (h : CmAt W b x) (o : Nat) (ty : TypeId) {d : TypeDesc} (cs : Array Value) (hc : ∀ r v, cs.toList[r]? = some v → x.cs[o + r]? = some v) (hu : Try.prog.underlying ty = some d) (hr : d.isRow = true) (hi : (Try.prog.info? ty).map (·.size) = some cs.toList.length) : (ldS ty (.pointer (some ⟨b, o, none⟩))).run Try.prog W = .ok (.agg cs) W :=
  run_loadAt_mid (P := Try.prog) W b o ty cs.toList _ (fun r v hv => RvAt.cell h (o + r) v (hc r v hv)) hu hr hi
theorem CmAt.m {W : World} {b : Nat} {x : Cm} (h : CmAt W b x) : (ldS 40 (.pointer (some ⟨b, 1, none⟩))).run Try.prog W = .ok (.agg x.m.cs) W := h.part 1 _ x.m.cs (fun r v hv => by
  have hr : r < 3 := (List.getElem?_eq_some_iff.1 hv).1
  match r, hr, hv with
  | 0, _, hv => exact hv
  | 1, _, hv => exact hv
  | 2, _, hv => exact hv) Try.underlying40 rfl infoM
theorem CmAt.c {W : World} {b : Nat} {x : Cm} (h : CmAt W b x) : (ldS 42 (.pointer (some ⟨b, 4, none⟩))).run Try.prog W = .ok (.agg x.c.cs) W := h.part 4 _ x.c.cs (fun r v hv => by
  have hr : r < 2 := (List.getElem?_eq_some_iff.1 hv).1
  match r, hr, hv with
  | 0, _, hv => exact hv
  | 1, _, hv => exact hv) Try.underlying42 rfl infoC
theorem CmAt.b {W : World} {b : Nat} {x : Cm} (h : CmAt W b x) : (ldS 38 (.pointer (some ⟨b, 6, none⟩))).run Try.prog W = .ok (.agg x.b.cs) W := h.part 6 _ x.b.cs (fun r v hv => by
  have hr : r < 2 := (List.getElem?_eq_some_iff.1 hv).1
  match r, hr, hv with
  | 0, _, hv => exact hv
  | 1, _, hv => exact hv) Try.underlying38 rfl infoB
/-- What a command is. -/
structure IsCm (W : World) (x : Cm) (d : Cd) : Prop where
  k : x.k = d.k
  m : x.m = d.m
  c : x.c = d.c
  v : x.b.v = d.b.v
  p : SlAt eI W x.b.a x.b.n x.b.c d.b.ps
theorem IsCm.below {W W' : World} {x : Cm} {c : Cd} (h : IsCm W x c) (hb : Below W.heap.size W W') : IsCm W' x c := ⟨h.k, h.m, h.c, h.v, h.p.below hb⟩
theorem results_pe {fn : Func} {k t : Nat} (hr : fn.results = #[.cell k 29, .tmp t]) (tmps : Array Value) (w : World) (b : Nat) (x : Pr) (h2 : tmps.getD k undef = .pointer (some ⟨b, 0, none⟩)) (h : PrAt w b x) :
    (results fn tmps).run Try.prog w = .ok (.tuple #[.agg x.cs, tmps.getD t undef]) w := by
  have hl := RvAt.lv rtP h rfl
  have h2' : tmps[k]?.getD undef = .pointer (some ⟨b, 0, none⟩) := by simpa using h2
  simp [results, hr, asAddr, hl, h2']
/-- A function that tells what is provisioned and an error, at its end. -/
theorem ret_pe {fn : Func} {k t : Nat} (hr : fn.results = #[.cell k 29, .tmp t]) {R : Ending → World → Prop} {a : Act} {w : World} {b : Nat} {x : Pr} {v : Value} (hd : a.defers = []) (h2 : a.tmps.getD k undef = .pointer (some ⟨b, 0, none⟩)) (h3 : a.tmps.getD t undef = v) (r : PrAt w b x) (hR : R (.returned (.tuple #[.agg x.cs, v])) w) : bodyPost Try.prog fn R .ret a w :=
  bodyPost_ret (results_pe hr _ _ _ _ h2 r) hd (by rw [h3]; exact hR)
end Go.Proofs.Ytmfjlhcobhilcab
