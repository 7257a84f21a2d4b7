/-
  Commands that are handed in, a command's variable; what comes of commands from nothing: the walk of Made, for every input.
-/
import Derived.Test.YtmfjlhcobhilcabRdd
import Derived.Test.YtmfjlhcobhilcabKp
import Derived.Test.YtmfjlhcobhilcabUn
namespace Go.Proofs.Ytmfjlhcobhilcab
set_option linter.unusedVariables false
set_option maxRecDepth 4000
set_option linter.unusedSimpArgs false
open Go.RowKit
attribute [local go_sem ↓] ldM stM ldC stC ldB stB ldP stP apI bsI
attribute [local go_sem] bsI_is bsI2_is
attribute [local go_sem ↓] stIs stKs stMs stCs stBs ldD stD apK bsK
attribute [local go_sem] bsK_is

def eD : El Cm := ⟨Cm.cs, 48, 51, 21, 144⟩
theorem slD : Try.prog.underlying 51 = some (.slice 48) := Try.underlying51
def zD : Cm := ⟨0, ⟨0, 0, 0⟩, ⟨0, 0⟩, ⟨0, none, 0, 0⟩, ⟨0, 0, 0, 0, 0, 0, 0, 0, false, 0, 0, 0, 0⟩⟩
theorem kD : eD.Ok := ⟨fun _ => rfl, by decide, fun _ => one_of rfl, slD, ⟨.agg zD.cs, by kernel_rfl, rfl⟩, by decide⟩
/-- A slice of commands, and what they are. -/
structure Cms (W : World) (a : Option Addr) (n c : Nat) (r : List Cm) (l : List Cd) : Prop where
  sl : SlAt eD W a n c r
  len : r.length = l.length
  at' : ∀ (i : Nat) (x : Cm) (y : Cd), r[i]? = some x → l[i]? = some y → IsCm W x y
theorem Cms.below {W W' : World} {a : Option Addr} {n c : Nat} {r : List Cm} {l : List Cd} (h : Cms W a n c r l) (hb : Below W.heap.size W W') : Cms W' a n c r l := ⟨h.sl.below hb, h.len, fun i x y hx hy => (h.at' i x y hx hy).below hb⟩
theorem Cms.nil (W : World) : Cms W none 0 0 [] [] := ⟨SlAt.none' W, rfl, fun i x y hx => by simp at hx⟩
theorem Cms.get {W : World} {a : Option Addr} {n c : Nat} {r : List Cm} {l : List Cd} (h : Cms W a n c r l) {i : Nat} (hi : i < n) : ∃ x y, r[i]? = some x ∧ l[i]? = some y ∧ IsCm W x y := by
  have hr : i < r.length := by rw [h.sl.len]; exact hi
  have hl : i < l.length := by rw [← h.len]; exact hr
  exact ⟨_, _, List.getElem?_eq_getElem hr, List.getElem?_eq_getElem hl, h.at' i _ _ (List.getElem?_eq_getElem hr) (List.getElem?_eq_getElem hl)⟩
theorem lD {W : World} {b o n c i : Nat} {l : List Cm} {x : Cm} (h : SlAt eD W (some ⟨b, o, none⟩) n c l) (hx : l[i]? = some x) : (ldS 48 (.pointer (some ⟨b, o + i * 21, none⟩))).run Try.prog W = .ok (.agg x.cs) W := h.ld kD hx Try.underlying48 rfl rfl
/-- A command's variable, new. -/
theorem CmAt.put (W : World) (x : Cm) : ∃ V, (stS 48 (.pointer (some ⟨W.heap.size, 0, none⟩)) (.agg x.cs)).run Try.prog (W.alloc (.cells #[.int .i64 0, .int .i64 0, .int .i64 0, .int .i64 0, .int .i64 0, .int .i64 0, .int .i64 0, .slice none 0 0, .int .i64 0, .int .u8 0, .int .u8 0, .int .u8 0, .int .u8 0, .int .u8 0, .int .u8 0, .int .i64 0, .bool false, .int .i64 0, .int .u64 0, .int .i64 0, .int .u32 0] 48)) = .ok () V ∧ CmAt V W.heap.size x ∧ Below W.heap.size W V := by
  obtain ⟨V, h1, h2, h3, _⟩ := row_new rtD W zD.cs x.cs rfl rfl (one_of rfl)
  exact ⟨V, h1, h2, h3⟩
/-- .. its member stored anew. -/
theorem CmAt.stB {W : World} {b : Nat} {x : Cm} (h : CmAt W b x) (z : Mr) : ∃ V, (stS 38 (.pointer (some ⟨b, 6, none⟩)) (.agg z.cs)).run Try.prog W = .ok () V ∧ CmAt V b { x with b := z } ∧ W.grownBy V (some b) := by
  have h' : W.heap[b]? = some (.cells x.cs 48 (0, 0)) := h
  have hs := store_cells (ty := 38) (o := 6) (cs := z.cs) h' infoB (by show 6 + 2 ≤ 21; decide) (one_of rfl)
  have e : (x.cs.toList.take 6 ++ z.cs.toList ++ x.cs.toList.drop (6 + z.cs.size)).toArray = ({ x with b := z } : Cm).cs := rfl
  rw [e] at hs
  exact ⟨_, hs, RvAt.set h, grown_row _ _ _⟩
/-- A law's variable of what is provisioned. -/
structure PvS (w W : World) (b : Nat) (x : Pr) (p : Pv) : Prop where
  bel : Below w.heap.size w W
  var : PrAt W b x
  pv : IsPv W x p
  lo : w.heap.size ≤ b
theorem PvS.below {w W W' : World} {b : Nat} {x : Pr} {p : Pv} (h : PvS w W b x p) (hb : Below W.heap.size W W') : PvS w W' b x p := ⟨below_over h.bel hb, h.var.below hb, h.pv.below hb, h.lo⟩
/-- .. where another such variable is stored into. -/
theorem PvS.other {w W W' : World} {b g : Nat} {x z : Pr} {p pz : Pv} (h : PvS w W b x p) (k : PvS w W g z pz) (hg : W.grownBy W' (some g)) (hn : b ≠ g) : PvS w W' b x p := ⟨gro h.bel hg k.lo h.bel.size, h.var.keptBut hg (by simpa using hn), h.pv.keptV k.var k.pv hg, h.lo⟩
/-- .. where it is itself. -/
theorem PvS.st {w W : World} {b : Nat} {x y : Pr} {p q : Pv} (h : PvS w W b x p) (hq : IsPv W y q) : ∃ V, (stS 29 (.pointer (some ⟨b, 0, none⟩)) (.agg y.cs)).run Try.prog W = .ok () V ∧ PvS w V b y q ∧ W.grownBy V (some b) := by
  obtain ⟨V, h1, h2, h3⟩ := h.var.st (y := y) hq.one
  exact ⟨V, h1, ⟨gro h.bel h3 h.lo h.bel.size, h2, hq.keptV h.var h.pv h3, h.lo⟩, h3⟩
theorem PvS.new {w W : World} {y : Pr} {q : Pv} (hb : Below w.heap.size w W) (hq : IsPv W y q) : ∃ V, (stS 29 (.pointer (some ⟨W.heap.size, 0, none⟩)) (.agg y.cs)).run Try.prog (W.alloc (.cells #[.int .u8 0, .int .u8 0, .int .u8 0, .int .u8 0, .int .u8 0, .int .u8 0, .slice none 0 0, .slice none 0 0, .slice none 0 0, .slice none 0 0] 29)) = .ok () V ∧ PvS w V W.heap.size y q ∧ Below W.heap.size W V := by
  obtain ⟨V, h1, h2, h3⟩ := PrAt.put W y hq.one
  exact ⟨V, h1, ⟨below_over hb h3, h2, hq.below h3, hb.size⟩, h3⟩
theorem PvS.ld {w W : World} {b : Nat} {x : Pr} {p : Pv} (h : PvS w W b x p) : (ldS 29 (.pointer (some ⟨b, 0, none⟩))).run Try.prog W = .ok (.agg x.cs) W := h.var.ld
theorem rdo_is {w : World} {p : Pv} {c : Cd} {x : Pr} {y : Cm} (h : IsPv w x p) (hz : Sz p) (hc : IsCm w y c) (hcl : c.b.ps.length ≤ 1000) :
    Calls Try.prog 31 #[.agg x.cs, .agg y.cs] w fun r w' => RdT w (doC p c) r w' := by
  exact rdo_any x p y c w h hz hc hcl
/-- A round's command: read, its member cut. -/
theorem IsCm.sh {W : World} {x : Cm} {d : Cd} {z : Mr} (h : IsCm W x d) (hv : z.v = x.b.v) (hp : SlAt eI W z.a z.n z.c (d.b.ps.take 10)) : IsCm W { x with b := z } (shD d) := ⟨h.k, h.m, h.c, hv.trans h.v, hp⟩
end Go.Proofs.Ytmfjlhcobhilcab
