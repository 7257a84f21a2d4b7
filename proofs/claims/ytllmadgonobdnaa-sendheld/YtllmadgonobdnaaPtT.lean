/-
  Trees in memory: variables, slices of ports. Plain laws over the program's types.
-/
import Derived.Test.YtllmadgonobdnaaPt
import Derived.Laws.AppendOwnNone
import Derived.Laws.CopyOwn
namespace Go.Proofs.Ytllmadgonobdnaa
set_option linter.unusedVariables false
set_option maxRecDepth 4000
set_option linter.unusedSimpArgs false
open Go.RowKit

/-- .. of a tree's, its ports aside. -/
def kdH : List (Option IntKind) := [some .u64] ++ kdT ++ [some .u8, none, some .u16] ++ kdV ++ kdT
/-- .. of settings', the costs aside. -/
def kdC : List (Option IntKind) := [some .u64] ++ kdT ++ [some .u8]
abbrev Hd := Row kdH
abbrev Cf := Row kdC
theorem lenH : kdH.length = 16 := by kernel_rfl
theorem lenC : kdC.length = 6 := by kernel_rfl
theorem infoT : (Try.prog.info? 31).map (·.size) = some 17 := by kernel_rfl
theorem rtT : RowTy 31 17 := ⟨infoT, _, Try.underlying31, rfl⟩
theorem infoC : (Try.prog.info? 70).map (·.size) = some 7 := by kernel_rfl
theorem rtC : RowTy 70 7 := ⟨infoC, _, Try.underlying70, rfl⟩
theorem rtTm : RowTy 24 4 := ⟨infoTm, _, Try.underlying24, rfl⟩
theorem neqP (a b : Pt) (w : World) : (binOp .neq 53 (.agg a.cs) (.agg b.cs)).run Try.prog w = .ok (.bool (!(a.eq b))) w := by
  rw [run_neq_struct, eqPort]
  rfl
theorem neqTm (a b : Tm) (w : World) : (binOp .neq 24 (.agg a.cs) (.agg b.cs)).run Try.prog w = .ok (.bool (!(a.eq b))) w := by
  rw [run_neq_struct, eqTimes]
  rfl
theorem neqV (a b : Vc) (w : World) : (binOp .neq 28 (.agg a.cs) (.agg b.cs)).run Try.prog w = .ok (.bool (!(a.eq b))) w := by
  rw [run_neq_struct, eqVector]
  rfl
theorem ldT (x : Value) : Instr.loadAt 31 x = ldS 31 x := rfl
theorem stT (x y : Value) : Instr.storeAt 31 x y = stS 31 x y := rfl
theorem ldC (x : Value) : Instr.loadAt 70 x = ldS 70 x := rfl
theorem stC (x y : Value) : Instr.storeAt 70 x y = stS 70 x y := rfl
theorem st32 (x y : Value) : Instr.storeAt 29 x y = stS 29 x y := rfl
theorem st4 (x y : Value) : Instr.storeAt 4 x y = stS 4 x y := rfl
theorem st5 (x y : Value) : Instr.storeAt 5 x y = stS 5 x y := rfl
theorem st29 (x y : Value) : Instr.storeAt 26 x y = stS 26 x y := rfl
theorem st49 (x y : Value) : Instr.storeAt 41 x y = stS 41 x y := rfl
theorem st25 (x y : Value) : Instr.storeAt 68 x y = stS 68 x y := rfl
theorem info1 : (Try.prog.info? 4).map (·.size) = some 1 ∧ (Try.prog.info? 5).map (·.size) = some 1 ∧ (Try.prog.info? 26).map (·.size) = some 1 ∧ (Try.prog.info? 41).map (·.size) = some 1 ∧ (Try.prog.info? 29).map (·.size) = some 1 ∧ (Try.prog.info? 68).map (·.size) = some 1 := ⟨by kernel_rfl, by kernel_rfl, by kernel_rfl, by kernel_rfl, by kernel_rfl, by kernel_rfl⟩
/-! ### trees -/
/-- A tree's cells: its head's and the slice of its ports. -/
def trc (h : Hd) (x : Value) : Array Value := (h.cl ++ [x]).toArray
theorem trc_size (h : Hd) (x : Value) : (trc h x).size = 17 := by simp [trc, h.len, lenH]
theorem trc_get {h : Hd} {x v : Value} {j : Nat} (hv : h.cl[j]? = some v) : (trc h x)[j]? = some v := by
  have := (List.getElem?_eq_some_iff.1 hv).1
  simp only [trc, List.getElem?_toArray]
  rw [List.getElem?_append_left this]
  exact hv
theorem trc_16 (h : Hd) (x : Value) : (trc h x)[16]? = some x := by
  have := h.len
  rw [lenH] at this
  simp only [trc, List.getElem?_toArray]
  rw [List.getElem?_append_right (by omega), this]
  rfl
theorem trc_set (h : Hd) (x y : Value) : ((trc h x).toList.set 16 y).toArray = trc h y := by
  have := h.len
  rw [lenH] at this
  simp only [trc]
  rw [List.set_append_right _ _ (by omega), this]
  rfl
theorem trc_one {h : Hd} {x : Value} (hx : x.oneCell' = true) : ∀ v ∈ (trc h x).toList, v.oneCell' = true := by
  intro v hv
  simp only [trc, List.mem_append, List.mem_singleton] at hv
  rcases hv with hv | rfl
  · exact h.one v hv
  · exact hx
/-- Parts of a tree's head. -/
def tOfH (h : Hd) : Tm := ⟨(h.cl.drop 1).take 4, (h.sub 1 4).ok⟩
def rOf (h : Hd) : Vc := ⟨(h.cl.drop 8).take 4, (h.sub 8 4).ok⟩
def uOf (h : Hd) : Tm := ⟨(h.cl.drop 12).take 4, (h.sub 12 4).ok⟩
theorem RvAt.tT {W : World} {b : Nat} {h : Hd} {x : Value} (hb : RvAt W b 31 (trc h x)) : (ldS 24 (.pointer (some ⟨b, 1, none⟩))).run Try.prog W = .ok (.agg (tOfH h).cs) W :=
  run_loadAt_mid W b 1 24 (tOfH h).cs.toList _ (fun j v hv => hb.cell _ _ (trc_get (sub_get (q := tOfH h) rfl (Row.idx hv)))) Try.underlying24 rfl (by rw [show (Row.cs _).toList.length = 4 by rw [Array.length_toList, Row.csize]; rfl]; exact infoTm)
theorem RvAt.tR {W : World} {b : Nat} {h : Hd} {x : Value} (hb : RvAt W b 31 (trc h x)) : (ldS 28 (.pointer (some ⟨b, 8, none⟩))).run Try.prog W = .ok (.agg (rOf h).cs) W :=
  run_loadAt_mid W b 8 28 (rOf h).cs.toList _ (fun j v hv => hb.cell _ _ (trc_get (sub_get (q := rOf h) rfl (Row.idx hv)))) Try.underlying28 rfl (by rw [show (Row.cs _).toList.length = 4 by rw [Array.length_toList, Row.csize]; rfl]; exact infoV)
theorem RvAt.tU {W : World} {b : Nat} {h : Hd} {x : Value} (hb : RvAt W b 31 (trc h x)) : (ldS 24 (.pointer (some ⟨b, 12, none⟩))).run Try.prog W = .ok (.agg (uOf h).cs) W :=
  run_loadAt_mid W b 12 24 (uOf h).cs.toList _ (fun j v hv => hb.cell _ _ (trc_get (sub_get (q := uOf h) rfl (Row.idx hv)))) Try.underlying24 rfl (by rw [show (Row.cs _).toList.length = 4 by rw [Array.length_toList, Row.csize]; rfl]; exact infoTm)
theorem RvAt.tld {W : World} {b : Nat} {h : Hd} {x : Value} (hb : RvAt W b 31 (trc h x)) : (ldS 31 (.pointer (some ⟨b, 0, none⟩))).run Try.prog W = .ok (.agg (trc h x)) W := hb.ld rtT (trc_size h x)
theorem RvAt.t16 {W : World} {b : Nat} {h : Hd} {x : Value} (hb : RvAt W b 31 (trc h x)) : W.cell? ⟨b, 16, none⟩ = some x := hb.cell 16 _ (trc_16 h x)
theorem RvAt.tnum {W : World} {b j : Nat} {k : IntKind} {h : Hd} {x : Value} (hb : RvAt W b 31 (trc h x)) (hk : kdH[j]? = some (some k)) : W.cell? ⟨b, j, none⟩ = some (.int k (h.nm j)) := hb.cell j _ (trc_get (h.num hk))
theorem RvAt.tbit {W : World} {b j : Nat} {h : Hd} {x : Value} (hb : RvAt W b 31 (trc h x)) (hk : kdH[j]? = some none) : W.cell? ⟨b, j, none⟩ = some (.bool (h.bt j)) := hb.cell j _ (trc_get (h.bit hk))
/-- The ports' slice of a tree's variable, stored. -/
theorem RvAt.tset {W : World} {b : Nat} {h : Hd} {x y : Value} (hb : RvAt W b 31 (trc h x)) (hy : y.oneCell' = true) :
    ∃ W', (stS 29 (.pointer (some ⟨b, 16, none⟩)) y).run Try.prog W = .ok () W' ∧ RvAt W' b 31 (trc h y) ∧ W.grownBy W' (some b) := by
  refine ⟨_, hb.st1 info1.2.2.2.2.1 (by rw [trc_size]; omega) hy, ?_, ⟨rfl, rfl, rfl, by simp, fun i hi hne => setRow_other W b i _ (fun e => hne (by rw [e]))⟩⟩
  rw [trc_set]
  exact hb.set
/-- A tree's variable, stored whole. -/
theorem RvAt.tst {W : World} {b : Nat} {h g : Hd} {x y : Value} (hb : RvAt W b 31 (trc h x)) (hy : y.oneCell' = true) :
    ∃ W', (stS 31 (.pointer (some ⟨b, 0, none⟩)) (.agg (trc g y))).run Try.prog W = .ok () W' ∧ RvAt W' b 31 (trc g y) ∧ W.grownBy W' (some b) :=
  ⟨_, hb.st rtT (trc_size _ _) (trc_size _ _) (trc_one hy), hb.set, ⟨rfl, rfl, rfl, by simp, fun i hi hne => setRow_other W b i _ (fun e => hne (by rw [e]))⟩⟩
/-! ### ports in variables -/
theorem RvAt.pnum {W : World} {b j : Nat} {k : IntKind} {p : Pt} (hb : RvAt W b 53 p.cs) (hk : kdP[j]? = some (some k)) : W.cell? ⟨b, j, none⟩ = some (.int k (p.nm j)) := hb.cell j _ (by rw [Row.cget]; exact p.num hk)
theorem RvAt.pbit {W : World} {b j : Nat} {p : Pt} (hb : RvAt W b 53 p.cs) (hk : kdP[j]? = some none) : W.cell? ⟨b, j, none⟩ = some (.bool (p.bt j)) := hb.cell j _ (by rw [Row.cget]; exact p.bit hk)
/-- One cell of a port's variable, stored. -/
theorem RvAt.pset {W : World} {b j : Nat} {tv : TypeId} {v : Value} {p : Pt} (hb : RvAt W b 53 p.cs) (hi : (Try.prog.info? tv).map (·.size) = some 1) (hj : j < 77) (hv : v.oneCell' = true) (hf : ∀ k, kdP[j]? = some k → Fit k v) :
    ∃ W', (stS tv (.pointer (some ⟨b, j, none⟩)) v).run Try.prog W = .ok () W' ∧ RvAt W' b 53 (p.set j v hf).cs ∧ W.grownBy W' (some b) := by
  refine ⟨_, hb.st1 hi (by rw [Row.csize, lenP]; exact hj) hv, ?_, ⟨rfl, rfl, rfl, by simp, fun i hi hne => setRow_other W b i _ (fun e => hne (by rw [e]))⟩⟩
  exact hb.set
def zeroH : Hd := zeroR kdH
/-! ### rows of ports, flat -/
theorem flat_get : ∀ (l : List Pt) (t : Nat), (l.flatMap Row.cl)[t]? = (l[t / 77]?).bind (fun x => x.cl[t % 77]?)
  | [], t => by simp
  | x :: r, t => by
    rw [List.flatMap_cons]
    by_cases h : t < 77
    · rw [List.getElem?_append_left (by rw [Pt.len]; exact h), Nat.div_eq_of_lt h, Nat.mod_eq_of_lt h]
      rfl
    · rw [List.getElem?_append_right (by rw [Pt.len]; omega), Pt.len, flat_get r (t - 77)]
      have h1 : t / 77 = (t - 77) / 77 + 1 := by omega
      have h2 : (t - 77) % 77 = t % 77 := by omega
      rw [h1, h2, List.getElem?_cons_succ]
theorem flat_len (l : List Pt) : (l.flatMap Row.cl).length = l.length * 77 := by
  induction l with
  | nil => rfl
  | cons x r ih => rw [List.flatMap_cons, List.length_append, ih, Pt.len, List.length_cons]; omega
theorem flat_one (l : List Pt) : ∀ v ∈ l.flatMap Row.cl, v.oneCell' = true := by
  intro v hv
  obtain ⟨x, _, hx⟩ := List.mem_flatMap.1 hv
  exact Row.one x v hx
theorem flat_at {l : List Pt} {i k : Nat} {x : Pt} {v : Value} (hx : l[i]? = some x) (hv : x.cl[k]? = some v) (hk : k < 77) : (l.flatMap Row.cl)[i * 77 + k]? = some v := by
  rw [flat_get, show (i * 77 + k) / 77 = i by omega, show (i * 77 + k) % 77 = k by omega, hx]
  exact hv
/-- The slice leads to the ports l. -/
structure SlAt (W : World) (a : Option Addr) (n c : Nat) (l : List Pt) : Prop where
  len : l.length = n
  cap : n ≤ c
  max : c ≤ maxLen
  nil : a = none → n = 0 ∧ c = 0
  cells : ∀ x, a = some x → 0 < n → ∃ b o, x = ⟨b, o, none⟩ ∧ ∀ j u, (l.flatMap Row.cl)[j]? = some u → W.cell? ⟨b, o + j, none⟩ = some u
theorem SlAt.below {W W' : World} {a : Option Addr} {n c : Nat} {l : List Pt} (h : SlAt W a n c l) (hb : Below W.heap.size W W') : SlAt W' a n c l := by
  refine ⟨h.len, h.cap, h.max, h.nil, fun x hx h0 => ?_⟩
  obtain ⟨b, o, e, hc⟩ := h.cells x hx h0
  exact ⟨b, o, e, fun j u hj => (hb.cell (World.block_lt_of_cell? W _ (hc j u hj))).trans (hc j u hj)⟩
theorem SlAt.keptBut {W W' : World} {a : Option Addr} {n c : Nat} {l : List Pt} {row : Option Nat} (h : SlAt W a n c l) (hg : W.grownBy W' row) (hn : ∀ x, a = some x → some x.block ≠ row) : SlAt W' a n c l := by
  refine ⟨h.len, h.cap, h.max, h.nil, fun x hx h0 => ?_⟩
  obtain ⟨b, o, e, hc⟩ := h.cells x hx h0
  refine ⟨b, o, e, fun j u hj => ?_⟩
  subst e
  exact hg.cell (hc j u hj) (hn ⟨b, o, none⟩ hx)
theorem SlAt.none' (W : World) : SlAt W none 0 0 [] := ⟨rfl, Nat.le_refl _, by simp, fun _ => ⟨rfl, rfl⟩, fun x h => by cases h⟩
theorem SlAt.some' {W : World} {a : Option Addr} {n c : Nat} {l : List Pt} (h : SlAt W a n c l) (hn : 0 < n) : ∃ b o, a = some ⟨b, o, none⟩ := by
  cases a with
  | none => have := (h.nil rfl).1; omega
  | some x =>
    obtain ⟨b, o, e, _⟩ := h.cells x rfl hn
    exact ⟨b, o, by rw [e]⟩
theorem SlAt.cell {W : World} {b o n c : Nat} {l : List Pt} (h : SlAt W (some ⟨b, o, none⟩) n c l) {i k : Nat} {x : Pt} {v : Value} (hx : l[i]? = some x) (hv : x.cl[k]? = some v) (hk : k < 77) : W.cell? ⟨b, o + i * 77 + k, none⟩ = some v := by
  obtain ⟨b', o', e, hc⟩ := h.cells _ rfl (by rw [← h.len]; exact Nat.lt_of_le_of_lt (Nat.zero_le _) (List.getElem?_eq_some_iff.1 hx).1)
  cases e
  rw [Nat.add_assoc]
  exact hc _ _ (flat_at hx hv hk)
theorem SlAt.ld {W : World} {b o n c : Nat} {l : List Pt} (h : SlAt W (some ⟨b, o, none⟩) n c l) {i : Nat} {x : Pt} (hx : l[i]? = some x) : (ldS 53 (.pointer (some ⟨b, o + i * 77, none⟩))).run Try.prog W = .ok (.agg x.cs) W :=
  run_loadAt_mid W b (o + i * 77) 53 x.cl _ (fun j v hv => h.cell hx hv (by
    rcases Nat.lt_or_ge j 77 with hj | hj
    · exact hj
    · rw [List.getElem?_eq_none (by rw [Pt.len]; exact hj)] at hv; cases hv)) Try.underlying53 rfl (by rw [Pt.len]; exact infoP)
/-- A slice of the call's own that holds the ports l. -/
def Own (W : World) (B : Nat) (v : Value) (l : List Pt) : Prop := W.ownsRow B 53 77 v l.length (l.flatMap Row.cl)
theorem Own.form {W : World} {B : Nat} {v : Value} {l : List Pt} (h : Own W B v l) : ∃ a c, v = .slice a l.length c ∧ SlAt W a l.length c l ∧ ∀ x, a = some x → B ≤ x.block ∧ x.block < W.heap.size := by
  rcases h.2 with ⟨rfl, h0⟩ | ⟨g, cap, cur, rfl, hB, hb, h1, h2, h3, h4⟩
  · have : l = [] := List.eq_nil_of_length_eq_zero h0
    subst this
    exact ⟨none, 0, rfl, SlAt.none' W, fun x e => by cases e⟩
  · refine ⟨some ⟨g, 0, none⟩, cap, rfl, ⟨rfl, h1, h2, (fun e => by cases e), fun x e _ => ?_⟩, fun x e => ?_⟩
    · cases e
      refine ⟨g, 0, rfl, fun j u hj => ?_⟩
      rw [Nat.zero_add]
      refine cell_at hb j u ?_
      rw [← h4, List.getElem?_take] at hj
      split at hj
      · rw [← Array.getElem?_toList]; exact hj
      · cases hj
    · cases e
      exact ⟨hB, lt_of_block hb⟩
theorem Own.nil (W : World) (B : Nat) : Own W B (.slice none 0 0) [] := World.ownsRow_nil W B _ _
theorem Own.keptBut {W W' : World} {B : Nat} {v : Value} {l : List Pt} {row : Option Nat} (h : Own W B v l) (hg : W.grownBy W' row) (hne : v.ownBlock = none ∨ v.ownBlock ≠ row) : Own W' B v l := World.ownsRow.kept h hg hne
theorem Own.below {W W' : World} {B : Nat} {v : Value} {l : List Pt} (h : Own W B v l) (hb : Below W.heap.size W W') : Own W' B v l := by
  refine h.keptBut (grown_of_below hb none) ?_
  cases v.ownBlock <;> simp
theorem infoP3 : (Try.prog.info? 53).map (fun i => (i.zero, i.size, i.bytes)) = some (some (.agg zeroP.cs), 77, 248) := by kernel_rfl
/-- append, at ports. -/
def apS (ty : TypeId) (xs : Array Value) : Sem Value := Builtin.append_ #[29, 29] ty xs
theorem apE (ty : TypeId) (xs : Array Value) : Builtin.append_ #[29, 29] ty xs = apS ty xs := rfl
/-- Ports appended to a slice of the call's own. -/
theorem Own.app {W : World} {B : Nat} {v : Value} {l m : List Pt} {a : Option Addr} {n c : Nat} (h : Own W B v l) (hs : SlAt W a n c m) (hl : l.length + m.length ≤ 100000) (hB : B ≤ W.heap.size) (ty : TypeId) :
    ∃ v' W', (apS ty #[v, .slice a n c]).run Try.prog W = .ok v' W' ∧ Own W' B v' (l ++ m) ∧ W.grownBy W' v.ownBlock := by
  obtain ⟨i0, hi, hz0, hz1, hz2⟩ := info_parts infoP3
  unfold apS
  cases a with
  | none =>
    obtain ⟨rfl, rfl⟩ := hs.nil rfl
    have hm : m = [] := List.eq_nil_of_length_eq_zero hs.len
    subst hm
    have hrun := run_append_owned_none (P := Try.prog) (w := W) B 29 ty 53 i0 77 Try.underlying29 hi v l.length _ h
    exact ⟨v, W, hrun, by rw [List.append_nil]; exact h, World.grownBy.refl _ _⟩
  | some x =>
    by_cases hn0 : n = 0
    · subst hn0
      have hm : m = [] := List.eq_nil_of_length_eq_zero hs.len
      subst hm
      obtain ⟨v', W', hrun, h1, h2, _⟩ := run_append_own (P := Try.prog) W B 29 ty 53 i0 _ 77 248 Try.underlying29 hi hz0 hz1 hz2 (by show zeroP.cs.size = 77; rw [Row.csize, lenP]) (by decide) v l.length _ h x 0 c [] rfl
        (fun j u hj => by cases hj) (fun u hu => by cases hu) (by unfold maxLen; omega) (by omega) hB
      refine ⟨v', W', hrun, ?_, h2⟩
      unfold Own
      rw [List.append_nil] at h1 ⊢
      exact h1
    obtain ⟨b, o, rfl, hc⟩ := hs.cells x rfl (by omega)
    obtain ⟨v', W', hrun, h1, h2, _⟩ := run_append_own (P := Try.prog) W B 29 ty 53 i0 _ 77 248 Try.underlying29 hi hz0 hz1 hz2 (by show zeroP.cs.size = 77; rw [Row.csize, lenP]) (by decide) v l.length _ h ⟨b, o, none⟩ n c (m.flatMap Row.cl) (by rw [flat_len, hs.len])
      (fun j u hj => by rw [Addr.add_lit]; exact hc j u hj) (flat_one m) (by have := hs.len; unfold maxLen; omega) (by have := hs.len; omega) hB
    refine ⟨v', W', hrun, ?_, h2⟩
    unfold Own
    rw [List.flatMap_append, List.length_append, hs.len]
    exact h1
/-- A port alone in a new row. -/
theorem one_new (W : World) (x : Pt) : SlAt (W.alloc (.cells x.cs 53)) (some ⟨W.heap.size, 0, none⟩) 1 1 [x] := by
  refine ⟨rfl, Nat.le_refl _, by unfold maxLen; omega, (fun e => by cases e), fun y e _ => ?_⟩
  cases e
  refine ⟨_, _, rfl, fun j u hj => ?_⟩
  rw [Nat.zero_add]
  refine RvAt.cell (RvAt.new W 53 x.cs) j u ?_
  have : [x].flatMap Row.cl = x.cl := by simp
  rw [this] at hj
  rw [← Array.getElem?_toList]
  exact hj
end Go.Proofs.Ytllmadgonobdnaa
