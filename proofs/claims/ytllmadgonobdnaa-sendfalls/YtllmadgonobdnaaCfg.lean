/-
  Which settings may be: Check and the definition's IsConf: their walks, for all settings.
-/
import Derived.Test.YtllmadgonobdnaaCst
import Derived.Test.YtllmadgonobdnaaKit
namespace Go.Proofs.Ytllmadgonobdnaa
set_option linter.unusedVariables false
set_option maxRecDepth 4000
set_option linter.unusedSimpArgs false
open Go.RowKit

/-- Settings' cells. -/
def cfc (c : Cf) (x : Value) : Array Value := (c.cl ++ [x]).toArray
theorem cfc_size (c : Cf) (x : Value) : (cfc c x).size = 7 := by simp [cfc, c.len, lenC]
theorem cfc_get {c : Cf} {x v : Value} {j : Nat} (hv : c.cl[j]? = some v) : (cfc c x)[j]? = some v := by
  have := (List.getElem?_eq_some_iff.1 hv).1
  simp only [cfc, List.getElem?_toArray]
  rw [List.getElem?_append_left this]
  exact hv
theorem cfc_6 (c : Cf) (x : Value) : (cfc c x)[6]? = some x := by
  have := c.len
  rw [lenC] at this
  simp only [cfc, List.getElem?_toArray]
  rw [List.getElem?_append_right (by omega), this]
  rfl
theorem cfc_set (c : Cf) (x y : Value) : ((cfc c x).toList.set 6 y).toArray = cfc c y := by
  have := c.len
  rw [lenC] at this
  simp only [cfc]
  rw [List.set_append_right _ _ (by omega), this]
  rfl
theorem cfc_one {c : Cf} {x : Value} (hx : x.oneCell' = true) : ∀ v ∈ (cfc c x).toList, v.oneCell' = true := by
  intro v hv
  simp only [cfc, List.mem_append, List.mem_singleton] at hv
  rcases hv with hv | rfl
  · exact c.one v hv
  · exact hx
theorem RvAt.cld {W : World} {b : Nat} {c : Cf} {x : Value} (hb : RvAt W b 70 (cfc c x)) : (ldS 70 (.pointer (some ⟨b, 0, none⟩))).run Try.prog W = .ok (.agg (cfc c x)) W := hb.ld rtC (cfc_size c x)
theorem RvAt.c6 {W : World} {b : Nat} {c : Cf} {x : Value} (hb : RvAt W b 70 (cfc c x)) : W.cell? ⟨b, 6, none⟩ = some x := hb.cell 6 _ (cfc_6 c x)
theorem RvAt.cnum {W : World} {b j : Nat} {k : IntKind} {c : Cf} {x : Value} (hb : RvAt W b 70 (cfc c x)) (hk : kdC[j]? = some (some k)) : W.cell? ⟨b, j, none⟩ = some (.int k (c.nm j)) := hb.cell j _ (cfc_get (c.num hk))
theorem RvAt.cT {W : World} {b : Nat} {c : Cf} {x : Value} (hb : RvAt W b 70 (cfc c x)) : (ldS 24 (.pointer (some ⟨b, 1, none⟩))).run Try.prog W = .ok (.agg #[.int .u8 (c.nm 1), .int .u8 (c.nm 2), .int .u8 (c.nm 3), .int .u8 (c.nm 4)]) W :=
  run_loadAt_mid W b 1 24 [.int .u8 (c.nm 1), .int .u8 (c.nm 2), .int .u8 (c.nm 3), .int .u8 (c.nm 4)] _ (fun j v hv => by
    match j, hv with
    | 0, hx => cases hx; exact hb.cnum rfl
    | 1, hx => cases hx; exact hb.cnum rfl
    | 2, hx => cases hx; exact hb.cnum rfl
    | 3, hx => cases hx; exact hb.cnum rfl
    | j + 4, hx => simp at hx) Try.underlying24 rfl infoTm
theorem one_c (w : World) (c : Cf) (x : Value) : ∃ W, w.alloc (.cells (cfc c x) 70) = W ∧ RvAt W w.heap.size 70 (cfc c x) ∧ Below w.heap.size w W ∧ W.heap.size = w.heap.size + 1 :=
  ⟨_, rfl, RvAt.new w _ _, (Below.refl _ _).alloc (Nat.le_refl _) _, by simp⟩
theorem Row.u8' {ks : List (Option IntKind)} (r : Row ks) {j : Nat} (h : ks[j]? = some (some .u8)) : 0 ≤ r.nm j ∧ r.nm j ≤ 255 := by
  have := r.nwf h
  simp [Lit.wf, IntKind.min, IntKind.max, IntKind.signed, IntKind.bits] at this
  omega
/-- May these settings be? -/
abbrev Okc (i t0 t1 t2 t3 u : Int) (l : List Int) : Prop := i % 281474976710656 ≠ 0 ∧ chkT t1 t2 t3 = 0 ∧ t0 = 0 ∧ 1 ≤ u ∧ u ≤ 10 ∧ 1 ≤ l.length ∧ l.length ≤ 8 ∧ l.any badC = false
def okC (c : Cf) (l : List Int) : Bool := decide (Okc (c.nm 0) (c.nm 1) (c.nm 2) (c.nm 3) (c.nm 4) (c.nm 5) l)
/-- The error's number. -/
def erC (b : Bool) : Int := match b with | true => 0 | false => 90
theorem chk01 (x h d : Int) : chkT x h d = 0 ∨ chkT x h d = 60 := by
  unfold chkT
  split
  · exact Or.inl rfl
  · exact Or.inr rfl
attribute [local go_sem ↓] ldT stT ldC stC ldTm
end Go.Proofs.Ytllmadgonobdnaa
