/-
  Great regions whose guards are not decided: the frame known by a list of what its slots hold. Plain laws.
-/
import Derived.Test.YtdlleecfmebenaaSym
namespace Go.Proofs.Ytdlleecfmebenaa
set_option linter.unusedVariables false
set_option maxRecDepth 4000
set_option linter.unusedSimpArgs false
open Go.RowKit

/-- What a list says of a slot. -/
def eAt : List (Nat × Value) → Nat → Option Value
  | [], _ => none
  | (d, v) :: r, s => bif Nat.beq d s then some v else eAt r s
/-- The frame has N slots, nothing deferred, and in its slots what the list says. -/
structure Has (a : Act) (N : Nat) (E : List (Nat × Value)) : Prop where
  size : a.tmps.size = N
  defers : a.defers = []
  slot : ∀ s v, eAt E s = some v → a.tmps[s]? = some v
theorem Has.nil {a : Act} {N : Nat} (h : a.tmps.size = N) (hd : a.defers = []) : Has a N [] := ⟨h, hd, fun s v e => by cases e⟩
theorem Has.cons {a : Act} {N d : Nat} {v : Value} {E : List (Nat × Value)} (h : a.tmps[d]? = some v) (A : Has a N E) : Has a N ((d, v) :: E) := ⟨A.size, A.defers, fun s u e => by
  unfold eAt at e
  cases hb : Nat.beq d s with
  | true =>
    rw [hb] at e
    cases e
    have := Nat.eq_of_beq_eq_true hb
    subst this
    exact h
  | false => rw [hb] at e; exact A.slot s u e⟩
theorem Has.put {a : Act} {N d : Nat} {v : Value} {E : List (Nat × Value)} (A : Has a N E) (hd : d < N) : Has (a.put (some d) v) N ((d, v) :: E) := ⟨by simp [Act.put, A.size], A.defers, fun s u e => by
  unfold eAt at e
  show (a.tmps.setIfInBounds d v)[s]? = some u
  cases hb : Nat.beq d s with
  | true =>
    rw [hb] at e
    cases e
    have := Nat.eq_of_beq_eq_true hb
    subst this
    simp [A.size, hd]
  | false =>
    rw [hb] at e
    have hne : d ≠ s := fun h => by subst h; rw [Nat.beq_refl] at hb; cases hb
    rw [Array.getElem?_setIfInBounds_ne hne]
    exact A.slot s u e⟩
theorem Has.ev {a : Act} {N s : Nat} {v : Value} {E : List (Nat × Value)} (A : Has a N E) (h : eAt E s = some v) : a.eval (.tmp s) = v := by
  have := A.slot s v h
  show a.tmps.getD s undef = v
  simp [Array.getD_eq_getD_getElem?, this]
theorem Has.gt {a : Act} {N s j : Nat} {v : Value} {E : List (Nat × Value)} {ops : Array Oper} (A : Has a N E) (hj : (ops[j]?).bind (·.dst) = some s) (h : eAt E s = some v) : ((ops[j]?).bind (·.dst)).bind (a.tmps[·]?) = some v := by
  rw [hj]
  exact A.slot s v h
section
variable {ops : Array Oper} {C : World → Prop} {o : Oper} {v : Value} {N : Nat} {E : List (Nat × Value)}
/-- The quiet walk, from every such frame. -/
def wpE (ops : Array Oper) (C : World → Prop) (Q : Act → Prop) (l : List Oper) (N : Nat) (E : List (Nat × Value)) : Prop := ∀ a, Has a N E → wpQuiet Try.prog ops C Q l a
theorem e_put {Q : Act → Prop} {rest : List Oper} {d : Nat} (hd : o.dst = some d) (hN : d < N) (hy : ∀ a, Has a N E → YieldsIn Try.prog ops C o v a) (h : wpE ops C Q rest N ((d, v) :: E)) : wpE ops C Q (o :: rest) N E := fun a A =>
  q_put (hy a A) (by rw [hd]; exact h _ (A.put hN))
theorem e_nil {Q : Act → Prop} (h : ∀ a, Has a N E → Q a) : wpE ops C Q [] N E := fun a A => h a A
theorem wl_put {Q : Exit → Act → World → Prop} {rest : List Oper} {a : Act} {w w' : World} (hg : o.guard = none) (hr : (execOp a.eval o).run Try.prog w = .ok (.value v) w') (h : wpList Try.prog ops Q rest (a.put o.dst v) w') : wpList Try.prog ops Q (o :: rest) a w := by
  unfold wpList
  rw [if_pos (by unfold Region.wanted; rw [hg])]
  refine Or.inl ?_
  unfold Oper.wp
  rw [hr]
  exact h
end
/-- A function that tells one slot's value, at its end. -/
theorem results_tmp {fn : Func} {t : Nat} (hr : fn.results = #[.tmp t]) (tmps : Array Value) (w : World) : (results fn tmps).run Try.prog w = .ok (tmps.getD t undef) w := by simp [results, hr]
theorem ret_slot {fn : Func} {t N : Nat} {v : Value} {E : List (Nat × Value)} (hr : fn.results = #[.tmp t]) {R : Ending → World → Prop} {a : Act} {w : World} (A : Has a N E) (h : eAt E t = some v) (hR : R (.returned v) w) : bodyPost Try.prog fn R .ret a w := by
  have e : a.tmps.getD t undef = v := A.ev h
  refine bodyPost_ret (results_tmp hr _ _) A.defers ?_
  rw [e]
  exact hR
end Go.Proofs.Ytdlleecfmebenaa
