/-
  Regions whose guards are not decided: each operation's value told, guarded ones with their guard. Plain laws.
-/
import Derived.Test.YtllmadgonobdnaaKit
import Derived.Deep.Cut
import Derived.Deep.CutRange
namespace Go.Proofs.Ytllmadgonobdnaa
set_option linter.unusedVariables false
set_option maxRecDepth 4000
set_option linter.unusedSimpArgs false
open Go.RowKit

/-- A value that is there only where its guard lets it. -/
def gd (G want : Bool) (v : Value) : Value := bif G == want then v else undef
theorem gd_on {G want : Bool} {v : Value} (h : G = want) : gd G want v = v := by subst h; simp [gd]
theorem gd_off {G want : Bool} {v : Value} (h : G ≠ want) : gd G want v = undef := by
  have : (G == want) = false := by simpa using h
  simp [gd, this]
theorem on {a : Act} {x : Operand} {G want : Bool} {V : Value} (e : G = want) (h : a.eval x = gd G want V) : a.eval x = V := h.trans (gd_on e)
theorem pk_and (X Y : Bool) : (if X = true then gd X true (.bool Y) else .bool false) = Value.bool (X && Y) := by
  cases X
  · rfl
  · rw [if_pos rfl, gd_on rfl]; rfl
theorem pk_or (X Y : Bool) : (if X = true then Value.bool true else gd X false (.bool Y)) = Value.bool (X || Y) := by
  cases X
  · rw [if_neg (by decide), gd_on rfl]; rfl
  · rfl
theorem pkA {a : Act} {x y : Operand} {X Y : Bool} (hx : a.eval x = gd X true (.bool Y)) (hy : a.eval y = .bool false) : (if X = true then a.eval x else a.eval y) = Value.bool (X && Y) := by
  rw [hx, hy]
  exact pk_and X Y
theorem pkO {a : Act} {x y : Operand} {X Y : Bool} (hx : a.eval x = .bool true) (hy : a.eval y = gd X false (.bool Y)) : (if X = true then a.eval x else a.eval y) = Value.bool (X || Y) := by
  rw [hx, hy]
  exact pk_or X Y
theorem Act.eval_func (a : Act) (F : Nat) : a.eval (.func F) = .func (.func F) #[] #[] := rfl
section
variable {ops : Array Oper} {C : World → Prop} {a : Act} {o : Oper} {v : Value}
/-- The operation yields v in every world of the class. -/
def Qt (C : World → Prop) (o : Oper) (v : Value) (a : Act) : Prop := ∀ w, C w → o.quietAt Try.prog a C w v
theorem q_put (hy : YieldsIn Try.prog ops C o v a) {Q : Act → Prop} {rest : List Oper} (h : wpQuiet Try.prog ops C Q rest (a.put o.dst v)) : wpQuiet Try.prog ops C Q (o :: rest) a := by
  unfold wpQuiet
  rcases hy with ⟨hw, hv⟩ | ⟨hw, rfl⟩
  · rw [if_pos hw]; exact ⟨v, hv, h⟩
  · rw [if_neg (by rw [hw]; exact Bool.false_ne_true)]; exact h
theorem yq (hg : o.guard = none) (h : Qt C o v a) : YieldsIn Try.prog ops C o v a := Or.inl ⟨by unfold Region.wanted; rw [hg], h⟩
theorem yq1 {j : Nat} {want G : Bool} (hg : o.guard = some (j, want)) (hj : ((ops[j]?).bind (·.dst)).bind (a.tmps[·]?) = some (.bool G)) (h : G = want → Qt C o v a) : YieldsIn Try.prog ops C o (gd G want v) a := by
  have hy : yielded ops a.tmps j = some G := by unfold yielded; rw [hj]
  by_cases e : G = want
  · rw [gd_on e]
    exact Or.inl ⟨by unfold Region.wanted; rw [hg]; simp [hy, e], h e⟩
  · rw [gd_off e]
    exact Or.inr ⟨by unfold Region.wanted; rw [hg]; simp [hy, e], rfl⟩
theorem yq2 {j : Nat} {want G1 w1 G2 : Bool} (hg : o.guard = some (j, want)) (hj : ((ops[j]?).bind (·.dst)).bind (a.tmps[·]?) = some (gd G1 w1 (.bool G2))) (h : G1 = w1 → G2 = want → Qt C o v a) : YieldsIn Try.prog ops C o (gd G1 w1 (gd G2 want v)) a := by
  by_cases e1 : G1 = w1
  · rw [gd_on e1] at hj ⊢
    exact yq1 hg hj (h e1)
  · rw [gd_off e1] at hj ⊢
    have hy : yielded ops a.tmps j = none := by unfold yielded; rw [hj]; rfl
    exact Or.inr ⟨by unfold Region.wanted; rw [hg]; simp [hy], rfl⟩
theorem yq3 {j : Nat} {want G1 w1 G2 w2 G3 : Bool} (hg : o.guard = some (j, want)) (hj : ((ops[j]?).bind (·.dst)).bind (a.tmps[·]?) = some (gd G1 w1 (gd G2 w2 (.bool G3)))) (h : G1 = w1 → G2 = w2 → G3 = want → Qt C o v a) : YieldsIn Try.prog ops C o (gd G1 w1 (gd G2 w2 (gd G3 want v))) a := by
  by_cases e1 : G1 = w1
  · rw [gd_on e1] at hj ⊢
    exact yq2 hg hj (h e1)
  · rw [gd_off e1] at hj ⊢
    have hy : yielded ops a.tmps j = none := by unfold yielded; rw [hj]; rfl
    exact Or.inr ⟨by unfold Region.wanted; rw [hg]; simp [hy], rfl⟩
/-- It runs, and leaves the world as it is. -/
def Rn (C : World → Prop) (o : Oper) (v : Value) (a : Act) : Prop := ∀ w, C w → (execOp a.eval o).run Try.prog w = .ok (.value v) w
theorem Rn.qt (h : Rn C o v a) : Qt C o v a := fun w hw => by
  unfold Oper.quietAt
  rw [h w hw]
  exact ⟨rfl, rfl⟩
theorem yr (hg : o.guard = none) (h : Rn C o v a) : YieldsIf Try.prog ops C o v a := Or.inl ⟨by unfold Region.wanted; rw [hg], h⟩
theorem yr1 {j : Nat} {want G : Bool} (hg : o.guard = some (j, want)) (hj : ((ops[j]?).bind (·.dst)).bind (a.tmps[·]?) = some (.bool G)) (h : G = want → Rn C o v a) : YieldsIf Try.prog ops C o (gd G want v) a := by
  have hy : yielded ops a.tmps j = some G := by unfold yielded; rw [hj]
  by_cases e : G = want
  · rw [gd_on e]
    exact Or.inl ⟨by unfold Region.wanted; rw [hg]; simp [hy, e], h e⟩
  · rw [gd_off e]
    exact Or.inr ⟨by unfold Region.wanted; rw [hg]; simp [hy, e], rfl⟩
theorem yr2 {j : Nat} {want G1 w1 G2 : Bool} (hg : o.guard = some (j, want)) (hj : ((ops[j]?).bind (·.dst)).bind (a.tmps[·]?) = some (gd G1 w1 (.bool G2))) (h : G1 = w1 → G2 = want → Rn C o v a) : YieldsIf Try.prog ops C o (gd G1 w1 (gd G2 want v)) a := by
  by_cases e1 : G1 = w1
  · rw [gd_on e1] at hj ⊢
    exact yr1 hg hj (h e1)
  · rw [gd_off e1] at hj ⊢
    have hy : yielded ops a.tmps j = none := by unfold yielded; rw [hj]; rfl
    exact Or.inr ⟨by unfold Region.wanted; rw [hg]; simp [hy], rfl⟩
theorem qmove {x : Operand} (h : o.op = .move x) (hx : a.eval x = v) : Rn C o v a := fun w _ => by unfold execOp; rw [h, ← hx]; rfl
theorem qassign {x : Operand} (h : o.op = .assign x) (hx : a.eval x = v) : Rn C o v a := fun w _ => by unfold execOp; rw [h, ← hx]; rfl
theorem qnil {x : Operand} {A : Addr} (h : o.op = .nilCheck x) (hx : a.eval x = .pointer (some A)) : Rn C o (.pointer (some A)) a := fun w _ => by
  unfold execOp
  simp only [h, hx]
  rfl
/-- Where a field lies. -/
def FAt (t : TypeId) (k d : Nat) : Prop := ∀ (b q : Nat) (w : World), (Instr.fieldAt t (.pointer (some ⟨b, q, none⟩)) k).run Try.prog w = .ok (.pointer (some ⟨b, q + d, none⟩)) w
theorem qfield {t : TypeId} {x : Operand} {k b q d : Nat} (h : o.op = .fieldAddr t x k) (hx : a.eval x = .pointer (some ⟨b, q, none⟩)) (hf : FAt t k d) : Rn C o (.pointer (some ⟨b, q + d, none⟩)) a := fun w _ => by
  unfold execOp
  simp only [h, hx]
  rw [Sem.run_bind, hf]
  rfl
theorem qload {t : TypeId} {x : Operand} {A : Addr} (h : o.op = .load t x) (hx : a.eval x = .pointer (some A)) (hl : ∀ w, C w → (Instr.loadAt t (.pointer (some A))).run Try.prog w = .ok v w) : Rn C o v a := fun w hw => by
  unfold execOp
  simp only [h, hx]
  rw [Sem.run_bind, hl w hw]
  rfl
theorem qnot {t : TypeId} {x : Operand} {B : Bool} (h : o.op = .unOp .not t x) (hx : a.eval x = .bool B) : Rn C o (.bool (!B)) a := fun w _ => by
  unfold execOp
  simp only [h, hx]
  rfl
theorem qbin {op : BinOp} {t t' : TypeId} {x y : Operand} {X Y : Value} (h : o.op = .binOp op t x y t') (hx : a.eval x = X) (hy : a.eval y = Y) (he : ∀ w, (eqGuard op t x y X Y).run Try.prog w = .ok () w) (hv : ∀ w, (binOp op t X Y).run Try.prog w = .ok v w) : Rn C o v a := fun w _ => by
  unfold execOp
  simp only [h, hx, hy]
  simp only [Sem.run_bind, he, hv, Result.andThen_ok]
  rfl
theorem qpick {c x y : Operand} {B : Bool} (h : o.op = .pick c x y) (hc : a.eval c = .bool B) (hv : (if B = true then a.eval x else a.eval y) = v) : Rn C o v a := fun w _ => by
  unfold execOp
  simp only [h, hc]
  rw [← hv]
  rfl
theorem qfn {F : Nat} {x : Operand} {X : Value} (h : o.op = .makeFunc (.func F) #[x] #[]) (hx : a.eval x = X) : Rn C o (.func (.func F) #[X] #[]) a := fun w _ => by
  unfold execOp
  simp only [h]
  simp [hx, Instr.makeFunc]
/-- A call in a region: its contract. -/
theorem qcall {c : Call} {F : Nat} {args : Array Value} (h : o.op = .call c) (hr : ∀ w, (do let d ← resolve a.eval c o.type; invoke d.target d.args).run Try.prog w = .ok (.enter F args) w) (hc : ∀ w, C w → Calls Try.prog F args w fun e w' => e = .returned v ∧ C w') : Qt C o v a := fun w hw => by
  unfold Oper.quietAt execOp
  simp only [h]
  rw [hr w]
  exact ⟨rfl, hc w hw⟩
theorem qcall1 {F : Nat} {x : Operand} {X : Value} {ts : Array TypeId} (h : o.op = .call { callee := .value (.func F), args := #[x], argTypes := ts }) (hx : a.eval x = X) (he : ∀ V, (callFunc F #[X]).run Try.prog V = .ok (.enter F #[X]) V) (hc : ∀ w, C w → Calls Try.prog F #[X] w fun e w' => e = .returned v ∧ C w') : Qt C o v a :=
  qcall h (fun w => by simp [resolve, Deferred.ofValue, invoke, hx, Act.eval_func]; exact he w) hc
theorem qcall2 {F : Nat} {x y : Operand} {X Y : Value} {ts : Array TypeId} (h : o.op = .call { callee := .value (.func F), args := #[x, y], argTypes := ts }) (hx : a.eval x = X) (hy : a.eval y = Y) (he : ∀ V, (callFunc F #[X, Y]).run Try.prog V = .ok (.enter F #[X, Y]) V) (hc : ∀ w, C w → Calls Try.prog F #[X, Y] w fun e w' => e = .returned v ∧ C w') : Qt C o v a :=
  qcall h (fun w => by simp [resolve, Deferred.ofValue, invoke, hx, hy, Act.eval_func]; exact he w) hc
/-- A region that draws nothing, each operation in its turn. -/
theorem wp_plain {id : Nat} {Q : Exit → Act → World → Prop} {w : World} {l : List Oper} (hC : C w) (h : wpQuiet Try.prog l.toArray C (fun a' => ∀ w', C w' → Q .normal a' w') l a) : (Code.region id l.toArray false).wp Try.prog Q a w := by
  refine wp_region ?_
  have key : ∀ (m : List Oper) (k : Nat) (a : Act) (w : World), (∀ j, m[j]? = l[k + j]?) → C w → wpQuiet Try.prog l.toArray C (fun a' => ∀ w', C w' → Q .normal a' w') m a → wpOps Try.prog l.toArray Q (List.range' k m.length) a w := by
    intro m
    induction m with
    | nil => intro k a w _ hw h; exact h w hw
    | cons o m ih =>
      intro k a w hm hw h
      have h0 : l.toArray[k]? = some o := by simpa using (hm 0).symm
      rw [List.length_cons, List.range'_succ]
      unfold wpOps
      simp only [h0]
      unfold wpQuiet at h
      split
      · rename_i hq
        rw [if_pos hq] at h
        exact Or.inl (Oper.wp_of_quiet hw (fun a' w' hw' h' => ih (k + 1) a' w' (fun j => by have := hm (j + 1); simpa [Nat.add_assoc, Nat.add_comm 1 j] using this) hw' h') h)
      · rename_i hq
        rw [if_neg hq] at h
        exact ih (k + 1) _ w (fun j => by have := hm (j + 1); simpa [Nat.add_assoc, Nat.add_comm 1 j] using this) hw h
  have := key l 0 a w (fun j => by simp) hC h
  rw [List.range_eq_range']
  simpa using this
/-- .. the first n operations quiet, the others as they come. -/
theorem wp_plain_tail {id : Nat} {Q : Exit → Act → World → Prop} {w : World} {l : List Oper} (n : Nat) (hn : n ≤ l.length) (hC : C w) (h : wpQuiet Try.prog l.toArray C (fun a' => ∀ w', C w' → wpList Try.prog l.toArray Q (l.drop n) a' w') (l.take n) a) : (Code.region id l.toArray false).wp Try.prog Q a w := by
  refine wp_region ?_
  have key : ∀ (m : List Oper) (k : Nat) (a : Act) (w : World), (∀ j, j < m.length → m[j]? = l[k + j]?) → k + m.length = n → C w → wpQuiet Try.prog l.toArray C (fun a' => ∀ w', C w' → wpList Try.prog l.toArray Q (l.drop n) a' w') m a → wpOps Try.prog l.toArray Q (List.range' k (l.length - k)) a w := by
    intro m
    induction m with
    | nil =>
      intro k a w _ hk hw h
      have : k = n := by simpa using hk
      subst this
      have e := wpOps_eq_wpList (P := Try.prog) (ops := l.toArray) (Q := Q) (l.drop k) k (fun j => by simp)
      rw [List.length_drop] at e
      rw [e]
      exact h w hw
    | cons o m ih =>
      intro k a w hm hk hw h
      simp only [List.length_cons] at hk
      have h0 : l.toArray[k]? = some o := by simpa using (hm 0 (by simp)).symm
      rw [show l.length - k = (l.length - (k + 1)) + 1 by omega, List.range'_succ]
      unfold wpOps
      simp only [h0]
      have hm' : ∀ j, j < m.length → m[j]? = l[k + 1 + j]? := fun j hj => by have := hm (j + 1) (by simp; omega); simpa [Nat.add_assoc, Nat.add_comm 1 j] using this
      unfold wpQuiet at h
      split
      · rename_i hq
        rw [if_pos hq] at h
        exact Or.inl (Oper.wp_of_quiet hw (fun a' w' hw' h' => ih (k + 1) a' w' hm' (by omega) hw' h') h)
      · rename_i hq
        rw [if_neg hq] at h
        exact ih (k + 1) _ w hm' (by omega) hw h
  have htl : (l.take n).length = n := by simp; omega
  have := key (l.take n) 0 a w (fun j hj => by rw [htl] at hj; simp [hj]) (by omega) hC h
  rw [List.range_eq_range']
  simpa using this
end
/-- A port that lies at q of block g, in every world of the class. -/
structure Prd (C : World → Prop) (g q : Nat) (p : Pt) : Prop where
  cell : ∀ (j : Nat) (v : Value), p.cl[j]? = some v → ∀ w, C w → w.cell? ⟨g, q + j, none⟩ = some v
theorem ldb (A : Addr) (x : Bool) (w : World) (h : w.cell? A = some (.bool x)) : (Instr.loadAt 4 (.pointer (some A))).run Try.prog w = .ok (.bool x) w := by go_simp
theorem ldu (A : Addr) (x : Int) (w : World) (h : w.cell? A = some (.int .u8 x)) : (Instr.loadAt 5 (.pointer (some A))).run Try.prog w = .ok (.int .u8 x) w := by go_simp
theorem ldr (A : Addr) (x : Int) (w : World) (h : w.cell? A = some (.int .i64 x)) : (Instr.loadAt 41 (.pointer (some A))).run Try.prog w = .ok (.int .i64 x) w := by go_simp
theorem lds (A : Addr) (x : Int) (w : World) (h : w.cell? A = some (.int .i64 x)) : (Instr.loadAt 51 (.pointer (some A))).run Try.prog w = .ok (.int .i64 x) w := by go_simp
theorem Prd.bit {C : World → Prop} {g q j : Nat} {p : Pt} (r : Prd C g q p) (h : kdP[j]? = some none) : ∀ w, C w → (Instr.loadAt 4 (.pointer (some ⟨g, q + j, none⟩))).run Try.prog w = .ok (.bool (p.bt j)) w := fun w hw => ldb _ _ w (r.cell j _ (p.bit h) w hw)
theorem Prd.u8 {C : World → Prop} {g q j : Nat} {p : Pt} (r : Prd C g q p) (h : kdP[j]? = some (some .u8)) : ∀ w, C w → (Instr.loadAt 5 (.pointer (some ⟨g, q + j, none⟩))).run Try.prog w = .ok (.int .u8 (p.nm j)) w := fun w hw => ldu _ _ w (r.cell j _ (p.num h) w hw)
theorem Prd.role {C : World → Prop} {g q j : Nat} {p : Pt} (r : Prd C g q p) (h : kdP[j]? = some (some .i64)) : ∀ w, C w → (Instr.loadAt 41 (.pointer (some ⟨g, q + j, none⟩))).run Try.prog w = .ok (.int .i64 (p.nm j)) w := fun w hw => ldr _ _ w (r.cell j _ (p.num h) w hw)
theorem Prd.state {C : World → Prop} {g q j : Nat} {p : Pt} (r : Prd C g q p) (h : kdP[j]? = some (some .i64)) : ∀ w, C w → (Instr.loadAt 51 (.pointer (some ⟨g, q + j, none⟩))).run Try.prog w = .ok (.int .i64 (p.nm j)) w := fun w hw => lds _ _ w (r.cell j _ (p.num h) w hw)
theorem Prd.dt {C : World → Prop} {g q d j : Nat} {p : Pt} (r : Prd C g q p) (e : 40 + d = j) (h : kdP[j]? = some (some .u8)) : ∀ w, C w → (Instr.loadAt 5 (.pointer (some ⟨g, q + 40 + d, none⟩))).run Try.prog w = .ok (.int .u8 (p.nm j)) w := fun w hw => by
  rw [Nat.add_assoc, e]
  exact r.u8 h w hw
theorem eg_u8 (op : BinOp) (x y : Operand) (a b : Int) (w : World) : (eqGuard op 5 x y (.int .u8 a) (.int .u8 b)).run Try.prog w = .ok () w := by go_simp
theorem eg_role (op : BinOp) (x y : Operand) (a b : Int) (w : World) : (eqGuard op 41 x y (.int .i64 a) (.int .i64 b)).run Try.prog w = .ok () w := by go_simp
theorem eg_state (op : BinOp) (x y : Operand) (a b : Int) (w : World) : (eqGuard op 51 x y (.int .i64 a) (.int .i64 b)).run Try.prog w = .ok () w := by go_simp
theorem eq_u8 (a b : Int) (w : World) : (binOp .eql 5 (.int .u8 a) (.int .u8 b)).run Try.prog w = .ok (.bool (a == b)) w := by go_simp
theorem ne_u8 (a b : Int) (w : World) : (binOp .neq 5 (.int .u8 a) (.int .u8 b)).run Try.prog w = .ok (.bool (a != b)) w := by go_simp
theorem eq_role (a b : Int) (w : World) : (binOp .eql 41 (.int .i64 a) (.int .i64 b)).run Try.prog w = .ok (.bool (a == b)) w := by go_simp
theorem ne_role (a b : Int) (w : World) : (binOp .neq 41 (.int .i64 a) (.int .i64 b)).run Try.prog w = .ok (.bool (a != b)) w := by go_simp
theorem ne_state (a b : Int) (w : World) : (binOp .neq 51 (.int .i64 a) (.int .i64 b)).run Try.prog w = .ok (.bool (a != b)) w := by go_simp
theorem eq_state (a b : Int) (w : World) : (binOp .eql 51 (.int .i64 a) (.int .i64 b)).run Try.prog w = .ok (.bool (a == b)) w := by go_simp
theorem le_state (a b : Int) (w : World) : (binOp .leq 51 (.int .i64 a) (.int .i64 b)).run Try.prog w = .ok (.bool (decide (a ≤ b))) w := by go_simp
theorem lt_state (a b : Int) (w : World) : (binOp .lss 51 (.int .i64 a) (.int .i64 b)).run Try.prog w = .ok (.bool (decide (a < b))) w := by go_simp
theorem gt_state (a b : Int) (w : World) : (binOp .gtr 51 (.int .i64 a) (.int .i64 b)).run Try.prog w = .ok (.bool (decide (b < a))) w := by go_simp
theorem fp3 : FAt 53 3 3 := fun b q w => by go_simp
theorem fp4 : FAt 53 4 4 := fun b q w => by go_simp
theorem fp5 : FAt 53 5 5 := fun b q w => by go_simp
theorem fp7 : FAt 53 7 7 := fun b q w => by go_simp
theorem fp8 : FAt 53 8 8 := fun b q w => by go_simp
theorem fp9 : FAt 53 9 9 := fun b q w => by go_simp
theorem fp10 : FAt 53 10 10 := fun b q w => by go_simp
theorem fp11 : FAt 53 11 11 := fun b q w => by go_simp
theorem fp12 : FAt 53 12 12 := fun b q w => by go_simp
theorem fp13 : FAt 53 13 13 := fun b q w => by go_simp
theorem fp20 : FAt 53 20 20 := fun b q w => by go_simp
theorem fp22 : FAt 53 22 22 := fun b q w => by go_simp
theorem fp23 : FAt 53 23 23 := fun b q w => by go_simp
theorem fp24 : FAt 53 24 24 := fun b q w => by go_simp
theorem fp25 : FAt 53 25 25 := fun b q w => by go_simp
theorem fp28 : FAt 53 28 28 := fun b q w => by go_simp
theorem fp30 : FAt 53 30 30 := fun b q w => by go_simp
theorem fp31 : FAt 53 31 31 := fun b q w => by go_simp
theorem fp34 : FAt 53 34 40 := fun b q w => by go_simp
theorem fp38 : FAt 53 38 65 := fun b q w => by go_simp
theorem fp41 : FAt 53 41 68 := fun b q w => by go_simp
theorem fp43 : FAt 53 43 70 := fun b q w => by go_simp
theorem fp46 : FAt 53 46 73 := fun b q w => by go_simp
theorem ft1 : FAt 24 1 1 := fun b q w => by go_simp
theorem ft2 : FAt 24 2 2 := fun b q w => by go_simp
theorem ft3 : FAt 24 3 3 := fun b q w => by go_simp
end Go.Proofs.Ytllmadgonobdnaa
