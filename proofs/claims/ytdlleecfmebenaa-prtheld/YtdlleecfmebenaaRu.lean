/-
  Rules in memory: slices of them, built, appended, loaded. Plain laws over the program's types.
-/
import Derived.Test.YtdlleecfmebenaaCg
namespace Go.Proofs.Ytdlleecfmebenaa
set_option linter.unusedVariables false
set_option maxRecDepth 4000
set_option linter.unusedSimpArgs false
open Go.RowKit

/-- A deed of the port that is being changed, as a value. -/
def dv (b F : Nat) : Value := .func (.func F) #[.pointer (some ⟨b, 0, none⟩)] #[]
/-- A rule's cells, and many rules'. -/
def rc (b : Nat) (x : Bool × Nat) : List Value := [.bool x.1, dv b x.2]
def rcs (b : Nat) (rs : List (Bool × Nat)) : List Value := rs.flatMap (rc b)
theorem rcs_len (b : Nat) (rs : List (Bool × Nat)) : (rcs b rs).length = rs.length * 2 := by
  induction rs with
  | nil => rfl
  | cons x r ih => rw [rcs, List.flatMap_cons, List.length_append, ← rcs, ih, List.length_cons]; simp [rc]; omega
theorem rcs_one (b : Nat) (rs : List (Bool × Nat)) : ∀ v ∈ rcs b rs, v.oneCell' = true := by
  intro v hv
  obtain ⟨x, _, hx⟩ := List.mem_flatMap.1 hv
  simp only [rc, List.mem_cons, List.not_mem_nil, or_false] at hx
  rcases hx with rfl | rfl <;> rfl
theorem rcs_at {b i : Nat} {rs : List (Bool × Nat)} {x : Bool × Nat} (h : rs[i]? = some x) : (rcs b rs)[i * 2]? = some (.bool x.1) ∧ (rcs b rs)[i * 2 + 1]? = some (dv b x.2) := by
  induction rs generalizing i with
  | nil => simp at h
  | cons y r ih =>
    rw [rcs, List.flatMap_cons]
    cases i with
    | zero =>
      simp only [List.getElem?_cons_zero, Option.some.injEq] at h
      subst h
      exact ⟨rfl, rfl⟩
    | succ i =>
      rw [List.getElem?_cons_succ] at h
      obtain ⟨h1, h2⟩ := ih h
      have e : (rc b y).length = 2 := rfl
      rw [List.getElem?_append_right (by rw [e]; omega), List.getElem?_append_right (by rw [e]; omega), e, show (i + 1) * 2 - 2 = i * 2 by omega, show (i + 1) * 2 + 1 - 2 = i * 2 + 1 by omega]
      exact ⟨h1, h2⟩
theorem rcs_app (b : Nat) (r s : List (Bool × Nat)) : rcs b (r ++ s) = rcs b r ++ rcs b s := List.flatMap_append
/-- A slice of the call's own that holds these rules. -/
def OwnR (W : World) (B : Nat) (v : Value) (b : Nat) (rs : List (Bool × Nat)) : Prop := W.ownsRow B 54 2 v rs.length (rcs b rs)
theorem OwnR.nil (W : World) (B b : Nat) : OwnR W B (.slice none 0 0) b [] := World.ownsRow_nil W B _ _
theorem OwnR.keptBut {W W' : World} {B b : Nat} {v : Value} {rs : List (Bool × Nat)} {row : Option Nat} (h : OwnR W B v b rs) (hg : W.grownBy W' row) (hne : v.ownBlock = none ∨ v.ownBlock ≠ row) : OwnR W' B v b rs := World.ownsRow.kept h hg hne
theorem OwnR.below {W W' : World} {B b : Nat} {v : Value} {rs : List (Bool × Nat)} (h : OwnR W B v b rs) (hb : Below W.heap.size W W') : OwnR W' B v b rs := by
  refine h.keptBut (grown_of_below hb none) ?_
  cases v.ownBlock <;> simp
/-- A slice that leads to these rules. -/
structure RsAt (W : World) (a : Option Addr) (n c b : Nat) (rs : List (Bool × Nat)) : Prop where
  len : rs.length = n
  cap : n ≤ c
  max : c ≤ maxLen
  nil : a = none → n = 0 ∧ c = 0
  form : ∀ x, a = some x → ∃ g, x = ⟨g, 0, none⟩
  cells : ∀ g, a = some ⟨g, 0, none⟩ → ∀ j u, (rcs b rs)[j]? = some u → W.cell? ⟨g, j, none⟩ = some u
theorem RsAt.below {W W' : World} {a : Option Addr} {n c b : Nat} {rs : List (Bool × Nat)} (h : RsAt W a n c b rs) (hb : Below W.heap.size W W') : RsAt W' a n c b rs :=
  ⟨h.len, h.cap, h.max, h.nil, h.form, fun g e j u hj => (hb.cell (World.block_lt_of_cell? W _ (h.cells g e j u hj))).trans (h.cells g e j u hj)⟩
theorem OwnR.form {W : World} {B b : Nat} {v : Value} {rs : List (Bool × Nat)} (h : OwnR W B v b rs) : ∃ a c, v = .slice a rs.length c ∧ RsAt W a rs.length c b rs ∧ ∀ x, a = some x → B ≤ x.block ∧ x.block < W.heap.size := by
  rcases h.2 with ⟨rfl, h0⟩ | ⟨g, cap, cur, rfl, hB, hb, h1, h2, h3, h4⟩
  · have : rs = [] := List.eq_nil_of_length_eq_zero h0
    subst this
    exact ⟨none, 0, rfl, ⟨rfl, Nat.le_refl _, by simp, fun _ => ⟨rfl, rfl⟩, (fun x e => by cases e), (fun g e => by cases e)⟩, fun x e => by cases e⟩
  · refine ⟨some ⟨g, 0, none⟩, cap, rfl, ⟨rfl, h1, h2, (fun e => by cases e), (fun x e => ⟨g, by cases e; rfl⟩), fun g' e j u hj => ?_⟩, fun x e => ?_⟩
    · cases e
      refine cell_at hb j u ?_
      rw [← h4, List.getElem?_take] at hj
      split at hj
      · rw [← Array.getElem?_toList]; exact hj
      · cases hj
    · cases e
      exact ⟨hB, lt_of_block hb⟩
theorem OwnR.base {W : World} {B B' b : Nat} {v : Value} {rs : List (Bool × Nat)} (h : OwnR W B v b rs) (hb : B' ≤ B) : OwnR W B' v b rs := by
  refine ⟨h.1, ?_⟩
  rcases h.2 with h0 | ⟨g, cap, cur, e, hB, hr⟩
  · exact Or.inl h0
  · exact Or.inr ⟨g, cap, cur, e, by omega, hr⟩
/-- New rules. -/
theorem OwnR.new (W : World) (b : Nat) (rs : List (Bool × Nat)) (hl : rs.length ≤ 1000) : OwnR (W.alloc (.cells (rcs b rs).toArray 54)) W.heap.size (.slice (some ⟨W.heap.size, 0, none⟩) rs.length rs.length) b rs :=
  ⟨rcs_len b rs, Or.inr ⟨W.heap.size, rs.length, _, rfl, Nat.le_refl _, alloc_at W _, Nat.le_refl _, by unfold maxLen; omega, by simp [rcs_len], by rw [← rcs_len b rs]; simp⟩⟩
theorem infoR3 : (Try.prog.info? 54).map (fun i => (i.zero, i.size, i.bytes)) = some (some (.agg #[.bool false, .nilFunc]), 2, 16) := by kernel_rfl
/-- append, at rules. -/
def apR (ty : TypeId) (xs : Array Value) : Sem Value := Builtin.append_ #[51, 51] ty xs
theorem apRE (ty : TypeId) (xs : Array Value) : Builtin.append_ #[51, 51] ty xs = apR ty xs := rfl
theorem OwnR.app {W : World} {B b : Nat} {v : Value} {rs ss : List (Bool × Nat)} {a : Option Addr} {n c : Nat} (h : OwnR W B v b rs) (hs : RsAt W a n c b ss) (hl : rs.length + ss.length ≤ 1000) (hB : B ≤ W.heap.size) (ty : TypeId) :
    ∃ v' W', (apR ty #[v, .slice a n c]).run Try.prog W = .ok v' W' ∧ OwnR W' B v' b (rs ++ ss) ∧ W.grownBy W' v.ownBlock := by
  obtain ⟨i0, hi, hz0, hz1, hz2⟩ := info_parts infoR3
  unfold apR
  cases a with
  | none =>
    obtain ⟨rfl, rfl⟩ := hs.nil rfl
    have hm : ss = [] := List.eq_nil_of_length_eq_zero hs.len
    subst hm
    have hrun := run_append_owned_none (P := Try.prog) (w := W) B 51 ty 54 i0 2 Try.underlying51 hi v rs.length _ h
    exact ⟨v, W, hrun, by rw [List.append_nil]; exact h, World.grownBy.refl _ _⟩
  | some x =>
    obtain ⟨g, rfl⟩ := hs.form x rfl
    obtain ⟨v', W', hrun, h1, h2, _⟩ := run_append_own (P := Try.prog) W B 51 ty 54 i0 _ 2 16 Try.underlying51 hi hz0 hz1 hz2 rfl (by decide) v rs.length _ h ⟨g, 0, none⟩ n c (rcs b ss) (by rw [rcs_len, hs.len])
      (fun j u hj => by rw [Addr.add_lit, Nat.zero_add]; exact hs.cells g rfl j u hj) (rcs_one b ss) (by have := hs.len; unfold maxLen; omega) (by have := hs.len; omega) hB
    refine ⟨v', W', hrun, ?_, h2⟩
    unfold OwnR
    rw [rcs_app, List.length_append, hs.len]
    exact h1
/-- A rule, loaded. -/
def rcC (b : Nat) (x : Bool × Nat) : Array Value := #[.bool x.1, dv b x.2]
theorem infoRu : (Try.prog.info? 54).map (·.size) = some 2 := by kernel_rfl
theorem rtRu : RowTy 54 2 := ⟨infoRu, _, Try.underlying54, rfl⟩
theorem ldRu (x : Value) : Instr.loadAt 54 x = ldS 54 x := rfl
theorem stRu (x y : Value) : Instr.storeAt 54 x y = stS 54 x y := rfl
theorem RsAt.ld {W : World} {g n c b i : Nat} {rs : List (Bool × Nat)} {x : Bool × Nat} (h : RsAt W (some ⟨g, 0, none⟩) n c b rs) (hi : rs[i]? = some x) : (ldS 54 (.pointer (some ⟨g, i * 2, none⟩))).run Try.prog W = .ok (.agg (rcC b x)) W := by
  obtain ⟨h1, h2⟩ := rcs_at (b := b) hi
  refine run_loadAt_mid W g (i * 2) 54 (rcC b x).toList _ (fun j v hv => h.cells g rfl _ _ ?_) Try.underlying54 rfl infoRu
  match j, hv with
  | 0, hv => cases hv; exact h1
  | 1, hv => cases hv; exact h2
  | j + 2, hv => simp [rcC] at hv
theorem rcC_one (b : Nat) (x : Bool × Nat) : ∀ v ∈ (rcC b x).toList, v.oneCell' = true := by
  intro v hv
  simp only [rcC, List.mem_cons, List.not_mem_nil, or_false] at hv
  rcases hv with rfl | rfl <;> rfl
/-- A slice's literal, at rules. -/
def bsR (n : Nat) (ps : Array (Nat × Value)) : Sem Value := Instr.buildSlice 51 n ps
theorem bsRE (n : Nat) (ps : Array (Nat × Value)) : Instr.buildSlice 51 n ps = bsR n ps := rfl
theorem bsR1 (b : Nat) (x1 : Bool) (f1 : Nat) (w : World) : (bsR 1 #[(0, .agg #[.bool x1, .func (.func f1) #[.pointer (some ⟨b, 0, none⟩)] #[]])]).run Try.prog w = .ok (.slice (some ⟨w.heap.size, 0, none⟩) 1 1) (w.alloc (.cells (rcs b [(x1, f1)]).toArray 54)) := by kernel_rfl
theorem bsR2 (b : Nat) (x1 x2 : Bool) (f1 f2 : Nat) (w : World) : (bsR 2 #[(0, .agg #[.bool x1, .func (.func f1) #[.pointer (some ⟨b, 0, none⟩)] #[]]), (1, .agg #[.bool x2, .func (.func f2) #[.pointer (some ⟨b, 0, none⟩)] #[]])]).run Try.prog w = .ok (.slice (some ⟨w.heap.size, 0, none⟩) 2 2) (w.alloc (.cells (rcs b [(x1, f1), (x2, f2)]).toArray 54)) := by kernel_rfl
theorem bsR5 (b : Nat) (x1 x2 x3 x4 x5 : Bool) (f1 f2 f3 f4 f5 : Nat) (w : World) : (bsR 5 #[(0, .agg #[.bool x1, .func (.func f1) #[.pointer (some ⟨b, 0, none⟩)] #[]]), (1, .agg #[.bool x2, .func (.func f2) #[.pointer (some ⟨b, 0, none⟩)] #[]]), (2, .agg #[.bool x3, .func (.func f3) #[.pointer (some ⟨b, 0, none⟩)] #[]]), (3, .agg #[.bool x4, .func (.func f4) #[.pointer (some ⟨b, 0, none⟩)] #[]]), (4, .agg #[.bool x5, .func (.func f5) #[.pointer (some ⟨b, 0, none⟩)] #[]])]).run Try.prog w = .ok (.slice (some ⟨w.heap.size, 0, none⟩) 5 5) (w.alloc (.cells (rcs b [(x1, f1), (x2, f2), (x3, f3), (x4, f4), (x5, f5)]).toArray 54)) := by kernel_rfl
theorem bsR6 (b : Nat) (x1 x2 x3 x4 x5 x6 : Bool) (f1 f2 f3 f4 f5 f6 : Nat) (w : World) : (bsR 6 #[(0, .agg #[.bool x1, .func (.func f1) #[.pointer (some ⟨b, 0, none⟩)] #[]]), (1, .agg #[.bool x2, .func (.func f2) #[.pointer (some ⟨b, 0, none⟩)] #[]]), (2, .agg #[.bool x3, .func (.func f3) #[.pointer (some ⟨b, 0, none⟩)] #[]]), (3, .agg #[.bool x4, .func (.func f4) #[.pointer (some ⟨b, 0, none⟩)] #[]]), (4, .agg #[.bool x5, .func (.func f5) #[.pointer (some ⟨b, 0, none⟩)] #[]]), (5, .agg #[.bool x6, .func (.func f6) #[.pointer (some ⟨b, 0, none⟩)] #[]])]).run Try.prog w = .ok (.slice (some ⟨w.heap.size, 0, none⟩) 6 6) (w.alloc (.cells (rcs b [(x1, f1), (x2, f2), (x3, f3), (x4, f4), (x5, f5), (x6, f6)]).toArray 54)) := by kernel_rfl
/-- append in a region: what it yields. -/
theorem run_apR {o : Oper} {a : Act} {x y : Operand} {X Y v : Value} {w w' : World} (h : o.op = .call { callee := .builtin .append, args := #[x, y], argTypes := #[51, 51] }) (ht : o.type = 51) (hx : a.eval x = X) (hy : a.eval y = Y) (hr : (apR 51 #[X, Y]).run Try.prog w = .ok v w') : (execOp a.eval o).run Try.prog w = .ok (.value v) w' := by
  unfold execOp
  simp only [h, ht]
  simp only [resolve, invoke, builtin, List.map_toArray, List.map_cons, List.map_nil, hx, hy, apRE, Sem.run_bind, Sem.run_pure, Result.andThen_ok, hr]
theorem run_bsR {o : Oper} {a : Act} {n : Nat} {ps : Array (Nat × Operand)} {qs : Array (Nat × Value)} {v : Value} {w w' : World} (h : o.op = .buildSlice 51 n ps) (hq : (ps.map fun (i, x) => (i, a.eval x)) = qs) (hr : (bsR n qs).run Try.prog w = .ok v w') : (execOp a.eval o).run Try.prog w = .ok (.value v) w' := by
  unfold execOp
  simp only [h]
  rw [hq, Sem.run_bind, bsRE, hr]
  rfl
theorem run_enter2 {o : Oper} {a : Act} {F : Nat} {x y : Operand} {X Y : Value} {ts : Array TypeId} {w : World} (h : o.op = .call { callee := .value (.func F), args := #[x, y], argTypes := ts }) (hx : a.eval x = X) (hy : a.eval y = Y) (he : ∀ V, (callFunc F #[X, Y]).run Try.prog V = .ok (.enter F #[X, Y]) V) : (execOp a.eval o).run Try.prog w = .ok (.enter F #[X, Y]) w := by
  unfold execOp
  simp only [h]
  simp [resolve, Deferred.ofValue, invoke, hx, hy, Act.eval_func]
  exact he w
end Go.Proofs.Ytdlleecfmebenaa
