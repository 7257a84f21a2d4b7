/-
  Slices of rows of any kind: what they lead to, what is loaded from them, appended to them, stored into them. Plain laws over the program's types.
-/
import Derived.Test.YtammaaiknjgjbaaRow
namespace Go.Proofs.Ytammaaiknjgjbaa
set_option linter.unusedVariables false
set_option maxRecDepth 4000
set_option linter.unusedSimpArgs false
open Go.RowKit

theorem grown_of_below {W W' : World} (h : Below W.heap.size W W') (row : Option Nat) : W.grownBy W' row := ⟨h.os, h.tape, h.output, h.size, fun i hi _ => h.block i hi⟩
theorem below_of_grown {W W' : World} {row : Option Nat} (h : W.grownBy W' row) {B : Nat} (hB : B ≤ W.heap.size) (hr : ∀ j, row = some j → B ≤ j) : Below B W W' :=
  ⟨h.os, h.tape, h.output, h.size, fun i hi => h.block i (by omega) (fun e => by have := hr i e.symm; omega)⟩
theorem gro {W W' : World} {b B : Nat} {w : World} (h : Below B w W) (k : W.grownBy W' (some b)) (hb : B ≤ b) (hB : B ≤ W.heap.size) : Below B w W' := h.trans (below_of_grown k hB (fun j e => by cases e; exact hb))
theorem grown_self {W W' V : World} {row : Option Nat} (h : W.grownBy W' row) (k : W'.grownBy V row) : W.grownBy V row :=
  ⟨k.os.trans h.os, k.tape.trans h.tape, k.output.trans h.output, Nat.le_trans h.size k.size, fun i hi hne => (k.block i (Nat.lt_of_lt_of_le hi h.size) hne).trans (h.block i hi hne)⟩
theorem RvAt.keptBut {W W' : World} {b : Nat} {ty : TypeId} {cs : Array Value} {row : Option Nat} (h : RvAt W b ty cs) (hg : W.grownBy W' row) (hn : some b ≠ row) : RvAt W' b ty cs := (hg.block b h.lt hn).trans h
theorem grown_row (W : World) (b : Nat) (cs : Array Value) : W.grownBy (W.setRow b cs) (some b) := ⟨rfl, rfl, rfl, by simp, fun i hi hne => setRow_other W b i _ (fun e => hne (by rw [e]))⟩
/-- One cell of a block, stored. -/
theorem RvAt.st1 {W : World} {b k : Nat} {ty tv : TypeId} {cs : Array Value} {v : Value} (h : RvAt W b ty cs) (hi : (Try.prog.info? tv).map (·.size) = some 1) (hk : k < cs.size) (hv : v.oneCell' = true) :
    (stS tv (.pointer (some ⟨b, k, none⟩)) v).run Try.prog W = .ok () (W.setRow b (cs.toList.set k v).toArray) := by
  have hs := run_storeCells_at Try.prog b k ty [v] 0 cs W h (by simp; omega) (by simpa using hv)
  have hi' : ∃ i, Try.prog.info? tv = some i ∧ i.size = 1 := by
    cases hq : Try.prog.info? tv with
    | none => rw [hq] at hi; cases hi
    | some i => rw [hq] at hi; exact ⟨i, rfl, by simpa using hi⟩
  obtain ⟨i, hi1, hi2⟩ := hi'
  have e : cs.toList.take k ++ [v] ++ cs.toList.drop (k + 1) = cs.toList.set k v := by
    rw [List.set_eq_take_append_cons_drop, if_pos (by simpa using hk)]
    simp
  have hc : v.cells = #[v] := by cases v <;> first | rfl | (cases hv; done)
  simp only [Nat.add_zero, List.length_singleton] at hs
  rw [e] at hs
  unfold stS
  simp [Instr.storeAt, Instr.sureAddr, storeVar, sizeOf, typeInfo, hi1, hi2, hc, hs]
/-- A kind of elements: their cells, their type, the slice's type. -/
structure El (α : Type) where
  f : α → Array Value
  ty : TypeId
  st : TypeId
  K : Nat
  B : Nat
structure El.Ok {α : Type} (e : El α) : Prop where
  size : ∀ x, (e.f x).size = e.K
  pos : 0 < e.K
  one : ∀ x, ∀ v ∈ (e.f x).toList, v.oneCell' = true
  slc : Try.prog.underlying e.st = some (.slice e.ty)
  info : ∃ z, (Try.prog.info? e.ty).map (fun i => (i.zero, i.size, i.bytes)) = some (some z, e.K, e.B) ∧ z.cells.size = e.K
  byt : e.B ≤ 1000
def El.fl {α : Type} (e : El α) (l : List α) : List Value := l.flatMap fun x => (e.f x).toList
section
variable {α : Type} {e : El α}
theorem El.Ok.len (k : e.Ok) (x : α) : (e.f x).toList.length = e.K := by rw [Array.length_toList, k.size]
theorem El.fl_get (k : e.Ok) : ∀ (l : List α) (t : Nat), (e.fl l)[t]? = (l[t / e.K]?).bind (fun x => (e.f x).toList[t % e.K]?)
  | [], t => by simp [El.fl]
  | x :: r, t => by
    have hp := k.pos
    unfold El.fl
    rw [List.flatMap_cons]
    by_cases h : t < e.K
    · rw [List.getElem?_append_left (by rw [k.len]; exact h), Nat.div_eq_of_lt h, Nat.mod_eq_of_lt h]
      rfl
    · have ih := El.fl_get k r (t - e.K)
      unfold El.fl at ih
      rw [List.getElem?_append_right (by rw [k.len]; omega), k.len, ih]
      have h1 : t / e.K = (t - e.K) / e.K + 1 := by
        rw [← Nat.add_div_right _ hp, Nat.sub_add_cancel (by omega)]
      have h2 : (t - e.K) % e.K = t % e.K := by
        rw [← Nat.add_mod_right, Nat.sub_add_cancel (by omega)]
      rw [h1, h2, List.getElem?_cons_succ]
theorem El.fl_len (k : e.Ok) (l : List α) : (e.fl l).length = l.length * e.K := by
  induction l with
  | nil => simp [El.fl]
  | cons x r ih =>
    unfold El.fl at ih ⊢
    rw [List.flatMap_cons, List.length_append, ih, k.len, List.length_cons, Nat.add_mul, Nat.one_mul, Nat.add_comm]
theorem El.fl_one (k : e.Ok) (l : List α) : ∀ v ∈ e.fl l, v.oneCell' = true := by
  intro v hv
  obtain ⟨x, _, hx⟩ := List.mem_flatMap.1 hv
  exact k.one x v hx
theorem El.fl_app (l m : List α) : e.fl (l ++ m) = e.fl l ++ e.fl m := by simp [El.fl]
theorem El.fl_at (k : e.Ok) {l : List α} {i j : Nat} {x : α} {v : Value} (hx : l[i]? = some x) (hv : (e.f x)[j]? = some v) : (e.fl l)[i * e.K + j]? = some v := by
  have hp := k.pos
  have hj : j < e.K := by rw [← k.size x]; exact (Array.getElem?_eq_some_iff.1 hv).1
  have d1 : (i * e.K + j) / e.K = i := by rw [Nat.mul_comm, Nat.mul_add_div hp, Nat.div_eq_of_lt hj, Nat.add_zero]
  have d2 : (i * e.K + j) % e.K = j := by rw [Nat.mul_comm, Nat.mul_add_mod, Nat.mod_eq_of_lt hj]
  rw [El.fl_get k, d1, d2, hx]
  simpa using hv
/-- The slice leads to l. -/
structure SlAt (e : El α) (W : World) (a : Option Addr) (n c : Nat) (l : List α) : Prop where
  len : l.length = n
  cap : n ≤ c
  max : c ≤ maxLen
  nil : a = none → n = 0 ∧ c = 0
  cells : ∀ x, a = some x → 0 < n → ∃ b o, x = ⟨b, o, none⟩ ∧ ∀ j u, (e.fl l)[j]? = some u → W.cell? ⟨b, o + j, none⟩ = some u
variable {W W' : World} {a : Option Addr} {n c : Nat} {l : List α}
theorem SlAt.below (h : SlAt e W a n c l) (hb : Below W.heap.size W W') : SlAt e W' a n c l := by
  refine ⟨h.len, h.cap, h.max, h.nil, fun x hx h0 => ?_⟩
  obtain ⟨b, o, e, hc⟩ := h.cells x hx h0
  exact ⟨b, o, e, fun j u hj => (hb.cell (World.block_lt_of_cell? W _ (hc j u hj))).trans (hc j u hj)⟩
theorem SlAt.keptBut {row : Option Nat} (h : SlAt e W a n c l) (hg : W.grownBy W' row) (hn : ∀ x, a = some x → 0 < n → some x.block ≠ row) : SlAt e W' a n c l := by
  refine ⟨h.len, h.cap, h.max, h.nil, fun x hx h0 => ?_⟩
  obtain ⟨b, o, e, hc⟩ := h.cells x hx h0
  refine ⟨b, o, e, fun j u hj => ?_⟩
  subst e
  exact hg.cell (hc j u hj) (hn ⟨b, o, none⟩ hx h0)
theorem SlAt.none' (W : World) : SlAt e W none 0 0 [] := ⟨rfl, Nat.le_refl _, by simp, fun _ => ⟨rfl, rfl⟩, fun x h => by cases h⟩
theorem SlAt.some' (h : SlAt e W a n c l) (hn : 0 < n) : ∃ b o, a = some ⟨b, o, none⟩ := by
  cases a with
  | none => have := (h.nil rfl).1; omega
  | some x =>
    obtain ⟨b, o, e, _⟩ := h.cells x rfl hn
    exact ⟨b, o, by rw [e]⟩
theorem SlAt.lt (k : e.Ok) {b o : Nat} (h : SlAt e W (some ⟨b, o, none⟩) n c l) (hn : 0 < n) : b < W.heap.size := by
  obtain ⟨b', o', e', hc⟩ := h.cells _ rfl hn
  cases e'
  have hl : 0 < l.length := by rw [h.len]; exact hn
  obtain ⟨x, hx⟩ : ∃ x, l[0]? = some x := ⟨_, List.getElem?_eq_getElem hl⟩
  have hs : 0 < (e.f x).size := by rw [k.size]; exact k.pos
  have := hc (0 * e.K + 0) _ (El.fl_at k hx (Array.getElem?_eq_getElem hs))
  exact World.block_lt_of_cell? W _ this
theorem SlAt.int (h : SlAt e W a n c l) : (n : Int) ≤ 9223372036854775807 := by have := h.cap; have := h.max; unfold maxLen at this; omega
theorem SlAt.cell (k : e.Ok) {b o : Nat} (h : SlAt e W (some ⟨b, o, none⟩) n c l) {i j q : Nat} {x : α} {v : Value} (hx : l[i]? = some x) (hv : (e.f x)[j]? = some v) (hq : q = o + (i * e.K + j)) : W.cell? ⟨b, q, none⟩ = some v := by
  obtain ⟨b', o', e', hc⟩ := h.cells _ rfl (by rw [← h.len]; exact Nat.lt_of_le_of_lt (Nat.zero_le _) (List.getElem?_eq_some_iff.1 hx).1)
  cases e'
  rw [hq]
  exact hc _ _ (El.fl_at k hx hv)
theorem SlAt.part (k : e.Ok) {b o : Nat} (h : SlAt e W (some ⟨b, o, none⟩) n c l) {i j q : Nat} {x : α} {t : TypeId} {cs : Array Value} (hx : l[i]? = some x) (hv : ∀ r v, cs[r]? = some v → (e.f x)[j + r]? = some v) {d : TypeDesc} (hu : Try.prog.underlying t = some d) (hr : d.isRow = true) (hi : (Try.prog.info? t).map (·.size) = some cs.size) (hq : q = o + (i * e.K + j)) : (ldS t (.pointer (some ⟨b, q, none⟩))).run Try.prog W = .ok (.agg cs) W :=
  run_loadAt_mid W b q t cs.toList _ (fun r v hv' => h.cell k hx (hv r v (by simpa using hv')) (by rw [hq]; omega)) hu hr (by rw [Array.length_toList]; exact hi)
theorem SlAt.ld (k : e.Ok) {b o : Nat} (h : SlAt e W (some ⟨b, o, none⟩) n c l) {i q : Nat} {x : α} (hx : l[i]? = some x) {d : TypeDesc} (hu : Try.prog.underlying e.ty = some d) (hr : d.isRow = true) (hq : q = o + i * e.K) : (ldS e.ty (.pointer (some ⟨b, q, none⟩))).run Try.prog W = .ok (.agg (e.f x)) W := by
  obtain ⟨z, hz, _⟩ := k.info
  obtain ⟨i0, hi, hz0, hz1, hz2⟩ := info_parts hz
  exact h.part k (j := 0) hx (fun r v h => by rw [Nat.zero_add]; exact h) hu hr (by rw [hi, k.size]; simp [hz1]) hq
/-- A slice of the call's own that holds l. -/
def Own (e : El α) (W : World) (B : Nat) (v : Value) (l : List α) : Prop := W.ownsRow B e.ty e.K v l.length (e.fl l)
variable {B : Nat} {v : Value}
theorem Own.form (h : Own e W B v l) : ∃ a c, v = .slice a l.length c ∧ SlAt e W a l.length c l ∧ ∀ x, a = some x → B ≤ x.block ∧ x.block < W.heap.size := by
  rcases h.2 with ⟨rfl, h0⟩ | ⟨g, cap, cur, rfl, hB, hb, h1, h2, h3, h4⟩
  · have : l = [] := List.eq_nil_of_length_eq_zero h0
    subst this
    exact ⟨none, 0, rfl, SlAt.none' W, fun x e => by cases e⟩
  · refine ⟨some ⟨g, 0, none⟩, cap, rfl, ⟨rfl, h1, h2, (fun e => by cases e), fun x e _ => ?_⟩, fun x e => ?_⟩
    · cases e
      refine ⟨g, 0, rfl, fun j u hj => ?_⟩
      rw [Nat.zero_add]
      refine cell_at hb j u ?_
      rw [← h4, List.getElem?_take] at hj
      split at hj
      · rw [← Array.getElem?_toList]; exact hj
      · cases hj
    · cases e
      exact ⟨hB, lt_of_block hb⟩
theorem Own.nil (W : World) (B : Nat) : Own e W B (.slice none 0 0) [] := World.ownsRow_nil W B _ _
theorem Own.keptBut {row : Option Nat} (h : Own e W B v l) (hg : W.grownBy W' row) (hne : v.ownBlock = none ∨ v.ownBlock ≠ row) : Own e W' B v l := World.ownsRow.kept h hg hne
theorem Own.below (h : Own e W B v l) (hb : Below W.heap.size W W') : Own e W' B v l := by
  refine h.keptBut (grown_of_below hb none) ?_
  cases v.ownBlock <;> simp
theorem Own.blk (h : Own e W B v l) : ∀ k, v.ownBlock = some k → B ≤ k ∧ k < W.heap.size := World.ownsRow.lt h
/-- append, sealed. -/
def apS (st ty : TypeId) (xs : Array Value) : Sem Value := Builtin.append_ #[st, st] ty xs
/-- Rows appended to a slice of the call's own. -/
theorem Own.app (k : e.Ok) {m : List α} (h : Own e W B v l) (hs : SlAt e W a n c m) (hl : l.length + m.length ≤ 100000) (hB : B ≤ W.heap.size) (ty : TypeId) :
    ∃ v' W', (apS e.st ty #[v, .slice a n c]).run Try.prog W = .ok v' W' ∧ Own e W' B v' (l ++ m) ∧ W.grownBy W' v.ownBlock := by
  obtain ⟨z, hz, hzs⟩ := k.info
  obtain ⟨i0, hi, hz0, hz1, hz2⟩ := info_parts hz
  have hby := k.byt
  unfold apS
  cases a with
  | none =>
    obtain ⟨rfl, rfl⟩ := hs.nil rfl
    have hm : m = [] := List.eq_nil_of_length_eq_zero hs.len
    subst hm
    have hrun := run_append_owned_none (P := Try.prog) (w := W) B e.st ty e.ty i0 e.K k.slc hi v l.length _ h
    exact ⟨v, W, hrun, by rw [List.append_nil]; exact h, World.grownBy.refl _ _⟩
  | some x =>
    by_cases hn0 : n = 0
    · subst hn0
      have hm : m = [] := List.eq_nil_of_length_eq_zero hs.len
      subst hm
      obtain ⟨v', W', hrun, h1, h2, _⟩ := run_append_own (P := Try.prog) W B e.st ty e.ty i0 z e.K e.B k.slc hi hz0 hz1 hz2 hzs k.pos v l.length _ h x 0 c [] (by simp)
        (fun j u hj => by cases hj) (fun u hu => by cases hu) (by unfold maxLen; omega) (by
          have : (l.length + 0) * e.B ≤ 100000 * 1000 := Nat.mul_le_mul (by omega) hby
          omega) hB
      refine ⟨v', W', hrun, ?_, h2⟩
      unfold Own
      rw [List.append_nil] at h1 ⊢
      exact h1
    obtain ⟨b, o, rfl, hc⟩ := hs.cells x rfl (by omega)
    obtain ⟨v', W', hrun, h1, h2, _⟩ := run_append_own (P := Try.prog) W B e.st ty e.ty i0 z e.K e.B k.slc hi hz0 hz1 hz2 hzs k.pos v l.length _ h ⟨b, o, none⟩ n c (e.fl m) (by rw [El.fl_len k, hs.len])
      (fun j u hj => by rw [Addr.add_lit]; exact hc j u hj) (El.fl_one k m) (by have := hs.len; unfold maxLen; omega) (by
        have := hs.len
        have : (l.length + n) * e.B ≤ 100000 * 1000 := Nat.mul_le_mul (by omega) hby
        omega) hB
    refine ⟨v', W', hrun, ?_, h2⟩
    unfold Own
    rw [El.fl_app, List.length_append, hs.len]
    exact h1
/-- A row alone in a new block. -/
theorem one_new (W : World) (x : α) (k : e.Ok) : SlAt e (W.alloc (.cells (e.f x) e.ty)) (some ⟨W.heap.size, 0, none⟩) 1 1 [x] := by
  refine ⟨rfl, Nat.le_refl _, by unfold maxLen; omega, (fun e => by cases e), fun y e' _ => ?_⟩
  cases e'
  refine ⟨_, _, rfl, fun j u hj => ?_⟩
  rw [Nat.zero_add]
  refine RvAt.cell (RvAt.new W e.ty (e.f x)) j u ?_
  have : e.fl [x] = (e.f x).toList := by simp [El.fl]
  rw [this] at hj
  rw [← Array.getElem?_toList]
  exact hj
/-- Two rows in a new block. -/
theorem two_new' (W : World) (x y : α) (k : e.Ok) : SlAt e (W.alloc (.cells (e.f x ++ e.f y) e.ty)) (some ⟨W.heap.size, 0, none⟩) 2 2 [x, y] := by
  refine ⟨rfl, Nat.le_refl _, by unfold maxLen; omega, (fun e => by cases e), fun y e' _ => ?_⟩
  cases e'
  refine ⟨_, _, rfl, fun j u hj => ?_⟩
  rw [Nat.zero_add]
  refine RvAt.cell (RvAt.new W e.ty _) j u ?_
  have : e.fl [x, y] = (e.f x ++ e.f y).toList := by simp [El.fl]
  rw [this] at hj
  rw [← Array.getElem?_toList]
  exact hj
/-- A row more, appended by a slice of one. -/
theorem Own.next (k : e.Ok) (o : Own e W B v l) (hB : B ≤ W.heap.size) (hl : l.length ≤ 1000) (p : α) (ty : TypeId) :
    ∃ v' W', (apS e.st ty #[v, .slice (some ⟨W.heap.size, 0, none⟩) 1 1]).run Try.prog (W.alloc (.cells (e.f p) e.ty)) = .ok v' W' ∧ Own e W' B v' (l ++ [p]) ∧ Below B W W' := by
  have bA : Below W.heap.size W (W.alloc (.cells (e.f p) e.ty)) := (Below.refl _ _).alloc (Nat.le_refl _) _
  obtain ⟨v', W', ap, o2, g2⟩ := (o.below bA).app k (one_new W p k) (by simp; omega) (Nat.le_trans hB bA.size) ty
  exact ⟨v', W', ap, o2, (bA.mono hB).trans (below_of_grown g2 (Nat.le_trans hB bA.size) (fun j e => ((o.below bA).blk j e).1))⟩
theorem Own.next2 (k : e.Ok) (o : Own e W B v l) (hB : B ≤ W.heap.size) (hl : l.length ≤ 1000) (p q : α) (ty : TypeId) :
    ∃ v' W', (apS e.st ty #[v, .slice (some ⟨W.heap.size, 0, none⟩) 2 2]).run Try.prog (W.alloc (.cells (e.f p ++ e.f q) e.ty)) = .ok v' W' ∧ Own e W' B v' (l ++ [p, q]) ∧ Below B W W' := by
  have bA : Below W.heap.size W (W.alloc (.cells (e.f p ++ e.f q) e.ty)) := (Below.refl _ _).alloc (Nat.le_refl _) _
  obtain ⟨v', W', ap, o2, g2⟩ := (o.below bA).app k (two_new' W p q k) (by simp; omega) (Nat.le_trans hB bA.size) ty
  exact ⟨v', W', ap, o2, (bA.mono hB).trans (below_of_grown g2 (Nat.le_trans hB bA.size) (fun j e => ((o.below bA).blk j e).1))⟩
/-- Block g holds l, and has room for c. -/
def PAt (e : El α) (W : World) (g c : Nat) (l : List α) : Prop :=
  ∃ cur : Array Value, RvAt W g e.ty cur ∧ l.length ≤ c ∧ c ≤ maxLen ∧ cur.size = c * e.K ∧ cur.toList.take (l.length * e.K) = e.fl l
variable {g : Nat}
theorem PAt.lt (h : PAt e W g c l) : g < W.heap.size := by
  obtain ⟨cur, hb, _⟩ := h
  exact hb.lt
theorem PAt.own (k : e.Ok) (h : PAt e W g c l) (hB : B ≤ g) : Own e W B (.slice (some ⟨g, 0, none⟩) l.length c) l := by
  obtain ⟨cur, hb, h1, h2, h3, h4⟩ := h
  exact ⟨El.fl_len k l, Or.inr ⟨g, c, cur, rfl, hB, hb, h1, h2, h3, h4⟩⟩
theorem PAt.sl (k : e.Ok) (h : PAt e W g c l) : SlAt e W (some ⟨g, 0, none⟩) l.length c l := by
  obtain ⟨a, c', e', hs, _⟩ := (h.own k (Nat.zero_le _)).form
  cases e'
  exact hs
theorem Own.pat (h : Own e W B v l) : (v = .slice none 0 0 ∧ l = []) ∨ ∃ g c, v = .slice (some ⟨g, 0, none⟩) l.length c ∧ B ≤ g ∧ PAt e W g c l := by
  rcases h.2 with ⟨rfl, h0⟩ | ⟨g, cap, cur, rfl, hB, hb, h1, h2, h3, h4⟩
  · exact Or.inl ⟨rfl, List.eq_nil_of_length_eq_zero h0⟩
  · exact Or.inr ⟨g, cap, rfl, hB, cur, hb, h1, h2, h3, h4⟩
theorem Own.pat' (h : Own e W B v l) (hl : 0 < l.length) : ∃ g c, v = .slice (some ⟨g, 0, none⟩) l.length c ∧ B ≤ g ∧ PAt e W g c l := by
  rcases h.pat with ⟨_, rfl⟩ | h
  · simp at hl
  · exact h
theorem PAt.keptBut {row : Option Nat} (h : PAt e W g c l) (hg : W.grownBy W' row) (hn : some g ≠ row) : PAt e W' g c l := by
  obtain ⟨cur, hb, hr⟩ := h
  exact ⟨cur, hb.keptBut hg hn, hr⟩
theorem PAt.below (h : PAt e W g c l) (hb : Below W.heap.size W W') : PAt e W' g c l := by
  obtain ⟨cur, h1, hr⟩ := h
  exact ⟨cur, h1.below hb, hr⟩
theorem PAt.cell (k : e.Ok) (h : PAt e W g c l) {i j q : Nat} {x : α} {v : Value} (hx : l[i]? = some x) (hv : (e.f x)[j]? = some v) (hq : q = i * e.K + j) : W.cell? ⟨g, q, none⟩ = some v := (h.sl k).cell k hx hv (by omega)
theorem PAt.ld (k : e.Ok) (h : PAt e W g c l) {i q : Nat} {x : α} (hx : l[i]? = some x) {d : TypeDesc} (hu : Try.prog.underlying e.ty = some d) (hr : d.isRow = true) (hq : q = i * e.K) : (ldS e.ty (.pointer (some ⟨g, q, none⟩))).run Try.prog W = .ok (.agg (e.f x)) W := (h.sl k).ld k hx hu hr (by omega)
theorem fl_is (k : e.Ok) {X : List Value} (hl : l.length * e.K ≤ X.length) (h : ∀ t, t < l.length * e.K → X[t]? = (l[t / e.K]?).bind (fun x => (e.f x).toList[t % e.K]?)) : X.take (l.length * e.K) = e.fl l := by
  refine List.ext_getElem? fun t => ?_
  rw [List.getElem?_take]
  split
  · rename_i ht
    rw [h t ht, El.fl_get k]
  · rw [List.getElem?_eq_none (by rw [El.fl_len k]; omega)]
theorem take_at (k : e.Ok) {X : List Value} (h : X.take (l.length * e.K) = e.fl l) {t : Nat} (ht : t < l.length * e.K) : X[t]? = (l[t / e.K]?).bind (fun x => (e.f x).toList[t % e.K]?) := by
  rw [← El.fl_get k, ← h, List.getElem?_take, if_pos ht]
/-- A part of row i of the block, stored: behind it row i is y. -/
theorem PAt.put (k : e.Ok) {i j q : Nat} {tv : TypeId} {x y : α} {cs : Array Value} (h : PAt e W g c l) (hx : l[i]? = some x) (hi : (Try.prog.info? tv).map (·.size) = some cs.size) (hj : j + cs.size ≤ e.K) (h1 : ∀ v ∈ cs.toList, v.oneCell' = true)
    (hy : ∀ r, (e.f y)[r]? = if j ≤ r ∧ r < j + cs.size then cs[r - j]? else (e.f x)[r]?) (hq : q = i * e.K + j) :
    ∃ W', (stS tv (.pointer (some ⟨g, q, none⟩)) (.agg cs)).run Try.prog W = .ok () W' ∧ PAt e W' g c (l.set i y) ∧ W.grownBy W' (some g) := by
  obtain ⟨cur, hb, hl1, hl2, h3, h4⟩ := h
  subst hq
  have hp := k.pos
  have hil : i < l.length := (List.getElem?_eq_some_iff.1 hx).1
  have hik : i * e.K + e.K ≤ l.length * e.K := by rw [← Nat.succ_mul]; exact Nat.mul_le_mul_right _ hil
  have hck : l.length * e.K ≤ c * e.K := Nat.mul_le_mul_right _ hl1
  have hs := store_cells (ty := tv) (o := i * e.K + j) (cs := cs) hb hi (by rw [h3]; omega) h1
  have hcl : cur.toList.length = c * e.K := by rw [Array.length_toList, h3]
  have e1 : (cur.toList.take (i * e.K + j)).length = i * e.K + j := by rw [List.length_take]; omega
  have e2 : cs.toList.length = cs.size := Array.length_toList ..
  refine ⟨_, hs, ⟨_, hb.set, by rw [List.length_set]; exact hl1, hl2, by simp [h3]; omega, ?_⟩, grown_row _ _ _⟩
  have el : (l.set i y).length = l.length := List.length_set ..
  refine fl_is k (by simp [h3]; omega) fun t ht => ?_
  rw [el] at ht
  show ((cur.toList.take (i * e.K + j) ++ cs.toList ++ cur.toList.drop (i * e.K + j + cs.size)))[t]? = _
  rw [List.getElem?_set]
  have hdm := Nat.div_add_mod t e.K
  have hml := Nat.mod_lt t hp
  by_cases hti : i = t / e.K
  · subst hti
    have ht' : t / e.K * e.K + t % e.K = t := by rw [Nat.mul_comm]; exact hdm
    rw [if_pos rfl, if_pos hil]
    have hyr := hy (t % e.K)
    simp only [Option.bind_some, Array.getElem?_toList]
    rw [hyr]
    have hold := take_at k h4 ht
    rw [hx] at hold
    simp only [Option.bind_some, Array.getElem?_toList] at hold
    by_cases hin : j ≤ t % e.K ∧ t % e.K < j + cs.size
    · rw [if_pos hin, List.getElem?_append_left (by rw [List.length_append, e1, e2]; omega), List.getElem?_append_right (by rw [e1]; omega), e1, Array.getElem?_toList]
      rw [show t - (t / e.K * e.K + j) = t % e.K - j by omega]
    · rw [if_neg hin, ← hold]
      by_cases h0 : t < t / e.K * e.K + j
      · rw [List.append_assoc, List.getElem?_append_left (by rw [e1]; exact h0), List.getElem?_take, if_pos h0, Array.getElem?_toList]
      · rw [List.getElem?_append_right (by rw [List.length_append, e1, e2]; omega), List.length_append, e1, e2, List.getElem?_drop, Array.getElem?_toList]
        rw [show t / e.K * e.K + j + cs.size + (t - (t / e.K * e.K + j + cs.size)) = t by omega]
  · rw [if_neg hti]
    have hold := take_at k h4 ht
    rw [← hold]
    have hout : t < i * e.K ∨ (i + 1) * e.K ≤ t := by
      rcases Nat.lt_or_gt_of_ne hti with h' | h'
      · right
        calc (i + 1) * e.K ≤ (t / e.K) * e.K := Nat.mul_le_mul_right _ h'
          _ ≤ t := Nat.div_mul_le_self t e.K
      · left
        have : (t / e.K + 1) * e.K ≤ i * e.K := Nat.mul_le_mul_right _ h'
        rw [Nat.succ_mul] at this
        rw [Nat.mul_comm] at hdm
        omega
    rw [Nat.succ_mul] at hout
    by_cases h0 : t < i * e.K + j
    · rw [List.append_assoc, List.getElem?_append_left (by rw [e1]; exact h0), List.getElem?_take, if_pos h0]
    · rw [List.getElem?_append_right (by rw [List.length_append, e1, e2]; omega), List.length_append, e1, e2, List.getElem?_drop]
      rw [show i * e.K + j + cs.size + (t - (i * e.K + j + cs.size)) = t by omega]
/-- Row i, stored whole. -/
theorem PAt.stp (k : e.Ok) {i q : Nat} {y : α} (h : PAt e W g c l) (hil : i < l.length) (hq : q = i * e.K) :
    ∃ W', (stS e.ty (.pointer (some ⟨g, q, none⟩)) (.agg (e.f y))).run Try.prog W = .ok () W' ∧ PAt e W' g c (l.set i y) ∧ W.grownBy W' (some g) := by
  obtain ⟨z, hz, _⟩ := k.info
  obtain ⟨i0, hi, hz0, hz1, hz2⟩ := info_parts hz
  refine h.put k (j := 0) (List.getElem?_eq_getElem hil) (by rw [hi, k.size]; simp [hz1]) (by rw [k.size]; omega) (k.one y) (fun r => ?_) (by omega)
  rw [k.size]
  by_cases hr : r < e.K
  · rw [if_pos ⟨Nat.zero_le _, by omega⟩, Nat.sub_zero]
  · rw [if_neg (by omega), Array.getElem?_eq_none (by rw [k.size]; omega), Array.getElem?_eq_none (by rw [k.size]; omega)]
/-- One cell of row i, stored. -/
theorem PAt.st1 (k : e.Ok) {i j q : Nat} {tv : TypeId} {x y : α} {v : Value} (h : PAt e W g c l) (hx : l[i]? = some x) (hi : (Try.prog.info? tv).map (·.size) = some 1) (hj : j < e.K) (hv : v.oneCell' = true)
    (hy : ∀ r, (e.f y)[r]? = if r = j then some v else (e.f x)[r]?) (hq : q = i * e.K + j) :
    ∃ W', (stS tv (.pointer (some ⟨g, q, none⟩)) v).run Try.prog W = .ok () W' ∧ PAt e W' g c (l.set i y) ∧ W.grownBy W' (some g) := by
  have hc : v.cells = #[v] := by cases v <;> first | rfl | (cases hv; done)
  have hs : stS tv (.pointer (some ⟨g, q, none⟩)) v = stS tv (.pointer (some ⟨g, q, none⟩)) (.agg #[v]) := by
    cases v <;> first | rfl | (cases hv; done)
  rw [hs]
  refine h.put k (j := j) (cs := #[v]) hx (by simpa using hi) (by show j + 1 ≤ e.K; omega) (by simpa using hv) (fun r => ?_) hq
  rw [hy r]
  by_cases e : r = j
  · subst e
    rw [if_pos rfl, if_pos (by simp)]
    simp
  · rw [if_neg e, if_neg (by simp; omega)]
theorem grown_new {W W' V : World} {b : Nat} (h : Below W.heap.size W W') (k : W'.grownBy V (some b)) (hb : W.heap.size ≤ b) : Below W.heap.size W V := h.trans (below_of_grown k h.size (fun j e => by cases e; exact hb))
end
end Go.Proofs.Ytammaaiknjgjbaa
