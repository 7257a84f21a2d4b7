/-
  Bytes that are written over: what stays, what is still bytes. Plain laws; the law's state.
-/
import Derived.Test.YtoojoiindfgoeaaQw
namespace Go.Proofs.Ytoojoiindfgoeaa
set_option linter.unusedVariables false
set_option maxRecDepth 4000
set_option linter.unusedSimpArgs false
open Go.RowKit Go.Conc
/-- A slice of one's own that holds some bytes. -/
def ByS (W : World) (B : Nat) (y : Sl) : Prop := (y = ⟨none, 0, 0⟩) ∨ ∃ g cap cur, y.a = some ⟨g, 0, none⟩ ∧ y.c = cap ∧ B ≤ g ∧ RvAt W g 5 cur ∧ y.n ≤ cap ∧ cap ≤ maxLen ∧ cur.size = cap ∧ ∀ j, j < y.n → ∃ v, cur[j]? = some (.int .u8 v)
theorem OwnS.by' {W : World} {B : Nat} {y : Sl} {l : List Int} (h : OwnS W B y l) : ByS W B y := by
  rcases h.2 with ⟨e, _⟩ | ⟨g, cap, cur, e, h1, h2, h3, h4, h5, h6⟩
  · cases y
    cases e
    exact .inl rfl
  · obtain ⟨a, n, c⟩ := y
    simp only [Sl.v, Value.slice.injEq] at e
    obtain ⟨ea, en, ec⟩ := e
    refine .inr ⟨g, cap, cur, ea, ec, h1, h2, by show n ≤ cap; omega, h4, by rw [h5]; show cap * 1 = cap; omega, fun j hj => ?_⟩
    have hj' : j < l.length := by rw [← en]; exact hj
    obtain ⟨v, hv⟩ : ∃ v, l[j]? = some v := ⟨_, List.getElem?_eq_getElem hj'⟩
    have e1 : (cur.toList.take (l.length * eU.K))[j]? = (eU.fl l)[j]? := by rw [h6]
    have hK : eU.K = 1 := rfl
    rw [El.fl_get kU, hK, Nat.div_one, Nat.mod_one, hv, List.getElem?_take_of_lt (by omega), Array.getElem?_toList] at e1
    exact ⟨v, e1⟩
theorem ByS.keptBut {W W' : World} {B : Nat} {y : Sl} {row : Option Nat} (h : ByS W B y) (hg : W.grownBy W' row) (hn : ∀ g, y.blk = some g → some g ≠ row) : ByS W' B y := by
  rcases h with h | ⟨g, cap, cur, e, e2, h1, h2, h3⟩
  · exact .inl h
  · exact .inr ⟨g, cap, cur, e, e2, h1, h2.keptBut hg (hn g (by unfold Sl.blk; rw [e]; rfl)), h3⟩
theorem ByS.below {W W' : World} {B : Nat} {y : Sl} (h : ByS W B y) (hb : Below W.heap.size W W') : ByS W' B y := h.keptBut (grown_of_below hb none) fun g _ e => by cases e
theorem ByS.rv {W : World} {B : Nat} {y : Sl} (h : ByS W B y) {g : Nat} (hg : y.blk = some g) : B ≤ g ∧ ∃ cur, RvAt W g 5 cur := by
  rcases h with rfl | ⟨g', cap, cur, e, e2, h1, h2, h3⟩
  · cases hg
  · unfold Sl.blk at hg
    rw [e] at hg
    cases hg
    exact ⟨h1, cur, h2⟩
theorem ByS.max {W : World} {B : Nat} {y : Sl} (h : ByS W B y) : (y.n : Int) ≤ 9223372036854775807 := by
  rcases h with rfl | ⟨g', cap, cur, e, e2, h1, h2, h3, h4, h5⟩
  · decide
  · unfold maxLen at h4
    omega
theorem ByS.chan {W W' : World} {B c cap : Nat} {buf : Array Value} {cl tm : Bool} {s r : Nat} {y : Sl} (h : ByS W B y) (hc : W.heap[c]? = some (.chan cap buf cl s r tm)) (hg : W.grownBy W' (some c)) : ByS W' B y :=
  h.keptBut hg fun g hy e => by
    cases e
    obtain ⟨_, cur, h1⟩ := h.rv hy
    have h1' : W.heap[c]? = some (.cells cur 5 (0, 0)) := h1
    rw [h1'] at hc
    cases hc
/-- One byte of such a slice: it is read, it is written over, and all such slices are bytes still. -/
theorem ByS.at' {W : World} {B : Nat} {y : Sl} (h : ByS W B y) {j : Nat} (hj : j < y.n) :
    ∃ g v, y.a = some ⟨g, 0, none⟩ ∧ B ≤ g ∧ g < W.heap.size ∧ W.cell? ⟨g, j, none⟩ = some (.int .u8 v) ∧ ∀ z : Int, ∃ W', (stS 5 (.pointer (some ⟨g, j, none⟩)) (.int .u8 z)).run Try.prog W = .ok () W' ∧ W.grownBy W' (some g) ∧ ∀ (B' : Nat) (y' : Sl), ByS W B' y' → ByS W' B' y' := by
  rcases h with rfl | ⟨g, cap, cur, e, e2, h1, h2, h3, h4, h5, h6⟩
  · exact absurd hj (Nat.not_lt_zero _)
  · obtain ⟨v, hv⟩ := h6 j hj
    refine ⟨g, v, e, h1, h2.lt, h2.cell _ _ hv, fun z => ?_⟩
    have hi : (Try.prog.info? 5).map (·.size) = some 1 := by kernel_rfl
    have hs := RvAt.st1 (k := j) (tv := 5) (v := .int .u8 z) h2 hi (by omega) rfl
    refine ⟨_, hs, grown_row _ _ _, fun B' y' hy => ?_⟩
    rcases hy with rfl | ⟨g', cap', cur', e', e2', q1, q2, q3, q4, q5, q6⟩
    · exact .inl rfl
    · by_cases hgg : g' = g
      · subst hgg
        have hc : cur' = cur := by
          have h2' : W.heap[g']? = some (.cells cur 5 (0, 0)) := h2
          have q2' : W.heap[g']? = some (.cells cur' 5 (0, 0)) := q2
          rw [h2'] at q2'
          cases q2'
          rfl
        subst hc
        refine .inr ⟨g', cap', _, e', e2', q1, RvAt.set h2, q3, q4, by simpa using q5, fun i hi' => ?_⟩
        by_cases hij : j = i
        · subst hij
          have hjs := (Array.getElem?_eq_some_iff.1 hv).1
          exact ⟨z, by simp [hjs]⟩
        · obtain ⟨u, hu⟩ := q6 i hi'
          refine ⟨u, ?_⟩
          simp only [List.getElem?_toArray]
          rw [List.getElem?_set_ne hij, Array.getElem?_toList]
          exact hu
      · exact .inr ⟨g', cap', cur', e', e2', q1, q2.keptBut (grown_row _ _ _) (by simpa using hgg), q3, q4, q5, q6⟩
/-- What the law has: the queue, what is wanted of it. -/
structure OrS (w V : World) (b c cap : Nat) (rr : List Sl) (L : List (List Int)) (s r : Nat) (v : Sl) (tt : List Sl) : Prop where
  q : QAt w V b c cap rr L s r
  t : TlS V w.heap.size v tt
  al : Al (OwnS V w.heap.size) tt L
theorem OrS.below {w V V' : World} {b c cap : Nat} {rr : List Sl} {L : List (List Int)} {s r : Nat} {v : Sl} {tt : List Sl} (h : OrS w V b c cap rr L s r v tt) (hb : Below V.heap.size V V') : OrS w V' b c cap rr L s r v tt := ⟨h.q.below hb, h.t.below hb, h.al.mono fun _ _ hh => hh.below hb⟩
/-- A block of bytes that is none of what waits or is wanted. -/
def FreeB (g : Nat) (rr tt : List Sl) : Prop := (∀ x ∈ rr, x.v.ownBlock ≠ some g) ∧ ∀ x ∈ tt, x.v.ownBlock ≠ some g
theorem al_lt {W : World} {B : Nat} {rr : List Sl} {L : List (List Int)} (h : Al (OwnS W B) rr L) : ∀ x ∈ rr, ∀ g, x.v.ownBlock = some g → g < W.heap.size := fun x hx g hg => by
  obtain ⟨j, hj, ej⟩ := List.getElem_of_mem hx
  have := h.at' j x _ (by rw [← ej]; exact List.getElem?_eq_getElem hj) (List.getElem?_eq_getElem (by rw [← h.len]; exact hj))
  exact (Own.blk (e := eU) this g hg).2
/-- A block that came later is free. -/
theorem OrS.free {w V : World} {b c cap : Nat} {rr : List Sl} {L : List (List Int)} {s r : Nat} {v : Sl} {tt : List Sl} (h : OrS w V b c cap rr L s r v tt) {g : Nat} (hg : V.heap.size ≤ g) : FreeB g rr tt :=
  ⟨fun x hx e => by have := al_lt h.q.al x hx g e; omega, fun x hx e => by have := al_lt h.al x hx g e; omega⟩
/-- Bytes written over in a free block. -/
theorem OrS.over {w V V' : World} {b c cap : Nat} {rr : List Sl} {L : List (List Int)} {s r : Nat} {v : Sl} {tt : List Sl} {g : Nat} {cur : Array Value} (h : OrS w V b c cap rr L s r v tt) (hr : RvAt V g 5 cur) (hf : FreeB g rr tt) (hlo : w.heap.size ≤ g) (hg : V.grownBy V' (some g)) : OrS w V' b c cap rr L s r v tt := by
  have hr' : V.heap[g]? = some (.cells cur 5 (0, 0)) := hr
  refine ⟨h.q.keep hg fun j e => ?_, h.t.keptBut hg fun j hj e => ?_, Al.monoM (fun x hx l hxl => Own.keptBut (e := eU) hxl hg ?_) h.al⟩
  · cases e
    refine ⟨hlo, fun e => ?_, fun e => ?_, hf.1⟩
    · have h1 : V.heap[b]? = some (.cells #[.chan (some c)] 50 (0, 0)) := h.q.pt
      rw [← e, hr'] at h1
      cases h1
    · have h1 := h.q.ch
      rw [← e, hr'] at h1
      cases h1
  · cases e
    obtain ⟨_, cur2, h2⟩ := h.t.blk hj
    have h2' : V.heap[g]? = some (.cells cur2 33 (0, 0)) := h2
    rw [hr'] at h2'
    cases h2'
  · cases hq : x.v.ownBlock with
    | none => exact .inl rfl
    | some j => exact .inr fun e => by cases e; exact hf.2 x hx hq
/-- The queue turned alone. -/
theorem OrS.turn {w V V' : World} {b c cap : Nat} {rr rr' : List Sl} {L L' : List (List Int)} {s r s' r' : Nat} {v : Sl} {tt : List Sl} (h : OrS w V b c cap rr L s r v tt) (q : QAt w V' b c cap rr' L' s' r') (hg : V.grownBy V' (some c)) : TlS V' w.heap.size v tt ∧ Al (OwnS V' w.heap.size) tt L := by
  refine ⟨h.t.keptBut hg fun j hj e => ?_, h.al.mono fun _ _ hh => Own.chan (e := eU) hh h.q.ch hg⟩
  cases e
  obtain ⟨_, cur2, h2⟩ := h.t.blk hj
  have h2' : V.heap[c]? = some (.cells cur2 33 (0, 0)) := h2
  have h1 := h.q.ch
  rw [h2'] at h1
  cases h1
theorem ByS.apartT {W W' : World} {B B' : Nat} {y v : Sl} {uu : List Sl} (h : ByS W B y) (t : TlS W B' v uu) (hg : W.grownBy W' v.blk) : ByS W' B y :=
  h.keptBut hg fun g hy e => by
    obtain ⟨_, cur, h1⟩ := h.rv hy
    obtain ⟨_, cur2, h2⟩ := t.blk e.symm
    have h1' : W.heap[g]? = some (.cells cur 5 (0, 0)) := h1
    have h2' : W.heap[g]? = some (.cells cur2 33 (0, 0)) := h2
    rw [h1'] at h2'
    cases h2'
theorem OwnS.apartT {W W' : World} {B B' : Nat} {x v : Sl} {l : List Int} {uu : List Sl} (h : OwnS W B x l) (t : TlS W B' v uu) (hg : W.grownBy W' v.blk) : OwnS W' B x l := by
  refine Own.keptBut (e := eU) h hg ?_
  cases hq : x.v.ownBlock with
  | none => exact .inl rfl
  | some g =>
    refine .inr fun e => ?_
    obtain ⟨cur, h1⟩ := Own.kind (e := eU) h hq
    obtain ⟨_, cur2, h2⟩ := t.blk e.symm
    have h1' : W.heap[g]? = some (.cells cur 5 (0, 0)) := h1
    have h2' : W.heap[g]? = some (.cells cur2 33 (0, 0)) := h2
    rw [h1'] at h2'
    cases h2'
/-- The queue beside the row of what is wanted, which grows. -/
theorem QAt.apartT {w W W' : World} {b c cap : Nat} {rr : List Sl} {L : List (List Int)} {s r : Nat} {v : Sl} {uu : List Sl} (h : QAt w W b c cap rr L s r) (t : TlS W w.heap.size v uu) (hg : W.grownBy W' v.blk) : QAt w W' b c cap rr L s r := by
  refine h.keep hg fun g e => ?_
  obtain ⟨hlo, cur2, h2⟩ := t.blk e
  have h2' : W.heap[g]? = some (.cells cur2 33 (0, 0)) := h2
  refine ⟨hlo, fun e => ?_, fun e => ?_, fun x hx e => ?_⟩
  · have h1 : W.heap[b]? = some (.cells #[.chan (some c)] 50 (0, 0)) := h.pt
    rw [← e, h2'] at h1
    cases h1
  · have h1 := h.ch
    rw [← e, h2'] at h1
    cases h1
  · obtain ⟨j, hj, ej⟩ := List.getElem_of_mem hx
    have := h.al.at' j x _ (by rw [← ej]; exact List.getElem?_eq_getElem hj) (List.getElem?_eq_getElem (by rw [← h.al.len]; exact hj))
    obtain ⟨cur, h1⟩ := Own.kind (e := eU) this e
    have h1' : W.heap[g]? = some (.cells cur 5 (0, 0)) := h1
    rw [h1'] at h2'
    cases h2'
/-- One more is wanted. -/
theorem OrS.put {w W W' : World} {b c cap : Nat} {rr : List Sl} {L : List (List Int)} {l : List Int} {s r : Nat} {v v' x : Sl} {uu : List Sl} (q : QAt w W b c cap rr (L ++ [l]) s r) (t : TlS W w.heap.size v uu) (al : Al (OwnS W w.heap.size) uu L) (ox : OwnS W w.heap.size x l) (t' : TlS W' w.heap.size v' (uu ++ [x])) (hg : W.grownBy W' v.blk) : OrS w W' b c cap rr (L ++ [l]) s r v' (uu ++ [x]) :=
  ⟨q.apartT t hg, t', Al.snoc (ox.apartT t hg) (al.mono fun _ _ h => h.apartT t hg)⟩
/-- Rows that were told: they are bytes, and none of them is what waits or is wanted. -/
structure XsS (w X : World) (v : Value) (xx rr uu : List Sl) : Prop where
  o : Own eS X w.heap.size v xx
  y : ∀ x ∈ xx, ByS X w.heap.size x
  f : ∀ x ∈ xx, ∀ g, x.blk = some g → FreeB g rr uu
theorem al_mem {W : World} {B : Nat} {rr : List Sl} {L : List (List Int)} (h : Al (OwnS W B) rr L) : ∀ x ∈ rr, ∃ l, OwnS W B x l := fun x hx => by
  obtain ⟨j, hj, ej⟩ := List.getElem_of_mem hx
  exact ⟨_, h.at' j x _ (by rw [← ej]; exact List.getElem?_eq_getElem hj) (List.getElem?_eq_getElem (by rw [← h.len]; exact hj))⟩
theorem XsS.of {w X0 X : World} {v : Value} {xx rr uu : List Sl} {L : List (List Int)} (o : Own eS X X0.heap.size v xx) (al : Al (OwnS X X0.heap.size) xx L) (hlo : w.heap.size ≤ X0.heap.size) (hf : ∀ g, X0.heap.size ≤ g → FreeB g rr uu) : XsS w X v xx rr uu :=
  ⟨Own.base (e := eS) o hlo, fun x hx => by
    obtain ⟨l, h⟩ := al_mem al x hx
    exact (OwnS.base h hlo).by', fun x hx g hg => by
    obtain ⟨l, h⟩ := al_mem al x hx
    exact hf g (h.by'.rv hg).1⟩
theorem XsS.st {w X X' : World} {v : Value} {xx rr uu : List Sl} {g : Nat} {cur : Array Value} (h : XsS w X v xx rr uu) (hr : RvAt X g 5 cur) (hg : X.grownBy X' (some g)) (hy : ∀ (B' : Nat) (y' : Sl), ByS X B' y' → ByS X' B' y') : XsS w X' v xx rr uu := by
  refine ⟨Own.keptBut (e := eS) h.o hg ?_, fun x hx => hy _ _ (h.y x hx), h.f⟩
  cases hq : v.ownBlock with
  | none => exact .inl rfl
  | some g' =>
    refine .inr fun e => ?_
    cases e
    obtain ⟨cur2, h1⟩ := Own.kind (e := eS) h.o hq
    have h1' : X.heap[g]? = some (.cells cur2 33 (0, 0)) := h1
    have h2' : X.heap[g]? = some (.cells cur 5 (0, 0)) := hr
    rw [h1'] at h2'
    cases h2'
theorem XsS.form {w X : World} {v : Value} {xx rr uu : List Sl} (h : XsS w X v xx rr uu) : ∃ a c, v = .slice a xx.length c := by
  obtain ⟨a, c, e, _⟩ := Own.form (e := eS) h.o
  exact ⟨a, c, e⟩
theorem XsS.sl {w X : World} {a : Option Addr} {n c : Nat} {xx rr uu : List Sl} (h : XsS w X (.slice a n c) xx rr uu) : SlAt eS X a n c xx := by
  obtain ⟨a', c', e, h1, _⟩ := Own.form (e := eS) h.o
  cases e
  exact h1
end Go.Proofs.Ytoojoiindfgoeaa
