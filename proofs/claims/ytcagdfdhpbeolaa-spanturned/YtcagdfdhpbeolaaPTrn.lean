/-
  A graph whose edges are turned and told in another order: the same sides, so the same answers.
-/
import Derived.Test.YtcagdfdhpbeolaaRNo
import Derived.Test.YtcagdfdhpbeolaaEns
namespace Go.Proofs.Ytcagdfdhpbeolaa
set_option linter.unusedVariables false
open Go.RowKit

theorem dup_nodup {α : Type} {q : α → α → Bool} (hq : ∀ x y, q x y = true ↔ x = y) (l : List α) : dup q l = false ↔ l.Nodup := by
  constructor
  · intro h
    unfold List.Nodup
    rw [List.pairwise_iff_getElem]
    intro i j hi hj hij e
    have := dup_not h (List.getElem?_eq_getElem hj)
    rw [List.any_eq_false] at this
    exact this l[i] (List.mem_of_getElem? (i := i) (by rw [List.getElem?_take, if_pos hij]; exact List.getElem?_eq_getElem hi)) ((hq _ _).2 e.symm)
  · intro h
    refine dup_no fun i x hx => ?_
    rw [List.any_eq_false]
    intro y hy hxy
    rw [(hq x y).1 hxy] at hx
    obtain ⟨j, hj⟩ := List.getElem?_of_mem hy
    rw [List.getElem?_take] at hj
    by_cases hji : j < i
    · rw [if_pos hji] at hj
      obtain ⟨h1, e1⟩ := List.getElem?_eq_some_iff.1 hx
      obtain ⟨h2, e2⟩ := List.getElem?_eq_some_iff.1 hj
      unfold List.Nodup at h
      rw [List.pairwise_iff_getElem] at h
      exact h j i h2 h1 hji (e2.trans e1.symm)
    · rw [if_neg hji] at hj
      cases hj
theorem sameP_iff (x y : Int × Int) : sameP x y = true ↔ x = y := by
  obtain ⟨a, b⟩ := x
  obtain ⟨c, d⟩ := y
  simp [sameP]
/-- The same edges, some of them turned, in another order. -/
structure Trd (M es : List Eg) : Prop where
  len : M.length = es.length
  sd : (sidesE M).Perm (sidesE es)
theorem Trd.nil (es : List Eg) : Trd [] (es.drop es.length) := by
  rw [List.drop_length]
  exact ⟨rfl, List.Perm.refl _⟩
theorem sidesE_cons (x : Eg) (l : List Eg) : sidesE (x :: l) = x :: x.turn :: sidesE l := rfl
theorem turn2 (x : Eg) : x.turn.turn = x := rfl
theorem Trd.next {M es : List Eg} {j : Nat} {x y : Eg} (h : Trd M (es.drop (j + 1))) (hx : es[j]? = some x) (hy : y = x ∨ y = x.turn) : Trd (M ++ [y]) (es.drop j) := by
  obtain ⟨hj, e⟩ := List.getElem?_eq_some_iff.1 hx
  rw [List.drop_eq_getElem_cons hj, e]
  refine ⟨by rw [List.length_append, List.length_cons, h.len]; rfl, ?_⟩
  have h1 : sidesE (M ++ [y]) = sidesE M ++ [y, y.turn] := by
    unfold sidesE
    rw [List.flatMap_append]
    rfl
  rw [h1, sidesE_cons]
  refine List.perm_append_comm.trans ?_
  have h2 : ([y, y.turn] ++ sidesE M).Perm ([y, y.turn] ++ sidesE (es.drop (j + 1))) := List.Perm.append_left _ h.sd
  refine h2.trans ?_
  rcases hy with rfl | rfl
  · exact List.Perm.refl _
  · rw [turn2]
    exact List.Perm.swap _ _ _
theorem Trd.chk {M es : List Eg} (h : Trd M es) (ids : List Nat) : chkI ids M = chkI ids es := by
  have h1 : M.any (wrongE (ids.length : Int)) = es.any (wrongE (ids.length : Int)) := by
    rw [← rbad_any, ← rbad_any, Bool.eq_iff_iff, List.any_eq_true, List.any_eq_true]
    constructor
    · rintro ⟨x, hx, k⟩
      exact ⟨x, h.sd.mem_iff.1 hx, k⟩
    · rintro ⟨x, hx, k⟩
      exact ⟨x, h.sd.mem_iff.2 hx, k⟩
  have h2 : dup sameP (portsE M) = dup sameP (portsE es) := by
    have h3 := (dup_nodup sameP_iff (portsE M)).trans ((h.sd.map ptE).nodup_iff.trans (dup_nodup sameP_iff (portsE es)).symm)
    cases e1 : dup sameP (portsE M) <;> cases e2 : dup sameP (portsE es) <;> simp_all
  unfold chkI
  rw [h.len, h1, h2]
theorem Trd.err {M es : List Eg} (h : Trd M es) (ids : List Nat) : errI ids M = errI ids es := by
  unfold errI
  rw [h.chk]
theorem Ne.eg_one {s t : Ne} (h : s.eg = t.eg) : s = t := by
  have := map_eg_inj (L := [s]) (L' := [t]) (by rw [List.map_cons, List.map_cons, h])
  cases this
  rfl
theorem Trd.mem {L' L : List Ne} (h : Trd (L'.map Ne.eg) (L.map Ne.eg)) (s : Ne) : s ∈ sdl L' ↔ s ∈ sdl L := by
  have h1 := h.sd.mem_iff (a := s.eg)
  rw [sdl_eg, sdl_eg, List.mem_map, List.mem_map] at h1
  constructor
  · intro hs
    obtain ⟨t, ht, e⟩ := h1.1 ⟨s, hs, rfl⟩
    rw [← Ne.eg_one e]
    exact ht
  · intro hs
    obtain ⟨t, ht, e⟩ := h1.2 ⟨s, hs, rfl⟩
    rw [← Ne.eg_one e]
    exact ht
theorem same_key {ids : List Nat} {L L' : List Ne} (g : Gok ids L) (g' : Gok ids L') (hm : ∀ s, s ∈ sdl L' ↔ s ∈ sdl L) {i : Nat} (hi : i < ids.length) : key ids L' i = key ids L i := by
  refine Least.one (key_least g') (key_least g) g'.st g.st ?_ ?_ i hi
  · intro s hs
    obtain ⟨t, ht, rfl⟩ := List.mem_map.1 hs
    exact List.mem_map_of_mem ((hm t).1 ht)
  · intro s hs
    obtain ⟨t, ht, rfl⟩ := List.mem_map.1 hs
    exact List.mem_map_of_mem ((hm t).2 ht)
theorem same_told {ids : List Nat} {L L' : List Ne} (g : Gok ids L) (g' : Gok ids L') (hm : ∀ s, s ∈ sdl L' ↔ s ∈ sdl L) {i : Nat} (hi : i < ids.length) (p : Nat) : toldV ids L' i p = toldV ids L i p := by
  unfold toldV
  rw [same_key g g' hm hi]
theorem same_hear {ids : List Nat} {L L' : List Ne} (g : Gok ids L) (g' : Gok ids L') (hm : ∀ s, s ∈ sdl L' ↔ s ∈ sdl L) {s : Ne} (hs : s ∈ sdl L) : hearV ids L' s = hearV ids L s := by
  unfold hearV
  rw [same_key g g' hm (g.side s hs).2.1]
theorem same_bst {ids : List Nat} {L L' : List Ne} (g : Gok ids L) (g' : Gok ids L') (hm : ∀ s, s ∈ sdl L' ↔ s ∈ sdl L) {i : Nat} {s : Ne} (h : Bst ids L' i s) : Bst ids L i s := by
  refine ⟨(hm s).1 h.mem, h.me, fun t ht hti => ?_⟩
  have := h.best t ((hm t).2 ht) hti
  rwa [same_hear g g' hm ((hm s).1 h.mem), same_hear g g' hm ht] at this
theorem same_rp {ids : List Nat} {L L' : List Ne} (g : Gok ids L) (g' : Gok ids L') (hm : ∀ s, s ∈ sdl L' ↔ s ∈ sdl L) {i : Nat} (hi : i < ids.length) : rpOf ids L' i = rpOf ids L i := by
  have hr : isRoot ids L' i ↔ isRoot ids L i := by
    unfold isRoot
    rw [same_key g g' hm hi]
  by_cases h : isRoot ids L i
  · rw [rp_root h, rp_root (hr.2 h)]
  · obtain ⟨s, b1, e1, _⟩ := rp_side g hi h
    obtain ⟨t, b2, e2, _⟩ := rp_side g' hi (fun k => h (hr.1 k))
    rw [e1, e2, Bst.one g (same_bst g g' hm b2) b1]
theorem same_end {ids : List Nat} {L L' : List Ne} (g : Gok ids L) (g' : Gok ids L') (hm : ∀ s, s ∈ sdl L' ↔ s ∈ sdl L) {s : Ne} (hs : s ∈ sdl L) : endOf ids L' s = endOf ids L s := by
  have h := g.side s hs
  unfold endOf roleOf vecOf
  rw [same_rp g g' hm h.1, same_told g g' hm h.1, same_told g g' hm h.2.1]
theorem same_nodes {ids : List Nat} {L L' : List Ne} (g : Gok ids L) (g' : Gok ids L') (hm : ∀ s, s ∈ sdl L' ↔ s ∈ sdl L) : nodesF ids L' = nodesF ids L := by
  unfold nodesF ndAt
  refine List.map_congr_left fun i hi => ?_
  have hi' := List.mem_range.1 hi
  rw [same_key g g' hm hi', same_rp g g' hm hi']
theorem same_ends {ids : List Nat} {L L' : List Ne} (g : Gok ids L) (g' : Gok ids L') (hm : ∀ s, s ∈ sdl L' ↔ s ∈ sdl L) {x : En} (hx : x ∈ endsF ids L) : x ∈ endsF ids L' := by
  obtain ⟨s, hs, rfl⟩ := List.mem_map.1 hx
  rw [← same_end g g' hm hs]
  exact List.mem_map_of_mem ((hm s).2 hs)
theorem Trd.nod {ids : List Nat} {M es : List Eg} {A B : List Nd} (h : Trd M es) (k : nodO ids es A) (k' : nodO ids M B) : B = A := by
  rcases k with ⟨c1, rfl⟩ | ⟨L, rfl, g, c1, rfl⟩
  · rcases k' with ⟨_, rfl⟩ | ⟨L', rfl, g', c2, rfl⟩
    · rfl
    · rw [h.chk, c1] at c2; cases c2
  · rcases k' with ⟨c2, rfl⟩ | ⟨L', rfl, g', c2, rfl⟩
    · rw [h.chk, c1] at c2; cases c2
    · exact same_nodes g g' h.mem
theorem Trd.ends {ids : List Nat} {M es : List Eg} {P Q : List En} (h : Trd M es) (k : endO ids es P) (k' : endO ids M Q) : Q.length = P.length ∧ ∀ x ∈ P, x ∈ Q := by
  rcases k with ⟨c1, rfl⟩ | ⟨L, rfl, g, c1, rfl⟩
  · rcases k' with ⟨_, rfl⟩ | ⟨L', rfl, g', c2, rfl⟩
    · exact ⟨rfl, fun x hx => hx⟩
    · rw [h.chk, c1] at c2; cases c2
  · rcases k' with ⟨c2, rfl⟩ | ⟨L', rfl, g', c2, rfl⟩
    · rw [h.chk, c1] at c2; cases c2
    · have hl := h.len
      rw [List.length_map, List.length_map] at hl
      exact ⟨by rw [endsF_len, endsF_len, hl], fun x hx => same_ends g g' h.mem hx⟩
/-! ### equality of nodes and of ends -/
def eqN (a b : Nd) : Bool := decide (a.r = b.r ∧ a.c = b.c ∧ a.p = b.p)
theorem eqN_refl (a : Nd) : eqN a a = true := by unfold eqN; simp
theorem eqNd (x y : Nd) (w : World) : (Op.equalIn 10000 60 (.agg x.cs) (.agg y.cs)).run Try.prog w = .ok (eqN x y) w := by
  obtain ⟨a, b, c⟩ := x
  obtain ⟨a', b', c'⟩ := y
  show (Op.equalIn 10000 60 (.agg #[.int .u64 a, .int .u32 b, .int .i64 c]) (.agg #[.int .u64 a', .int .u32 b', .int .i64 c'])).run Try.prog w = _
  rw [show (10000 : Nat) = 9999 + 1 from rfl, Op.equalIn]
  simp only [Sem.run_bind, run_underlying Try.underlying60, Result.andThen_ok]
  go_simp
  unfold eqN
  by_cases h1 : a = a' <;> by_cases h2 : b = b' <;> by_cases h3 : c = c' <;> simp [h1, h2, h3] <;> omega
theorem gdN : Try.prog.eqGuardType Try.prog.depth 60 = false := by kernel_rfl
theorem eqgN (op : BinOp) (x y : Operand) (a b : Nd) (w : World) : (eqGuard op 60 x y (.agg a.cs) (.agg b.cs)).run Try.prog w = .ok () w := run_eqGuard_agg w op _ x y _ _ gdN
theorem neqN (a b : Nd) (w : World) : (binOp .neq 60 (.agg a.cs) (.agg b.cs)).run Try.prog w = .ok (.bool (!(eqN a b))) w := by
  rw [run_neq_struct, eqNd]
  rfl
def eqX (a b : En) : Bool := decide (a.b = b.b ∧ a.p = b.p ∧ a.o = b.o) && eqV a.v b.v
theorem eqX_iff {a b : En} : eqX a b = true ↔ a = b := by
  unfold eqX
  rw [Bool.and_eq_true, eqV_iff, decide_eq_true_eq]
  constructor
  · rintro ⟨⟨h1, h2, h3⟩, h4⟩
    cases a; cases b
    simp only at h1 h2 h3 h4
    subst h1 h2 h3 h4
    rfl
  · rintro rfl
    exact ⟨⟨rfl, rfl, rfl⟩, rfl⟩
theorem eqEn (x y : En) (w : World) : (Op.equalIn 10000 58 (.agg x.cs) (.agg y.cs)).run Try.prog w = .ok (eqX x y) w := by
  obtain ⟨a, b, c, v⟩ := x
  obtain ⟨a', b', c', v'⟩ := y
  obtain ⟨d, e, f, h⟩ := v
  obtain ⟨d', e', f', h'⟩ := v'
  show (Op.equalIn 10000 58 (.agg #[.int .i64 a, .int .i64 b, .int .i64 c, .int .u64 d, .int .u32 e, .int .u64 f, .int .u16 h]) (.agg #[.int .i64 a', .int .i64 b', .int .i64 c', .int .u64 d', .int .u32 e', .int .u64 f', .int .u16 h'])).run Try.prog w = _
  rw [show (10000 : Nat) = 9999 + 1 from rfl, Op.equalIn]
  simp only [Sem.run_bind, run_underlying Try.underlying58, Result.andThen_ok]
  go_simp
  unfold eqX eqV
  repeat' split
  all_goals simp [*]
theorem gdX : Try.prog.eqGuardType Try.prog.depth 58 = false := by kernel_rfl
theorem eqgX (op : BinOp) (x y : Operand) (a b : En) (w : World) : (eqGuard op 58 x y (.agg a.cs) (.agg b.cs)).run Try.prog w = .ok () w := run_eqGuard_agg w op _ x y _ _ gdX
theorem eqlX (a b : En) (w : World) : (binOp .eql 58 (.agg a.cs) (.agg b.cs)).run Try.prog w = .ok (.bool (eqX a b)) w := by
  rw [run_eql_struct, eqEn]
  rfl
end Go.Proofs.Ytcagdfdhpbeolaa
