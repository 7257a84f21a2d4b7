/-
  What bridges tell and hear, root ports, roles: as plain functions, and what holds of them. Plain laws.
-/
import Derived.Test.YtcagdfdhpbeolaaGr
namespace Go.Proofs.Ytcagdfdhpbeolaa
set_option linter.unusedVariables false
set_option maxRecDepth 4000
set_option linter.unusedSimpArgs false

/-- A vector as one number. -/
def vk (v : V4) : Nat := ((v.r.toNat * 4294967296 + v.c.toNat) * 18446744073709551616 + v.b.toNat) * 65536 + v.p.toNat
theorem bet_vk {a b : V4} (ha : a.wf) (hb : b.wf) : betV a b = decide (vk a < vk b) := by
  obtain ⟨r, c, x, p⟩ := a
  obtain ⟨r', c', x', p'⟩ := b
  obtain ⟨h1, h2, h3, h4⟩ := ha
  obtain ⟨k1, k2, k3, k4⟩ := hb
  simp only at h1 h2 h3 h4 k1 k2 k3 k4
  unfold betV
  apply decide_eq_decide.mpr
  unfold cmpV vk
  simp only
  (repeat' split) <;> omega
theorem vk_inj {a b : V4} (ha : a.wf) (hb : b.wf) (h : vk a = vk b) : a = b := by
  obtain ⟨r, c, x, p⟩ := a
  obtain ⟨r', c', x', p'⟩ := b
  obtain ⟨h1, h2, h3, h4⟩ := ha
  obtain ⟨k1, k2, k3, k4⟩ := hb
  simp only at h1 h2 h3 h4 k1 k2 k3 k4
  unfold vk at h
  simp only at h
  have e1 : r = r' := by omega
  have e2 : c = c' := by omega
  have e3 : x = x' := by omega
  have e4 : p = p' := by omega
  rw [e1, e2, e3, e4]
/-- What a bridge tells on a port. -/
def toldV (ids : List Nat) (L : List Ne) (i p : Nat) : V4 := ⟨(key ids L i / 4294967296 : Nat), (key ids L i % 4294967296 : Nat), (ids.getD i 0 : Nat), 32769 + (p : Int)⟩
/-- What is heard on a side. -/
def hearV (ids : List Nat) (L : List Ne) (s : Ne) : V4 := ⟨(key ids L s.b / 4294967296 : Nat), (key ids L s.b % 4294967296 + s.ca : Nat), (ids.getD s.b 0 : Nat), 32769 + (s.pb : Int)⟩
theorem ids_u64 {ids : List Nat} {L : List Ne} (g : Gok ids L) (i : Nat) : ids.getD i 0 < 18446744073709551616 := by
  rw [List.getD_eq_getElem?_getD]
  cases h : ids[i]? with
  | none => decide
  | some x => exact g.u64 x (List.mem_of_getElem? h)
theorem key_most {ids : List Nat} {L : List Ne} (g : Gok ids L) {i : Nat} (hi : i < ids.length) : key ids L i / 4294967296 < 18446744073709551616 ∧ key ids L i % 4294967296 ≤ 1200000000 ∧ ∃ v, v < ids.length ∧ key ids L i / 4294967296 = ids.getD v 0 := by
  obtain ⟨h, e⟩ := ndAt_ni g (fun _ => 0)
  obtain ⟨v, hv, h1, h2⟩ := h.most g hi
  have h3 := h.u64 g hi
  have hx : gtN (ndAt ids L fun _ => 0) i = ⟨key ids L i / 4294967296, key ids L i % 4294967296, 0⟩ := by
    unfold gtN
    rw [List.getD_eq_getElem?_getD, ndAt_at _ hi]
    rfl
  rw [hx] at h1 h2 h3
  exact ⟨h3, h2, v, hv, h1⟩
theorem toldV_wf {ids : List Nat} {L : List Ne} (g : Gok ids L) {i p : Nat} (hi : i < ids.length) (hp : p ≤ 7) : (toldV ids L i p).wf := by
  obtain ⟨h1, h2, _⟩ := key_most g hi
  have h3 := ids_u64 g i
  refine ⟨?_, ?_, ?_, ?_⟩ <;> simp only [toldV] <;> omega
theorem hearV_wf {ids : List Nat} {L : List Ne} (g : Gok ids L) {s : Ne} (hs : s ∈ sdl L) : (hearV ids L s).wf := by
  have hg := g.side s hs
  obtain ⟨h1, h2, _⟩ := key_most g hg.2.1
  have h3 := ids_u64 g s.b
  refine ⟨?_, ?_, ?_, ?_⟩ <;> simp only [hearV] <;> omega
theorem vk_told {ids : List Nat} {L : List Ne} (i p : Nat) : vk (toldV ids L i p) = (key ids L i * 18446744073709551616 + ids.getD i 0) * 65536 + 32769 + p := by
  unfold vk toldV
  simp only
  omega
theorem vk_hear {ids : List Nat} {L : List Ne} (s : Ne) : vk (hearV ids L s) = ((key ids L s.b + s.ca) * 18446744073709551616 + ids.getD s.b 0) * 65536 + 32769 + s.pb := by
  unfold vk hearV
  simp only
  omega
/-- The sides of a bridge. -/
def mine (L : List Ne) (i : Nat) : List Ne := (sdl L).filter fun s => decide ((s.a : Int) = (i : Int))
theorem mem_mine {L : List Ne} {i : Nat} {s : Ne} : s ∈ mine L i ↔ s ∈ sdl L ∧ s.a = i := by
  unfold mine
  rw [List.mem_filter, decide_eq_true_eq]
  constructor
  · rintro ⟨h1, h2⟩; exact ⟨h1, by omega⟩
  · rintro ⟨h1, h2⟩; exact ⟨h1, by omega⟩
def zeroV : V4 := ⟨0, 0, 0, 0⟩
theorem zeroV_wf : zeroV.wf := ⟨by simp [zeroV], by simp [zeroV], by simp [zeroV], by simp [zeroV]⟩
def gtV (l : List V4) (i : Nat) : V4 := l.getD i zeroV
theorem gtV_at {l : List V4} {i : Nat} (h : i < l.length) : l[i]? = some (gtV l i) := by
  unfold gtV
  rw [List.getD_eq_getElem?_getD, List.getElem?_eq_getElem h]
  rfl
theorem gtV_wf {l : List V4} (h : ∀ v ∈ l, v.wf) (i : Nat) : (gtV l i).wf := by
  unfold gtV
  by_cases hi : i < l.length
  · rw [List.getD_eq_getElem?_getD, List.getElem?_eq_getElem hi]
    exact h _ (List.getElem_mem hi)
  · rw [List.getD_eq_getElem?_getD, List.getElem?_eq_none (by omega)]
    exact zeroV_wf
/-- The place of the best one of the first i. -/
def bestAt (l : List V4) : Nat → Int
  | 0 => -1
  | i + 1 => if bestAt l i < 0 ∨ betV (gtV l i) (gtV l (bestAt l i).toNat) = true then i else bestAt l i
theorem bestAt_in (l : List V4) (i : Nat) : -1 ≤ bestAt l i ∧ bestAt l i < i ∧ (0 < i → 0 ≤ bestAt l i) := by
  induction i with
  | zero => simp [bestAt]
  | succ i ih =>
    unfold bestAt
    split
    · omega
    · next h => simp at h; omega
theorem bestAt_best {l : List V4} (hw : ∀ v ∈ l, v.wf) (i : Nat) : ∀ j, j < i → vk (gtV l (bestAt l i).toNat) ≤ vk (gtV l j) := by
  induction i with
  | zero => intro j hj; omega
  | succ i ih =>
    intro j hj
    have hin := bestAt_in l i
    rw [bestAt]
    split
    · next h =>
      rw [show ((i : Int)).toNat = i by omega]
      by_cases e : j = i
      · rw [e]; exact Nat.le_refl _
      · have h1 := ih j (by omega)
        rcases h with h | h
        · have := hin.2.2 (by omega); omega
        · rw [bet_vk (gtV_wf hw _) (gtV_wf hw _), decide_eq_true_eq] at h
          omega
    · next h =>
      by_cases e : j = i
      · subst e
        have : ¬ betV (gtV l j) (gtV l (bestAt l j).toNat) = true := fun q => h (.inr q)
        rw [bet_vk (gtV_wf hw _) (gtV_wf hw _), decide_eq_true_eq] at this
        omega
      · exact ih j (by omega)
def heardL (ids : List Nat) (L : List Ne) (i : Nat) : List V4 := (mine L i).map (hearV ids L)
def placeL (L : List Ne) (i : Nat) : List Int := (mine L i).map fun s => (s.pa : Int)
theorem heardL_wf {ids : List Nat} {L : List Ne} (g : Gok ids L) (i : Nat) : ∀ v ∈ heardL ids L i, v.wf := by
  intro v hv
  obtain ⟨s, hs, rfl⟩ := List.mem_map.1 hv
  exact hearV_wf g (mem_mine.1 hs).1
/-- Where a bridge hears the best. -/
def bestI (ids : List Nat) (L : List Ne) (i : Nat) : Nat := (bestAt (heardL ids L i) (heardL ids L i).length).toNat
def portAt (ids : List Nat) (L : List Ne) (i : Nat) : Int := (placeL L i).getD (bestI ids L i) 0
/-- Its root port. -/
def rpOf (ids : List Nat) (L : List Ne) (i : Nat) : Int := if key ids L i / 4294967296 = ids.getD i 0 then -1 else portAt ids L i
/-- A side on which a bridge hears the best. -/
structure Bst (ids : List Nat) (L : List Ne) (i : Nat) (s : Ne) : Prop where
  mem : s ∈ sdl L
  me : s.a = i
  best : ∀ t ∈ sdl L, t.a = i → vk (hearV ids L s) ≤ vk (hearV ids L t)
theorem bst_port {ids : List Nat} {L : List Ne} (g : Gok ids L) {i : Nat} (h : mine L i ≠ []) : ∃ s, Bst ids L i s ∧ portAt ids L i = (s.pa : Int) := by
  have hl : 0 < (heardL ids L i).length := by unfold heardL; rw [List.length_map]; exact List.length_pos_iff.2 h
  obtain ⟨h1, h2, h3⟩ := bestAt_in (heardL ids L i) (heardL ids L i).length
  have h4 := h3 hl
  have hk : bestI ids L i < (mine L i).length := by
    unfold bestI
    have : (heardL ids L i).length = (mine L i).length := by unfold heardL; rw [List.length_map]
    omega
  obtain ⟨s, hs⟩ := lt_nth hk
  have hb := bestAt_best (heardL_wf g i) (heardL ids L i).length
  have hat : ∀ {j : Nat} {t : Ne}, (mine L i)[j]? = some t → gtV (heardL ids L i) j = hearV ids L t := fun {j t} ht => by
    unfold gtV heardL
    rw [List.getD_eq_getElem?_getD, List.getElem?_map, ht]
    rfl
  have hm := mem_mine.1 (List.mem_of_getElem? hs)
  refine ⟨s, ⟨hm.1, hm.2, fun t ht hti => ?_⟩, ?_⟩
  · obtain ⟨j, hj, e⟩ := List.mem_iff_getElem.1 (mem_mine.2 ⟨ht, hti⟩)
    have hj' : (mine L i)[j]? = some t := by rw [List.getElem?_eq_getElem hj, e]
    have := hb j (by unfold heardL; rw [List.length_map]; exact hj)
    rw [hat hj', hat (j := (bestAt (heardL ids L i) (heardL ids L i).length).toNat) hs] at this
    exact this
  · unfold portAt placeL
    rw [List.getD_eq_getElem?_getD, List.getElem?_map, hs]
    rfl
theorem getD_inj {ids : List Nat} {L : List Ne} (g : Gok ids L) {i j : Nat} (hi : i < ids.length) (hj : j < ids.length) (h : ids.getD i 0 = ids.getD j 0) : i = j := by
  obtain ⟨x, hx⟩ := lt_nth hi
  obtain ⟨y, hy⟩ := lt_nth hj
  rw [List.getD_eq_getElem?_getD, List.getD_eq_getElem?_getD, hx, hy] at h
  simp only [Option.getD_some] at h
  subst h
  exact g.inj i j x hx hy
theorem side_one {ids : List Nat} {L : List Ne} (g : Gok ids L) {s t : Ne} (hs : s ∈ sdl L) (ht : t ∈ sdl L) (h1 : s.a = t.a) (h2 : s.pa = t.pa) : s = t := by
  obtain ⟨i, hi, e1⟩ := List.mem_iff_getElem.1 hs
  obtain ⟨j, hj, e2⟩ := List.mem_iff_getElem.1 ht
  have h3 : (sdl L)[i]? = some s := by rw [List.getElem?_eq_getElem hi, e1]
  have h4 : (sdl L)[j]? = some t := by rw [List.getElem?_eq_getElem hj, e2]
  have := g.port i j s t h3 h4 h1 h2
  subst this
  rw [h3] at h4
  exact Option.some.inj h4
theorem Bst.one {ids : List Nat} {L : List Ne} (g : Gok ids L) {i : Nat} {s t : Ne} (h : Bst ids L i s) (k : Bst ids L i t) : s = t := by
  have h1 := h.best t k.mem k.me
  have h2 := k.best s h.mem h.me
  have e := vk_inj (hearV_wf g h.mem) (hearV_wf g k.mem) (by omega)
  unfold hearV at e
  simp only [V4.mk.injEq] at e
  have hb : s.b = t.b := getD_inj g (g.side s h.mem).2.1 (g.side t k.mem).2.1 (by omega)
  have ht := side_one g (sdl_turn h.mem) (sdl_turn k.mem) hb (by show s.pb = t.pb; omega)
  have := congrArg Ne.turn ht
  rwa [Ne.turn_turn, Ne.turn_turn] at this
/-! ### what holds of roots -/
def isRoot (ids : List Nat) (L : List Ne) (i : Nat) : Prop := key ids L i / 4294967296 = ids.getD i 0
theorem key_low {ids : List Nat} {L : List Ne} (g : Gok ids L) {i : Nat} (hi : i < ids.length) : key ids L i ≤ ids.getD i 0 * 4294967296 := (key_least g).low i hi
theorem root_key {ids : List Nat} {L : List Ne} (g : Gok ids L) {i : Nat} (hi : i < ids.length) (h : isRoot ids L i) : key ids L i = ids.getD i 0 * 4294967296 := by
  have := key_low g hi
  unfold isRoot at h
  omega
theorem key_fix {ids : List Nat} {L : List Ne} (g : Gok ids L) {s : Ne} (hs : s ∈ sdl L) : key ids L s.a ≤ key ids L s.b + s.ca := (key_least g).fix s.st (List.mem_map_of_mem hs)
theorem val_inv {S : List St} {f : Nat → Nat} {i x : Nat} (h : Val S f i x) : x = f i ∨ ∃ s ∈ S, s.me = i ∧ ∃ y, Val S f s.you y ∧ x = y + s.c := by
  induction h using Val.ind with
  | own v => exact .inl rfl
  | go s x hs hv _ => exact .inr ⟨s, hs, rfl, x, hv, rfl⟩
/-- A bridge that is no root has a side over which its cost is the least. -/
theorem nonroot_side {ids : List Nat} {L : List Ne} (g : Gok ids L) {i : Nat} (hi : i < ids.length) (h : ¬ isRoot ids L i) : ∃ s ∈ sdl L, s.a = i ∧ key ids L i = key ids L s.b + s.ca := by
  rcases val_inv ((key_least g).val i hi) with e | ⟨s, hs, hm, y, hv, e⟩
  · refine absurd ?_ h
    unfold isRoot
    rw [e]
    unfold init
    omega
  · obtain ⟨x, hx, rfl⟩ := List.mem_map.1 hs
    have h1 := key_fix g hx
    have h2 := (key_least g).le g.st hv (g.side x hx).2.1
    simp only [Ne.st] at hm h2 e
    subst hm
    exact ⟨x, hx, rfl, by omega⟩
theorem mine_ne {ids : List Nat} {L : List Ne} (g : Gok ids L) {i : Nat} (hi : i < ids.length) (h : ¬ isRoot ids L i) : mine L i ≠ [] := by
  obtain ⟨s, hs, hm, _⟩ := nonroot_side g hi h
  intro e
  have := mem_mine.2 ⟨hs, hm⟩
  rw [e] at this
  cases this
theorem bst_key {ids : List Nat} {L : List Ne} (g : Gok ids L) {i : Nat} (hi : i < ids.length) (h : ¬ isRoot ids L i) {s : Ne} (hb : Bst ids L i s) : key ids L i = key ids L s.b + s.ca := by
  obtain ⟨t, ht, hm, e⟩ := nonroot_side g hi h
  have h1 := hb.best t ht hm
  have h2 := key_fix g hb.mem
  rw [hb.me] at h2
  rw [vk_hear, vk_hear] at h1
  have h3 := ids_u64 g s.b
  have h4 := ids_u64 g t.b
  have h5 := (g.side t ht).2.2.2.1
  have h6 := (g.side s hb.mem).2.2.2.1
  omega
theorem rp_side {ids : List Nat} {L : List Ne} (g : Gok ids L) {i : Nat} (hi : i < ids.length) (h : ¬ isRoot ids L i) : ∃ s, Bst ids L i s ∧ rpOf ids L i = (s.pa : Int) ∧ key ids L i = key ids L s.b + s.ca := by
  obtain ⟨s, hb, e⟩ := bst_port g (mine_ne g hi h)
  refine ⟨s, hb, ?_, bst_key g hi h hb⟩
  unfold rpOf
  exact (if_neg h).trans e
theorem rp_root {ids : List Nat} {L : List Ne} {i : Nat} (h : isRoot ids L i) : rpOf ids L i = -1 := if_pos h
/-- All bridges. -/
def nodesF (ids : List Nat) (L : List Ne) : List Nd := ndAt ids L (rpOf ids L)
/-! ### roles -/
def roleOf (ids : List Nat) (L : List Ne) (s : Ne) : Int := if rpOf ids L s.a = (s.pa : Int) then 3 else if vk (toldV ids L s.a s.pa) < vk (toldV ids L s.b s.pb) then 4 else 1
def vecOf (ids : List Nat) (L : List Ne) (s : Ne) : V4 := if vk (toldV ids L s.a s.pa) < vk (toldV ids L s.b s.pb) then toldV ids L s.a s.pa else toldV ids L s.b s.pb
def endOf (ids : List Nat) (L : List Ne) (s : Ne) : En := ⟨s.a, s.pa, roleOf ids L s, vecOf ids L s⟩
def endsF (ids : List Nat) (L : List Ne) : List En := (sdl L).map (endOf ids L)
def carB (ids : List Nat) (L : List Ne) (x : Ne) : Bool := decide (roleOf ids L x ≠ 1) && decide (roleOf ids L x.turn ≠ 1)
def treeTo (ids : List Nat) (L : List Ne) (m : Nat) : List Int := ((List.range m).filter fun i => match L[i]? with | some x => carB ids L x | none => false).map fun i : Nat => (i : Int)
def treeF (ids : List Nat) (L : List Ne) : List Int := treeTo ids L L.length
end Go.Proofs.Ytcagdfdhpbeolaa
