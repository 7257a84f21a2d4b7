/-
  Graphs that may be: roots and least costs as plain functions. Plain laws.
-/
import Derived.Test.YtcagdfdhpbeolaaWay
import Derived.Test.YtcagdfdhpbeolaaChk
namespace Go.Proofs.Ytcagdfdhpbeolaa
set_option linter.unusedVariables false
set_option maxRecDepth 4000
set_option linter.unusedSimpArgs false

/-- An edge of a graph that may be. -/
structure Ne where
  a : Nat
  pa : Nat
  b : Nat
  pb : Nat
  ca : Nat
  cb : Nat
def Ne.eg (x : Ne) : Eg := ⟨x.a, x.pa, x.b, x.pb, x.ca, x.cb⟩
def Ne.turn (x : Ne) : Ne := ⟨x.b, x.pb, x.a, x.pa, x.cb, x.ca⟩
theorem Ne.turn_eg (x : Ne) : x.turn.eg = x.eg.turn := rfl
theorem Ne.turn_turn (x : Ne) : x.turn.turn = x := rfl
def Ne.st (x : Ne) : St := ⟨x.a, x.b, x.ca⟩
def sdN (x : Ne) (j : Nat) : Ne := if j = 0 then x else x.turn
theorem sdN_eg (x : Ne) (j : Nat) : (sdN x j).eg = sdE x.eg j := by
  unfold sdN sdE
  split <;> rfl
/-- All edges, from both ends. -/
def sdl (L : List Ne) : List Ne := L.flatMap fun x => [x, x.turn]
theorem sdl_eg (L : List Ne) : sidesE (L.map Ne.eg) = (sdl L).map Ne.eg := by
  unfold sidesE sdl
  rw [List.flatMap_map, List.map_flatMap]
  rfl
theorem sdl_len (L : List Ne) : (sdl L).length = 2 * L.length := by
  have := sidesE_len (L.map Ne.eg)
  rw [sdl_eg, List.length_map, List.length_map] at this
  exact this
theorem sdl_at : ∀ {l : List Ne} {i j : Nat} {x : Ne}, l[i]? = some x → j < 2 → (sdl l)[2 * i + j]? = some (sdN x j)
  | [], i, j, x, h, _ => by simp at h
  | y :: l, 0, j, x, h, hj => by
    simp at h
    subst h
    unfold sdl
    rw [List.flatMap_cons]
    match j, hj with
    | 0, _ => rfl
    | 1, _ => rfl
  | y :: l, i + 1, j, x, h, hj => by
    have := sdl_at (l := l) (i := i) (x := x) (by simpa using h) hj
    unfold sdl at this ⊢
    rw [List.flatMap_cons, show 2 * (i + 1) + j = (2 * i + j) + 2 by omega]
    simpa using this
theorem sdl_turn {L : List Ne} {s : Ne} (h : s ∈ sdl L) : s.turn ∈ sdl L := by
  obtain ⟨x, hx, hs⟩ := List.mem_flatMap.1 h
  refine List.mem_flatMap.2 ⟨x, hx, ?_⟩
  simp only [List.mem_cons, List.not_mem_nil, or_false] at hs ⊢
  rcases hs with rfl | rfl
  · exact .inr rfl
  · exact .inl rfl
def steps (L : List Ne) : List St := (sdl L).map Ne.st
/-- A graph may be. -/
structure Gok (ids : List Nat) (L : List Ne) : Prop where
  n1 : 1 ≤ ids.length
  n7 : ids.length ≤ 7
  m24 : L.length ≤ 24
  u64 : ∀ x ∈ ids, x < 18446744073709551616
  inj : ∀ (i j x : Nat), ids[i]? = some x → ids[j]? = some x → i = j
  side : ∀ s ∈ sdl L, s.a < ids.length ∧ s.b < ids.length ∧ s.pa ≤ 7 ∧ s.pb ≤ 7 ∧ 1 ≤ s.ca ∧ s.ca ≤ 200000000 ∧ s.a ≠ s.b
  port : ∀ (i j : Nat) (s t : Ne), (sdl L)[i]? = some s → (sdl L)[j]? = some t → s.a = t.a → s.pa = t.pa → i = j
def toN (x : Eg) : Ne := ⟨x.a.toNat, x.pa.toNat, x.b.toNat, x.pb.toNat, x.ca.toNat, x.cb.toNat⟩
theorem wrong_no {n : Int} {x : Eg} (h : wrongE n x = false) : 0 ≤ x.a ∧ x.a ≤ n - 1 ∧ 0 ≤ x.pa ∧ x.pa ≤ 7 ∧ 1 ≤ x.ca ∧ x.ca ≤ 200000000 ∧ 0 ≤ x.b ∧ x.b ≤ n - 1 ∧ 0 ≤ x.pb ∧ x.pb ≤ 7 ∧ 1 ≤ x.cb ∧ x.cb ≤ 200000000 ∧ x.a ≠ x.b := by
  unfold wrongE badE Eg.turn at h
  simp only [Bool.or_eq_false_iff, Bool.not_eq_false', decide_eq_true_eq, decide_eq_false_iff_not] at h
  omega
theorem toN_eg {n : Int} {x : Eg} (h : wrongE n x = false) : (toN x).eg = x := by
  have := wrong_no h
  obtain ⟨a, pa, b, pb, ca, cb⟩ := x
  simp only [toN, Ne.eg, Eg.mk.injEq]
  simp only at this
  omega
theorem lt_nth {α : Type} {l : List α} {i : Nat} (h : i < l.length) : ∃ x, l[i]? = some x := ⟨_, List.getElem?_eq_getElem h⟩
theorem gok_of {ids : List Nat} {es : List Eg} (h : chkI ids es = true) (hl : ∀ x ∈ ids, x < 18446744073709551616) : ∃ L : List Ne, es = L.map Ne.eg ∧ Gok ids L := by
  unfold chkI at h
  simp only [Bool.and_eq_true, Bool.not_eq_true', decide_eq_true_eq, decide_eq_false_iff_not] at h
  obtain ⟨⟨⟨⟨h1, h2⟩, h3⟩, h4⟩, h5⟩ := h
  have hx : ∀ x ∈ es, wrongE (ids.length : Int) x = false := fun x hx => by
    have := List.any_eq_false.1 h4 x hx
    cases e : wrongE (ids.length : Int) x with
    | false => rfl
    | true => exact absurd e this
  have he : es = (es.map toN).map Ne.eg := by
    rw [List.map_map]
    conv => lhs; rw [← List.map_id es]
    exact List.map_congr_left fun x hx' => (toN_eg (hx x hx')).symm
  refine ⟨es.map toN, he, ⟨by omega, by omega, by rw [List.length_map]; omega, hl, fun i j x hi hj => ?_, fun s hs => ?_, fun i j s t hi hj e1 e2 => ?_⟩⟩
  · rcases Nat.lt_trichotomy i j with hij | hij | hij
    · have := dup_not h3 (asI_at hj)
      rw [List.any_eq_false] at this
      exact absurd (show sameA (x : Int) (x : Int) = true by simp [sameA]) (this (x : Int) (List.mem_of_getElem? (i := i) (by rw [List.getElem?_take, if_pos hij]; exact asI_at hi)))
    · exact hij
    · have := dup_not h3 (asI_at hi)
      rw [List.any_eq_false] at this
      exact absurd (show sameA (x : Int) (x : Int) = true by simp [sameA]) (this (x : Int) (List.mem_of_getElem? (i := j) (by rw [List.getElem?_take, if_pos hij]; exact asI_at hj)))
  · obtain ⟨y, hy, hs⟩ := List.mem_flatMap.1 hs
    obtain ⟨x, hx', rfl⟩ := List.mem_map.1 hy
    have := wrong_no (hx x hx')
    simp only [List.mem_cons, List.not_mem_nil, or_false] at hs
    rcases hs with rfl | rfl
    · simp only [toN]; omega
    · simp only [toN, Ne.turn]; omega
  · have pt : ∀ {k : Nat} {s : Ne}, (sdl (es.map toN))[k]? = some s → (portsE es)[k]? = some ((s.a : Int), (s.pa : Int)) := fun {k s} hk => by
      unfold portsE
      rw [he, sdl_eg, List.map_map, List.getElem?_map, hk]
      rfl
    have sm : sameP ((s.a : Int), (s.pa : Int)) ((t.a : Int), (t.pa : Int)) = true := by simp [sameP, e1, e2]
    have sm' : sameP ((t.a : Int), (t.pa : Int)) ((s.a : Int), (s.pa : Int)) = true := by simp [sameP, e1, e2]
    rcases Nat.lt_trichotomy i j with hij | hij | hij
    · have := dup_not h5 (pt hj)
      rw [List.any_eq_false] at this
      exact absurd sm' (this _ (List.mem_of_getElem? (i := i) (by rw [List.getElem?_take, if_pos hij]; exact pt hi)))
    · exact hij
    · have := dup_not h5 (pt hi)
      rw [List.any_eq_false] at this
      exact absurd sm (this _ (List.mem_of_getElem? (i := j) (by rw [List.getElem?_take, if_pos hij]; exact pt hj)))
theorem Gok.st {ids : List Nat} {L : List Ne} (g : Gok ids L) : ∀ s ∈ steps L, s.me < ids.length ∧ s.you < ids.length := by
  intro s hs
  obtain ⟨x, hx, rfl⟩ := List.mem_map.1 hs
  have := g.side x hx
  exact ⟨this.1, this.2.1⟩
theorem Gok.cost {ids : List Nat} {L : List Ne} (g : Gok ids L) : ∀ s ∈ steps L, s.c ≤ 200000000 := by
  intro s hs
  obtain ⟨x, hx, rfl⟩ := List.mem_map.1 hs
  have := g.side x hx
  exact this.2.2.2.2.2.1
/-- What a bridge begins with: itself, at no cost; root and cost are one number. -/
def init (ids : List Nat) (i : Nat) : Nat := ids.getD i 0 * 4294967296
/-- What each bridge comes to. -/
def key (ids : List Nat) (L : List Ne) : Nat → Nat := rounds' (steps L) (init ids) ids.length
theorem key_least {ids : List Nat} {L : List Ne} (g : Gok ids L) : Least (steps L) (init ids) ids.length (key ids L) := rounds_least g.st
/-! ### rows of nodes -/
def zN : Nd := ⟨0, 0, 0⟩
def Nd.key (x : Nd) : Nat := x.r * 4294967296 + x.c
def gtN (N : List Nd) (i : Nat) : Nd := N.getD i zN
theorem gtN_at {N : List Nd} {i : Nat} (h : i < N.length) : N[i]? = some (gtN N i) := by
  unfold gtN
  rw [List.getD_eq_getElem?_getD, List.getElem?_eq_getElem h]
  rfl
def lab (N : List Nd) (i : Nat) : Nat := (gtN N i).key
theorem gtN_set {N : List Nd} {i : Nat} (h : i < N.length) (x : Nd) (j : Nat) : gtN (N.set i x) j = if j = i then x else gtN N j := by
  unfold gtN
  rw [List.getD_eq_getElem?_getD, List.getD_eq_getElem?_getD, List.getElem?_set]
  by_cases e : i = j
  · subst e
    rw [if_pos rfl, if_pos rfl, if_pos h]
    rfl
  · rw [if_neg e, if_neg (fun e' => e e'.symm)]
structure NI (ids : List Nat) (L : List Ne) (N : List Nd) : Prop where
  len : N.length = ids.length
  inv : Inv (steps L) (init ids) ids.length (lab N)
  c32 : ∀ i, (gtN N i).c < 4294967296
theorem NI.most {ids : List Nat} {L : List Ne} {N : List Nd} (h : NI ids L N) (g : Gok ids L) {i : Nat} (hi : i < ids.length) : ∃ v, v < ids.length ∧ (gtN N i).r = ids.getD v 0 ∧ (gtN N i).c ≤ 1200000000 := by
  obtain ⟨v, k, hv, e, hk⟩ := h.inv.most g.st g.cost hi
  have h7 := g.n7
  have h1 : ids.length * 200000000 ≤ 7 * 200000000 := Nat.mul_le_mul_right _ h7
  have hc := h.c32 i
  unfold lab Nd.key init at e
  refine ⟨v, hv, by omega, by omega⟩
theorem NI.u64 {ids : List Nat} {L : List Ne} {N : List Nd} (h : NI ids L N) (g : Gok ids L) {i : Nat} (hi : i < ids.length) : (gtN N i).r < 18446744073709551616 := by
  obtain ⟨v, hv, e, _⟩ := h.most g hi
  rw [e, List.getD_eq_getElem?_getD, List.getElem?_eq_getElem hv]
  exact g.u64 _ (List.getElem_mem hv)
theorem NI.sum {ids : List Nat} {L : List Ne} {N : List Nd} (h : NI ids L N) (g : Gok ids L) {s : Ne} (hs : s ∈ sdl L) : (gtN N s.b).c + s.ca < 4294967296 := by
  obtain ⟨v, _, _, hc⟩ := h.most g (g.side s hs).2.1
  have := (g.side s hs).2.2.2.2.2.1
  omega
/-- Would a side lead nearer? -/
def near (N : List Nd) (s : Ne) : Bool := decide ((gtN N s.b).r < (gtN N s.a).r ∨ ((gtN N s.b).r = (gtN N s.a).r ∧ (gtN N s.b).c + s.ca < (gtN N s.a).c))
theorem near_iff {ids : List Nat} {L : List Ne} {N : List Nd} (h : NI ids L N) (g : Gok ids L) {s : Ne} (hs : s ∈ sdl L) : near N s = true ↔ lab N s.b + s.ca < lab N s.a := by
  have h1 := h.sum g hs
  have h2 := h.c32 s.a
  unfold near lab Nd.key
  rw [decide_eq_true_eq]
  omega
/-- The row behind a step that leads nearer. -/
def go1 (N : List Nd) (s : Ne) (p : Int) : List Nd := N.set s.a ⟨(gtN N s.b).r, (gtN N s.b).c + s.ca, p⟩
theorem go1_lab {ids : List Nat} {L : List Ne} {N : List Nd} (h : NI ids L N) (g : Gok ids L) {s : Ne} (hs : s ∈ sdl L) (hn : near N s = true) (p : Int) : lab (go1 N s p) = relax (lab N) s.st := by
  have ha : s.a < N.length := by rw [h.len]; exact (g.side s hs).1
  have hlt := (near_iff h g hs).1 hn
  funext i
  unfold relax lab go1
  rw [gtN_set ha]
  by_cases e : i = s.a
  · rw [if_pos e, if_pos ⟨e, hlt⟩]
    unfold Nd.key Ne.st
    simp only
    omega
  · rw [if_neg e, if_neg (fun x => e x.1)]
theorem near_no {ids : List Nat} {L : List Ne} {N : List Nd} (h : NI ids L N) (g : Gok ids L) {s : Ne} (hs : s ∈ sdl L) (hn : near N s = false) : relax (lab N) s.st = lab N := by
  have hlt : ¬ (lab N s.b + s.ca < lab N s.a) := fun e => by rw [(near_iff h g hs).2 e] at hn; cases hn
  funext i
  unfold relax
  rw [if_neg (fun x => hlt x.2)]
theorem go1_ni {ids : List Nat} {L : List Ne} {N : List Nd} (h : NI ids L N) (g : Gok ids L) {s : Ne} (hs : s ∈ sdl L) (hn : near N s = true) (p : Int) : NI ids L (go1 N s p) := by
  have ha : s.a < N.length := by rw [h.len]; exact (g.side s hs).1
  refine ⟨by unfold go1; rw [List.length_set]; exact h.len, ?_, fun i => ?_⟩
  · rw [go1_lab h g hs hn]
    exact h.inv.relax g.st (List.mem_map_of_mem hs)
  · unfold go1
    rw [gtN_set ha]
    split
    · exact h.sum g hs
    · exact h.c32 i
theorem go1_less {ids : List Nat} {L : List Ne} {N : List Nd} (h : NI ids L N) (g : Gok ids L) {s : Ne} (hs : s ∈ sdl L) (hn : near N s = true) (p : Int) : total (lab (go1 N s p)) ids.length < total (lab N) ids.length := by
  rw [go1_lab h g hs hn]
  refine total_lt _ (fun i _ => relax_le _ _ i) ⟨s.a, (g.side s hs).1, ?_⟩
  have hlt := (near_iff h g hs).1 hn
  unfold relax
  rw [if_pos ⟨rfl, hlt⟩]
  exact hlt
/-- The row that bridges begin with. -/
def begin' (ids : List Nat) (p : Int) : List Nd := ids.map fun x => ⟨x, 0, p⟩
theorem begin_at (ids : List Nat) (p : Int) (i : Nat) : (gtN (begin' ids p) i).r = ids.getD i 0 ∧ (gtN (begin' ids p) i).c = 0 := by
  unfold begin' gtN
  rw [List.getD_eq_getElem?_getD, List.getElem?_map, List.getD_eq_getElem?_getD]
  cases ids[i]? with
  | none => exact ⟨rfl, rfl⟩
  | some x => exact ⟨rfl, rfl⟩
theorem begin_lab (ids : List Nat) (p : Int) : lab (begin' ids p) = init ids := by
  funext i
  obtain ⟨h1, h2⟩ := begin_at ids p i
  unfold lab Nd.key init
  rw [h1, h2, Nat.add_zero]
theorem begin_ni (ids : List Nat) (L : List Ne) (p : Int) : NI ids L (begin' ids p) := by
  refine ⟨List.length_map .., by rw [begin_lab]; exact Inv.start _ _ _, fun i => ?_⟩
  unfold begin' gtN
  rw [List.getD_eq_getElem?_getD, List.getElem?_map]
  cases ids[i]? with
  | none => simp [zN]
  | some x => simp
/-- All bridges, as they are in the end. -/
def ndAt (ids : List Nat) (L : List Ne) (p : Nat → Int) : List Nd := (List.range ids.length).map fun i => ⟨key ids L i / 4294967296, key ids L i % 4294967296, p i⟩
theorem ndAt_len (ids : List Nat) (L : List Ne) (p : Nat → Int) : (ndAt ids L p).length = ids.length := by unfold ndAt; rw [List.length_map, List.length_range]
theorem ndAt_at {ids : List Nat} {L : List Ne} (p : Nat → Int) {i : Nat} (h : i < ids.length) : (ndAt ids L p)[i]? = some ⟨key ids L i / 4294967296, key ids L i % 4294967296, p i⟩ := by
  unfold ndAt
  rw [List.getElem?_map, List.getElem?_range h]
  rfl
theorem ndAt_of {ids : List Nat} {L : List Ne} {N : List Nd} {p : Nat → Int} (h : NI ids L N) (hk : ∀ i, i < ids.length → lab N i = key ids L i) (hp : ∀ i, i < ids.length → (gtN N i).p = p i) : N = ndAt ids L p := by
  refine List.ext_getElem? fun i => ?_
  by_cases hi : i < ids.length
  · rw [ndAt_at p hi, gtN_at (by rw [h.len]; exact hi), ← hk i hi, ← hp i hi]
    have := h.c32 i
    unfold lab Nd.key
    generalize gtN N i = x at *
    obtain ⟨r, c, q⟩ := x
    simp only at this ⊢
    rw [show (r * 4294967296 + c) / 4294967296 = r by omega, show (r * 4294967296 + c) % 4294967296 = c by omega]
  · rw [List.getElem?_eq_none (by rw [h.len]; omega), List.getElem?_eq_none (by rw [ndAt_len]; omega)]
theorem ndAt_ni {ids : List Nat} {L : List Ne} (g : Gok ids L) (p : Nat → Int) : NI ids L (ndAt ids L p) ∧ ∀ i, i < ids.length → lab (ndAt ids L p) i = key ids L i := by
  have hinv : Inv (steps L) (init ids) ids.length (key ids L) := rounds_inv g.st _
  have hl : ∀ i, i < ids.length → lab (ndAt ids L p) i = key ids L i := fun i hi => by
    unfold lab gtN
    rw [List.getD_eq_getElem?_getD, ndAt_at p hi]
    simp only [Option.getD_some, Nd.key]
    omega
  have ho : ∀ i, ¬ i < ids.length → key ids L i = 0 := fun i hi => by
    have h0 := hinv.1 i
    unfold init at h0
    rw [List.getD_eq_getElem?_getD, List.getElem?_eq_none (by omega)] at h0
    simpa using h0
  have e : lab (ndAt ids L p) = key ids L := by
    funext i
    by_cases hi : i < ids.length
    · exact hl i hi
    · rw [ho i hi]
      unfold lab gtN
      rw [List.getD_eq_getElem?_getD, List.getElem?_eq_none (by rw [ndAt_len]; omega)]
      rfl
  refine ⟨⟨ndAt_len _ _ _, by rw [e]; exact hinv, fun i => ?_⟩, hl⟩
  unfold gtN
  rw [List.getD_eq_getElem?_getD]
  by_cases hi : i < ids.length
  · rw [ndAt_at p hi]
    exact Nat.mod_lt _ (by decide)
  · rw [List.getElem?_eq_none (by rw [ndAt_len]; omega)]
    decide
/-- Where no side leads nearer, all is as it is in the end. -/
theorem done_key {ids : List Nat} {L : List Ne} {N : List Nd} (h : NI ids L N) (g : Gok ids L) (hf : ∀ s ∈ sdl L, near N s = false) : ∀ i, i < ids.length → lab N i = key ids L i := by
  intro i hi
  refine Least.one (Least.of h.inv ?_) (key_least g) g.st g.st (fun _ h => h) (fun _ h => h) i hi
  intro s hs
  obtain ⟨x, hx, rfl⟩ := List.mem_map.1 hs
  have := hf x hx
  refine Decidable.byContradiction fun hc => ?_
  rw [(near_iff h g hx).2 (by show lab N x.b + x.ca < lab N x.a; have := hc; simp only [Ne.st] at this; omega)] at this
  cases this
end Go.Proofs.Ytcagdfdhpbeolaa
