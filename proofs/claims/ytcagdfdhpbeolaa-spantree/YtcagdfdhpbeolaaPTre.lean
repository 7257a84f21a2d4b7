/-
  The edges that carry: they join what the graph joins, and there are as many as bridges that are no root. Plain laws.
-/
import Derived.Test.YtcagdfdhpbeolaaPFit
namespace Go.Proofs.Ytcagdfdhpbeolaa
set_option linter.unusedVariables false
set_option maxRecDepth 4000
set_option linter.unusedSimpArgs false

/-- The places of the edges that carry, among the first m. -/
def carP (ids : List Nat) (L : List Ne) (m : Nat) : List Nat := (List.range m).filter fun i => match L[i]? with | some x => carB ids L x | none => false
theorem treeTo_car (ids : List Nat) (L : List Ne) (m : Nat) : treeTo ids L m = (carP ids L m).map fun i : Nat => (i : Int) := rfl
theorem carP_mem {ids : List Nat} {L : List Ne} {m i : Nat} : i ∈ carP ids L m ↔ i < m ∧ ∃ x, L[i]? = some x ∧ carB ids L x = true := by
  unfold carP
  rw [List.mem_filter, List.mem_range]
  cases h : L[i]? with
  | none => simp
  | some x => simp
theorem carP_nodup (ids : List Nat) (L : List Ne) (m : Nat) : (carP ids L m).Nodup := by
  unfold carP
  exact List.Nodup.sublist (List.filter_sublist ..) List.nodup_range
theorem carP_rises (ids : List Nat) (L : List Ne) (m : Nat) : (carP ids L m).Pairwise (· < ·) := by
  unfold carP
  exact List.Pairwise.sublist (List.filter_sublist ..) List.pairwise_lt_range
/-- The edges that carry. -/
def carL (ids : List Nat) (L : List Ne) : List Ne := (carP ids L L.length).filterMap fun i => L[i]?
theorem carL_mem {ids : List Nat} {L : List Ne} {x : Ne} : x ∈ carL ids L ↔ x ∈ L ∧ carB ids L x = true := by
  unfold carL
  rw [List.mem_filterMap]
  constructor
  · rintro ⟨i, hi, hx⟩
    obtain ⟨_, y, hy, hc⟩ := carP_mem.1 hi
    rw [hx] at hy
    cases hy
    exact ⟨List.mem_of_getElem? hx, hc⟩
  · rintro ⟨hx, hc⟩
    obtain ⟨i, hi, e⟩ := List.mem_iff_getElem.1 hx
    have hx' : L[i]? = some x := by rw [List.getElem?_eq_getElem hi, e]
    exact ⟨i, carP_mem.2 ⟨hi, x, hx', hc⟩, hx'⟩
theorem sdl_mem_iff {L : List Ne} {s : Ne} : s ∈ sdl L ↔ s ∈ L ∨ s.turn ∈ L := by
  unfold sdl
  rw [List.mem_flatMap]
  constructor
  · rintro ⟨x, hx, hs⟩
    simp only [List.mem_cons, List.not_mem_nil, or_false] at hs
    rcases hs with rfl | rfl
    · exact .inl hx
    · exact .inr hx
  · rintro (h | h)
    · exact ⟨s, h, by simp⟩
    · exact ⟨s.turn, h, by simp [Ne.turn]⟩
theorem carB_turn (ids : List Nat) (L : List Ne) (x : Ne) : carB ids L x.turn = carB ids L x := by
  unfold carB
  rw [Ne.turn_turn, Bool.and_comm]
theorem carS_mem {ids : List Nat} {L : List Ne} {s : Ne} : s ∈ sdl (carL ids L) ↔ s ∈ sdl L ∧ carB ids L s = true := by
  rw [sdl_mem_iff, sdl_mem_iff, carL_mem, carL_mem, carB_turn]
  constructor
  · rintro (⟨h, c⟩ | ⟨h, c⟩)
    · exact ⟨.inl h, c⟩
    · exact ⟨.inr h, c⟩
  · rintro ⟨h | h, c⟩
    · exact .inl ⟨h, c⟩
    · exact .inr ⟨h, c⟩
section
variable {ids : List Nat} {L : List Ne}
/-- An edge carries just where one of its ends is a root port. -/
theorem car_iff (g : Gok ids L) {s : Ne} (hs : s ∈ sdl L) : carB ids L s = true ↔ (roleOf ids L s = 3 ∨ roleOf ids L s.turn = 3) := by
  unfold carB
  rw [Bool.and_eq_true, decide_eq_true_eq, decide_eq_true_eq]
  rcases roles_two g hs with ⟨h1, h2 | h2⟩ | ⟨h1, h2 | h2⟩ <;> rw [h1, h2] <;> decide
theorem hb_of (g : Gok ids L) : ∀ s ∈ sdl L, s.a < ids.length ∧ s.b < ids.length := fun s hs => ⟨(g.side s hs).1, (g.side s hs).2.1⟩
theorem hbc_of (g : Gok ids L) : ∀ s ∈ sdl (carL ids L), s.a < ids.length ∧ s.b < ids.length := fun s hs => hb_of g s (carS_mem.1 hs).1
/-- The bridge that is a bridge's root. -/
theorem root_node (g : Gok ids L) {i : Nat} (hi : i < ids.length) : ∃ v, v < ids.length ∧ kr ids L i = idO ids v := by
  obtain ⟨_, _, v, hv, e⟩ := key_most g hi
  exact ⟨v, hv, e⟩
/-- Whatever is the same at both ends of edges that carry is the same at a bridge and at its root. -/
theorem car_root (g : Gok ids L) {β : Type} (f : Nat → β) (hf : ∀ s ∈ sdl (carL ids L), f s.a = f s.b) : ∀ (k i : Nat), key ids L i ≤ k → i < ids.length → ∀ v, v < ids.length → kr ids L i = idO ids v → f i = f v := by
  intro k
  induction k using Nat.strongRecOn with
  | _ k ih =>
    intro i hk hi v hv e
    by_cases hr : isRoot ids L i
    · have : i = v := getD_inj g hi hv (by
        have h1 : kr ids L i = idO ids i := hr
        show idO ids i = idO ids v
        omega)
      rw [this]
    · obtain ⟨s, hb, hrp, hkey⟩ := rp_side g hi hr
      have hm := hb.me
      have hs := hb.mem
      have hgs := g.side s hs
      have hcar : s ∈ sdl (carL ids L) := carS_mem.2 ⟨hs, (car_iff g hs).2 (.inl (role3_iff.2 (by rw [hm]; exact hrp)))⟩
      have h1 := hf s hcar
      rw [hm] at h1
      have h2 := side_kr g hs
      rw [hm] at h2
      rw [h1]
      exact ih (key ids L s.b) (by omega) s.b (Nat.le_refl _) hgs.2.1 v hv (by rw [← h2]; exact e)
/-- The edges that carry join what the graph joins. -/
theorem car_joins (g : Gok ids L) {i : Nat} (hi : i < ids.length) : ptJ ids.length (carL ids L) i = ptJ ids.length L i := by
  have hc := ptJ_least (hbc_of g)
  have hL := ptJ_least (hb_of g)
  have same : ∀ s ∈ sdl (carL ids L), ptJ ids.length (carL ids L) s.a = ptJ ids.length (carL ids L) s.b := fun s hs => by
    have h1 := hc.fix s.s0 (List.mem_map_of_mem hs)
    have h2 := hc.fix s.turn.s0 (List.mem_map_of_mem (sdl_turn hs))
    simp only [Ne.s0, Ne.turn] at h1 h2
    omega
  have hfix : Fix (stepJ L) (ptJ ids.length (carL ids L)) := by
    intro t ht
    obtain ⟨s, hs, rfl⟩ := List.mem_map.1 ht
    have hgs := g.side s hs
    obtain ⟨v, hv, e⟩ := root_node g hgs.1
    have e2 : kr ids L s.b = idO ids v := by rw [← side_kr g hs]; exact e
    have h1 := car_root g _ same _ s.a (Nat.le_refl _) hgs.1 v hv e
    have h2 := car_root g _ same _ s.b (Nat.le_refl _) hgs.2.1 v hv e2
    simp only [Ne.s0]
    omega
  have hk : Least (stepJ L) (fun i => i) ids.length (ptJ ids.length (carL ids L)) := ⟨hfix, hc.low, fun i hi => Val.more (fun t ht => by
    obtain ⟨s, hs, rfl⟩ := List.mem_map.1 ht
    exact List.mem_map_of_mem (carS_mem.1 hs).1) (hc.val i hi)⟩
  exact Least.one hk hL (stepJ_in (hb_of g)) (stepJ_in (hb_of g)) (fun _ h => h) (fun _ h => h) i hi
/-! ### how many -/
def nonR (ids : List Nat) (L : List Ne) : List Nat := (List.range ids.length).filter fun i => decide (key ids L i / 4294967296 ≠ ids.getD i 0)
def rts (ids : List Nat) (L : List Ne) : List Nat := (List.range ids.length).filter fun i => decide (key ids L i / 4294967296 = ids.getD i 0)
def prts (n : Nat) (L : List Ne) : List Nat := (List.range n).filter fun i => decide (ptJ n L i = i)
theorem nonR_mem {i : Nat} : i ∈ nonR ids L ↔ i < ids.length ∧ ¬ isRoot ids L i := by
  unfold nonR
  rw [List.mem_filter, List.mem_range, decide_eq_true_eq]
  exact Iff.rfl
theorem rts_mem {i : Nat} : i ∈ rts ids L ↔ i < ids.length ∧ isRoot ids L i := by
  unfold rts
  rw [List.mem_filter, List.mem_range, decide_eq_true_eq]
  exact Iff.rfl
theorem prts_mem {n i : Nat} : i ∈ prts n L ↔ i < n ∧ ptJ n L i = i := by
  unfold prts
  rw [List.mem_filter, List.mem_range, decide_eq_true_eq]
theorem filt_nodup (n : Nat) (p : Nat → Bool) : ((List.range n).filter p).Nodup := List.Nodup.sublist (List.filter_sublist ..) List.nodup_range
theorem filt_len (l : List Nat) (p : Nat → Bool) : (l.filter p).length + (l.filter fun i => !p i).length = l.length := by
  induction l with
  | nil => rfl
  | cons a l ih =>
    simp only [List.filter_cons]
    cases p a <;> simp <;> omega
theorem roots_len : (rts ids L).length + (nonR ids L).length = ids.length := by
  have := filt_len (List.range ids.length) (fun i => decide (key ids L i / 4294967296 = ids.getD i 0))
  rw [List.length_range] at this
  unfold rts nonR
  have e : (fun i => !decide (key ids L i / 4294967296 = ids.getD i 0)) = fun i => decide (key ids L i / 4294967296 ≠ ids.getD i 0) := by
    funext i
    simp
  rw [e] at this
  exact this
/-- As many parts as roots. -/
theorem parts_roots (g : Gok ids L) : (prts ids.length L).length = (rts ids L).length := by
  have hL := ptJ_least (hb_of g)
  have ptk : ∀ {i k : Nat}, i < ids.length → k < ids.length → kr ids L i = kr ids L k → ptJ ids.length L i = ptJ ids.length L k := fun {i k} hi hk e => by
    rw [← car_joins g hi, ← car_joins g hk]
    have hc := ptJ_least (hbc_of g)
    have same : ∀ s ∈ sdl (carL ids L), ptJ ids.length (carL ids L) s.a = ptJ ids.length (carL ids L) s.b := fun s hs => by
      have h1 := hc.fix s.s0 (List.mem_map_of_mem hs)
      have h2 := hc.fix s.turn.s0 (List.mem_map_of_mem (sdl_turn hs))
      simp only [Ne.s0, Ne.turn] at h1 h2
      omega
    obtain ⟨v, hv, e1⟩ := root_node g hi
    rw [car_root g _ same _ i (Nat.le_refl _) hi v hv e1, car_root g _ same _ k (Nat.le_refl _) hk v hv (by rw [← e]; exact e1)]
  have ptl : ∀ {i : Nat}, i < ids.length → ptJ ids.length L i < ids.length ∧ kr ids L i = kr ids L (ptJ ids.length L i) := fun {i} hi => by
    have := pt_same (hb_of g) (kr ids L) (fun s hs => side_kr g hs) hi
    exact ⟨this.2, this.1⟩
  refine Nat.le_antisymm ?_ ?_
  · -- each part's root
    have hex : ∀ i, ∃ v, i < ids.length → v < ids.length ∧ kr ids L i = idO ids v := fun i => by
      by_cases hi : i < ids.length
      · obtain ⟨v, hv, e⟩ := root_node g hi
        exact ⟨v, fun _ => ⟨hv, e⟩⟩
      · exact ⟨0, fun h => absurd h hi⟩
    have hroot : ∀ {i v : Nat}, i < ids.length → v < ids.length → kr ids L i = idO ids v → isRoot ids L v ∧ kr ids L v = kr ids L i := fun {i v} hi hv e => by
      have hc := ptJ_least (hbc_of g)
      have same : ∀ s ∈ sdl (carL ids L), kr ids L s.a = kr ids L s.b := fun s hs => side_kr g (carS_mem.1 hs).1
      have h1 := car_root g (kr ids L) same _ i (Nat.le_refl _) hi v hv e
      refine ⟨?_, h1.symm⟩
      unfold isRoot
      show kr ids L v = idO ids v
      rw [← h1, e]
    let f : Nat → Nat := fun i => (ids.idxOf (kr ids L i))
    have hf : ∀ {i : Nat}, i < ids.length → f i < ids.length ∧ idO ids (f i) = kr ids L i := fun {i} hi => by
      obtain ⟨v, hv, e⟩ := root_node g hi
      have hm : kr ids L i ∈ ids := by
        rw [e]
        exact List.mem_of_getElem? (getD_at hv)
      have h1 : f i < ids.length := List.idxOf_lt_length_of_mem hm
      refine ⟨h1, ?_⟩
      have h2 := List.getElem_idxOf h1
      show ids.getD (f i) 0 = kr ids L i
      rw [List.getD_eq_getElem?_getD, List.getElem?_eq_getElem h1]
      exact h2
    have := nodup_sub (l := (prts ids.length L).map f) (m := rts ids L) (nodup_map (filt_nodup _ _) (fun x hx y hy e => by
      obtain ⟨hx1, hx2⟩ := prts_mem.1 hx
      obtain ⟨hy1, hy2⟩ := prts_mem.1 hy
      have e1 : kr ids L x = kr ids L y := by rw [← (hf hx1).2, ← (hf hy1).2, e]
      rw [← hx2, ← hy2]
      exact ptk hx1 hy1 e1)) (fun u hu => by
      obtain ⟨i, hi, rfl⟩ := List.mem_map.1 hu
      obtain ⟨hi1, _⟩ := prts_mem.1 hi
      exact rts_mem.2 ⟨(hf hi1).1, (hroot hi1 (hf hi1).1 (hf hi1).2.symm).1⟩)
    rwa [List.length_map] at this
  · have := nodup_sub (l := (rts ids L).map (ptJ ids.length L)) (m := prts ids.length L) (nodup_map (filt_nodup _ _) (fun x hx y hy e => by
      obtain ⟨hx1, hx2⟩ := rts_mem.1 hx
      obtain ⟨hy1, hy2⟩ := rts_mem.1 hy
      have e1 : kr ids L x = kr ids L y := by rw [(ptl hx1).2, (ptl hy1).2, e]
      have hx3 : kr ids L x = idO ids x := hx2
      have hy3 : kr ids L y = idO ids y := hy2
      exact getD_inj g hx1 hy1 (by show idO ids x = idO ids y; omega))) (fun u hu => by
      obtain ⟨i, hi, rfl⟩ := List.mem_map.1 hu
      obtain ⟨hi1, _⟩ := rts_mem.1 hi
      exact prts_mem.2 ⟨(ptl hi1).1, ptk (ptl hi1).1 hi1 (ptl hi1).2.symm⟩)
    rwa [List.length_map] at this
/-- As many edges carry as there are bridges that are no root. -/
theorem car_len (g : Gok ids L) : (carP ids L L.length).length = (nonR ids L).length := by
  -- the bridge of an edge's root port
  let h : Nat → Nat := fun e => match L[e]? with | some x => if roleOf ids L x = 3 then x.a else x.b | none => 0
  -- the edge of a bridge's root port
  have hs0 : ∀ {e : Nat} {x : Ne}, L[e]? = some x → (sdl L)[2 * e]? = some x ∧ (sdl L)[2 * e + 1]? = some x.turn := fun {e x} hx => ⟨sdl_at hx (j := 0) (by omega), sdl_at hx (j := 1) (by omega)⟩
  have hh : ∀ {e : Nat} {x : Ne}, L[e]? = some x → carB ids L x = true → ∃ t s, (t = 2 * e ∨ t = 2 * e + 1) ∧ (sdl L)[t]? = some s ∧ s.a = h e ∧ roleOf ids L s = 3 := fun {e x} hx hc => by
    have hsd := hs0 hx
    have hmem := List.mem_of_getElem? hsd.1
    have he : h e = if roleOf ids L x = 3 then x.a else x.b := by show (match L[e]? with | some x => if roleOf ids L x = 3 then x.a else x.b | none => 0) = _; rw [hx]
    by_cases h3 : roleOf ids L x = 3
    · exact ⟨2 * e, x, .inl rfl, hsd.1, by rw [he, if_pos h3], h3⟩
    · refine ⟨2 * e + 1, x.turn, .inr rfl, hsd.2, by rw [he, if_neg h3]; rfl, ?_⟩
      rcases (car_iff g hmem).1 hc with h4 | h4
      · exact absurd h4 h3
      · exact h4
  refine Nat.le_antisymm ?_ ?_
  · have := nodup_sub (l := (carP ids L L.length).map h) (m := nonR ids L) (nodup_map (carP_nodup _ _ _) (fun x hx y hy e => by
      obtain ⟨_, x', hx', hcx⟩ := carP_mem.1 hx
      obtain ⟨_, y', hy', hcy⟩ := carP_mem.1 hy
      obtain ⟨t, s, ht, hts, hsa, hsr⟩ := hh hx' hcx
      obtain ⟨t', s', ht', hts', hsa', hsr'⟩ := hh hy' hcy
      have := hit_one g (i := h x) hts hts' ⟨hsa, hsr⟩ ⟨by rw [hsa', e], hsr'⟩
      omega)) (fun u hu => by
      obtain ⟨e, he, rfl⟩ := List.mem_map.1 hu
      obtain ⟨_, x, hx, hc⟩ := carP_mem.1 he
      obtain ⟨t, s, _, hts, hsa, hsr⟩ := hh hx hc
      have hm := List.mem_of_getElem? hts
      have hrp := role3_iff.1 hsr
      have := rp_is g hm hrp
      rw [hsa] at this
      exact nonR_mem.2 ⟨by rw [← hsa]; exact (g.side s hm).1, this.1⟩)
    rwa [List.length_map] at this
  · -- each such bridge's edge
    let k : Nat → Nat := fun i => ((List.range (2 * L.length)).filter fun t => match (sdl L)[t]? with | some s => decide (s.a = i ∧ roleOf ids L s = 3) | none => false).headD 0 / 2
    have hk : ∀ {i : Nat}, i < ids.length → ¬ isRoot ids L i → ∃ t s, t < 2 * L.length ∧ (sdl L)[t]? = some s ∧ s.a = i ∧ roleOf ids L s = 3 ∧ k i = t / 2 := fun {i} hi hr => by
      obtain ⟨t0, s0, ht0, hs0', hh0⟩ := hit_is g hi hr
      have hne : ((List.range (2 * L.length)).filter fun t => match (sdl L)[t]? with | some s => decide (s.a = i ∧ roleOf ids L s = 3) | none => false) ≠ [] := fun e => by
        have : t0 ∈ ((List.range (2 * L.length)).filter fun t => match (sdl L)[t]? with | some s => decide (s.a = i ∧ roleOf ids L s = 3) | none => false) := by
          rw [List.mem_filter, List.mem_range]
          refine ⟨ht0, ?_⟩
          rw [hs0']
          exact decide_eq_true hh0
        rw [e] at this
        cases this
      cases hl : ((List.range (2 * L.length)).filter fun t => match (sdl L)[t]? with | some s => decide (s.a = i ∧ roleOf ids L s = 3) | none => false) with
      | nil => exact absurd hl hne
      | cons t r =>
        have hm : t ∈ ((List.range (2 * L.length)).filter fun t => match (sdl L)[t]? with | some s => decide (s.a = i ∧ roleOf ids L s = 3) | none => false) := by rw [hl]; simp
        rw [List.mem_filter, List.mem_range] at hm
        have hki : k i = t / 2 := by show (List.headD _ 0) / 2 = t / 2; rw [hl]; rfl
        cases hts : (sdl L)[t]? with
        | none => rw [hts] at hm; cases hm.2
        | some s =>
          rw [hts] at hm
          have := of_decide_eq_true hm.2
          exact ⟨t, s, hm.1, hts, this.1, this.2, hki⟩
    have hed : ∀ {t : Nat} {s : Ne}, t < 2 * L.length → (sdl L)[t]? = some s → ∃ x, L[t / 2]? = some x ∧ (s = x ∨ s = x.turn) := fun {t s} ht hts => by
      obtain ⟨x, hx⟩ := lt_nth (l := L) (i := t / 2) (by omega)
      have h2 := hs0 hx
      refine ⟨x, hx, ?_⟩
      rcases Nat.mod_two_eq_zero_or_one t with h0 | h0
      · rw [show t = 2 * (t / 2) by omega, h2.1] at hts
        exact .inl (Option.some.inj hts).symm
      · rw [show t = 2 * (t / 2) + 1 by omega, h2.2] at hts
        exact .inr (Option.some.inj hts).symm
    have := nodup_sub (l := (nonR ids L).map k) (m := carP ids L L.length) (nodup_map (filt_nodup _ _) (fun x hx y hy e => by
      obtain ⟨hx1, hx2⟩ := nonR_mem.1 hx
      obtain ⟨hy1, hy2⟩ := nonR_mem.1 hy
      obtain ⟨t, s, ht, hts, hsa, hsr, hkx⟩ := hk hx1 hx2
      obtain ⟨t', s', ht', hts', hsa', hsr', hky⟩ := hk hy1 hy2
      obtain ⟨z, hz, hsz⟩ := hed ht hts
      obtain ⟨z', hz', hsz'⟩ := hed ht' hts'
      rw [show t' / 2 = t / 2 by omega, hz] at hz'
      cases hz'
      have hm := List.mem_of_getElem? hts
      rcases hsz with rfl | rfl <;> rcases hsz' with e2 | e2
      · rw [e2] at hsa'; omega
      · rw [e2] at hsr'
        have := (role_root g hm (role3_iff.1 hsr)).2
        exact absurd (role3_iff.1 hsr') this
      · rw [e2] at hsr'
        have h9 := (role_root g hm (role3_iff.1 hsr)).2
        exact absurd (role3_iff.1 hsr') h9
      · rw [e2] at hsa'; omega)) (fun u hu => by
      obtain ⟨i, hi, rfl⟩ := List.mem_map.1 hu
      obtain ⟨hi1, hi2⟩ := nonR_mem.1 hi
      obtain ⟨t, s, ht, hts, hsa, hsr, hki⟩ := hk hi1 hi2
      obtain ⟨x, hx, hsx⟩ := hed ht hts
      rw [hki]
      refine carP_mem.2 ⟨by omega, x, hx, ?_⟩
      have hm : x ∈ sdl L := List.mem_of_getElem? (hs0 hx).1
      refine (car_iff g hm).2 ?_
      rcases hsx with rfl | rfl
      · exact .inl hsr
      · exact .inr hsr)
    rwa [List.length_map] at this
/-- As many edges carry as there are bridges but for one a part. -/
theorem tree_len (g : Gok ids L) : (carP ids L L.length).length + (prts ids.length L).length = ids.length := by
  rw [car_len g, parts_roots g]
  have := roots_len (ids := ids) (L := L)
  omega
end
end Go.Proofs.Ytcagdfdhpbeolaa
