/-
  What holds of roles, roots and costs of every graph that may be. Plain laws.
-/
import Derived.Test.YtcagdfdhpbeolaaTld
namespace Go.Proofs.Ytcagdfdhpbeolaa
set_option linter.unusedVariables false
set_option maxRecDepth 4000
set_option linter.unusedSimpArgs false

section
variable {ids : List Nat} {L : List Ne}
theorem rp_is (g : Gok ids L) {s : Ne} (hs : s ∈ sdl L) (h : rpOf ids L s.a = (s.pa : Int)) : ¬ isRoot ids L s.a ∧ key ids L s.a = key ids L s.b + s.ca := by
  have hr : ¬ isRoot ids L s.a := fun hr => by rw [rp_root hr] at h; omega
  obtain ⟨u, hb, e, hk⟩ := rp_side g (g.side s hs).1 hr
  have : u = s := side_one g hb.mem hs hb.me (by omega)
  subst this
  exact ⟨hr, hk⟩
theorem told_lt (g : Gok ids L) {i j p q : Nat} (hp : p ≤ 7) (hq : q ≤ 7) (h : key ids L i < key ids L j) : vk (toldV ids L i p) < vk (toldV ids L j q) := by
  rw [vk_told, vk_told]
  have h1 := ids_u64 g i
  have h2 := ids_u64 g j
  omega
theorem told_ne (g : Gok ids L) {i j p q : Nat} (hi : i < ids.length) (hj : j < ids.length) (hp : p ≤ 7) (hq : q ≤ 7) (h : i ≠ j) : vk (toldV ids L i p) ≠ vk (toldV ids L j q) := by
  intro e
  rw [vk_told, vk_told] at e
  have h1 := ids_u64 g i
  have h2 := ids_u64 g j
  exact h (getD_inj g hi hj (by omega))
/-- The other end of a root port tells better, and is designated. -/
theorem role_root (g : Gok ids L) {s : Ne} (hs : s ∈ sdl L) (h : rpOf ids L s.a = (s.pa : Int)) : vk (toldV ids L s.b s.pb) < vk (toldV ids L s.a s.pa) ∧ rpOf ids L s.b ≠ (s.pb : Int) := by
  have hg := g.side s hs
  obtain ⟨_, hk⟩ := rp_is g hs h
  refine ⟨told_lt g hg.2.2.2.1 hg.2.2.1 (by omega), fun h2 => ?_⟩
  obtain ⟨_, hk2⟩ := rp_is g (sdl_turn hs) h2
  have hg2 := g.side _ (sdl_turn hs)
  simp only [Ne.turn] at hk2 hg2
  omega
theorem roles_two (g : Gok ids L) {s : Ne} (hs : s ∈ sdl L) : (roleOf ids L s = 4 ∧ (roleOf ids L s.turn = 3 ∨ roleOf ids L s.turn = 1)) ∨ (roleOf ids L s.turn = 4 ∧ (roleOf ids L s = 3 ∨ roleOf ids L s = 1)) := by
  have hg := g.side s hs
  have hne := told_ne g hg.1 hg.2.1 hg.2.2.1 hg.2.2.2.1 hg.2.2.2.2.2.2
  have ht := sdl_turn hs
  have e : roleOf ids L s.turn = if rpOf ids L s.b = (s.pb : Int) then 3 else if vk (toldV ids L s.b s.pb) < vk (toldV ids L s.a s.pa) then 4 else 1 := rfl
  rw [e]
  unfold roleOf
  by_cases h1 : rpOf ids L s.a = (s.pa : Int)
  · obtain ⟨h2, h3⟩ := role_root g hs h1
    rw [if_pos h1, if_neg h3, if_pos h2]
    exact .inr ⟨rfl, .inl rfl⟩
  · by_cases h2 : rpOf ids L s.b = (s.pb : Int)
    · obtain ⟨h3', _⟩ := role_root g ht h2
      have h3 : vk (toldV ids L s.a s.pa) < vk (toldV ids L s.b s.pb) := h3'
      rw [if_neg h1, if_pos h2, if_pos h3]
      exact .inl ⟨rfl, .inl rfl⟩
    · rw [if_neg h1, if_neg h2]
      by_cases h3 : vk (toldV ids L s.a s.pa) < vk (toldV ids L s.b s.pb)
      · rw [if_pos h3, if_neg (by omega)]
        exact .inl ⟨rfl, .inr rfl⟩
      · rw [if_neg h3, if_pos (by omega)]
        exact .inr ⟨rfl, .inr rfl⟩
theorem vec_turn (g : Gok ids L) {s : Ne} (hs : s ∈ sdl L) : vecOf ids L s = vecOf ids L s.turn := by
  have hg := g.side s hs
  have hne := told_ne g hg.1 hg.2.1 hg.2.2.1 hg.2.2.2.1 hg.2.2.2.2.2.2
  have e : vecOf ids L s.turn = if vk (toldV ids L s.b s.pb) < vk (toldV ids L s.a s.pa) then toldV ids L s.b s.pb else toldV ids L s.a s.pa := rfl
  rw [e]
  unfold vecOf
  by_cases h3 : vk (toldV ids L s.a s.pa) < vk (toldV ids L s.b s.pb)
  · rw [if_pos h3, if_neg (by omega)]
  · rw [if_neg h3, if_pos (by omega)]
theorem role3_iff {s : Ne} : roleOf ids L s = 3 ↔ rpOf ids L s.a = (s.pa : Int) := by
  unfold roleOf
  by_cases h1 : rpOf ids L s.a = (s.pa : Int)
  · rw [if_pos h1]; exact ⟨fun _ => h1, fun _ => rfl⟩
  · rw [if_neg h1]
    constructor
    · intro h; split at h <;> omega
    · intro h; exact absurd h h1
/-- Roots. -/
theorem root_cost (g : Gok ids L) {i : Nat} (hi : i < ids.length) (h : isRoot ids L i) : kc ids L i = 0 := by
  have := root_key g hi h
  unfold kc
  omega
theorem rp_nonneg (g : Gok ids L) {i : Nat} (hi : i < ids.length) (h : ¬ isRoot ids L i) : rpOf ids L i ≠ -1 := by
  obtain ⟨s, _, e, _⟩ := rp_side g hi h
  omega
/-- The side of a root port stands at one place. -/
theorem hit_one (g : Gok ids L) {i t k : Nat} {s u : Ne} (hs : (sdl L)[t]? = some s) (hu : (sdl L)[k]? = some u) (h1 : s.a = i ∧ roleOf ids L s = 3) (h2 : u.a = i ∧ roleOf ids L u = 3) : t = k := by
  have e1 := role3_iff.1 h1.2
  have e2 := role3_iff.1 h2.2
  rw [h1.1] at e1
  rw [h2.1] at e2
  exact g.port t k s u hs hu (by rw [h1.1, h2.1]) (by omega)
theorem hit_is (g : Gok ids L) {i : Nat} (hi : i < ids.length) (h : ¬ isRoot ids L i) : ∃ t s, t < 2 * L.length ∧ (sdl L)[t]? = some s ∧ s.a = i ∧ roleOf ids L s = 3 := by
  obtain ⟨s, hb, e, _⟩ := rp_side g hi h
  obtain ⟨t, ht, e2⟩ := List.mem_iff_getElem.1 hb.mem
  refine ⟨t, s, by rw [← sdl_len]; exact ht, by rw [List.getElem?_eq_getElem ht, e2], hb.me, role3_iff.2 ?_⟩
  rw [hb.me]
  exact e
theorem hit_no {i : Nat} {s : Ne} (h : isRoot ids L i) (hs : s.a = i) : roleOf ids L s ≠ 3 := by
  intro e
  have := role3_iff.1 e
  rw [hs, rp_root h] at this
  omega
/-- How many of the first k sides are at a bridge's root port. -/
def cntP (ids : List Nat) (L : List Ne) (i k : Nat) (m : Int) : Prop := (isRoot ids L i → m = 0) ∧ ∀ t s, (sdl L)[t]? = some s → s.a = i ∧ roleOf ids L s = 3 → m = if t < k then 1 else 0
theorem cnt_start (i : Nat) : cntP ids L i 0 0 := ⟨fun _ => rfl, fun t s _ _ => by rw [if_neg (by omega)]⟩
theorem cnt_yes (g : Gok ids L) {i k : Nat} {m : Int} {s : Ne} (h : cntP ids L i k m) (hs : (sdl L)[k]? = some s) (hh : s.a = i ∧ roleOf ids L s = 3) : cntP ids L i (k + 1) (m + 1) := by
  refine ⟨fun hr => absurd hh.2 (hit_no hr hh.1), fun t u hu hh2 => ?_⟩
  have := hit_one g hs hu hh hh2
  subst this
  have := h.2 k s hs hh
  rw [if_neg (by omega)] at this
  rw [if_pos (by omega)]
  omega
theorem cnt_no {i k : Nat} {m : Int} {s : Ne} (h : cntP ids L i k m) (hs : (sdl L)[k]? = some s) (hh : ¬ (s.a = i ∧ roleOf ids L s = 3)) : cntP ids L i (k + 1) m := by
  refine ⟨h.1, fun t u hu hh2 => ?_⟩
  have hne : t ≠ k := fun e => by
    subst e
    rw [hs] at hu
    cases hu
    exact hh hh2
  have := h.2 t u hu hh2
  by_cases h1 : t < k
  · rw [if_pos h1] at this
    rw [if_pos (by omega)]
    exact this
  · rw [if_neg h1] at this
    rw [if_neg (by omega)]
    exact this
theorem cnt_end (g : Gok ids L) {i k : Nat} {m : Int} (h : cntP ids L i k m) (hk : 2 * L.length ≤ k) (hi : i < ids.length) : (isRoot ids L i → m = 0) ∧ (¬ isRoot ids L i → m = 1) := by
  refine ⟨h.1, fun hr => ?_⟩
  obtain ⟨t, s, ht, hs, hh⟩ := hit_is g hi hr
  rw [h.2 t s hs hh, if_pos (by omega)]
/-! ### what is joined -/
theorem side_kr (g : Gok ids L) {s : Ne} (hs : s ∈ sdl L) : kr ids L s.a = kr ids L s.b := by
  have h1 := key_fix g hs
  have h2 := key_fix g (sdl_turn hs)
  have hg := g.side s hs
  have hg2 := g.side _ (sdl_turn hs)
  obtain ⟨_, m1, _⟩ := key_most g hg.1
  obtain ⟨_, m2, _⟩ := key_most g hg.2.1
  simp only [Ne.turn] at h2 hg2
  unfold kr
  omega
theorem side_kc (g : Gok ids L) {s : Ne} (hs : s ∈ sdl L) : kc ids L s.a ≤ kc ids L s.b + s.ca ∧ (rpOf ids L s.a = (s.pa : Int) → kc ids L s.a = kc ids L s.b + s.ca) ∧ kc ids L s.b + s.ca < 4294967296 := by
  have h1 := key_fix g hs
  have h2 := side_kr g hs
  have hg := g.side s hs
  obtain ⟨_, m1, _⟩ := key_most g hg.1
  obtain ⟨_, m2, _⟩ := key_most g hg.2.1
  unfold kr at h2
  unfold kc
  refine ⟨by omega, fun h => ?_, by omega⟩
  obtain ⟨_, hk⟩ := rp_is g hs h
  omega
theorem kr_low (g : Gok ids L) {i : Nat} (hi : i < ids.length) : kr ids L i ≤ idO ids i := by
  have := key_low g hi
  unfold kr
  show key ids L i / 4294967296 ≤ ids.getD i 0
  omega
end
/-- Steps at no cost. -/
def Ne.s0 (x : Ne) : St := ⟨x.a, x.b, 0⟩
def stepJ (L : List Ne) : List St := (sdl L).map Ne.s0
/-- The least node to which edges come from each. -/
def ptJ (n : Nat) (L : List Ne) : Nat → Nat := rounds' (stepJ L) (fun i => i) n
theorem stepJ_in {n : Nat} {L : List Ne} (h : ∀ s ∈ sdl L, s.a < n ∧ s.b < n) : ∀ s ∈ stepJ L, s.me < n ∧ s.you < n := by
  intro s hs
  obtain ⟨x, hx, rfl⟩ := List.mem_map.1 hs
  exact h x hx
theorem ptJ_least {n : Nat} {L : List Ne} (h : ∀ s ∈ sdl L, s.a < n ∧ s.b < n) : Least (stepJ L) (fun i => i) n (ptJ n L) := rounds_least (stepJ_in h)
/-- Whatever is the same at both ends of each edge is the same where one comes. -/
theorem val_same {n : Nat} {L : List Ne} (h : ∀ s ∈ sdl L, s.a < n ∧ s.b < n) {β : Type} (f : Nat → β) (hf : ∀ s ∈ sdl L, f s.a = f s.b) {i x : Nat} (hv : Val (stepJ L) (fun i => i) i x) (hi : i < n) : f i = f x ∧ x < n := by
  induction hv using Val.ind with
  | own v => exact ⟨rfl, hi⟩
  | go s x hs _ ih =>
    obtain ⟨y, hy, rfl⟩ := List.mem_map.1 hs
    obtain ⟨h1, h2⟩ := ih (h y hy).2
    exact ⟨(hf y hy).trans h1, h2⟩
theorem pt_same {n : Nat} {L : List Ne} (h : ∀ s ∈ sdl L, s.a < n ∧ s.b < n) {β : Type} (f : Nat → β) (hf : ∀ s ∈ sdl L, f s.a = f s.b) {i : Nat} (hi : i < n) : f i = f (ptJ n L i) ∧ ptJ n L i < n := val_same h f hf ((ptJ_least h).val i hi) hi
theorem pt_kr {ids : List Nat} {L : List Ne} (g : Gok ids L) {i k : Nat} (hi : i < ids.length) (hk : k < ids.length) (e : ptJ ids.length L i = ptJ ids.length L k) : kr ids L i = kr ids L k := by
  have hb : ∀ s ∈ sdl L, s.a < ids.length ∧ s.b < ids.length := fun s hs => ⟨(g.side s hs).1, (g.side s hs).2.1⟩
  have h1 := (pt_same hb (kr ids L) (fun s hs => side_kr g hs) hi).1
  have h2 := (pt_same hb (kr ids L) (fun s hs => side_kr g hs) hk).1
  rw [h1, h2, e]
/-! ### what is told at the other end -/
theorem stable (ids : List Nat) (L : List Ne) (g : Gok ids L) {s : Ne} (hs : s ∈ sdl L) : ¬ vk (toldV ids L s.b s.pb) < vk (vecOf ids L s) ∧ ((roleOf ids L s = 4) ↔ vk (vecOf ids L s) < vk (toldV ids L s.b s.pb)) := by
  have hg := g.side s hs
  have hne := told_ne g hg.1 hg.2.1 hg.2.2.1 hg.2.2.2.1 hg.2.2.2.2.2.2
  unfold vecOf roleOf
  by_cases h3 : vk (toldV ids L s.a s.pa) < vk (toldV ids L s.b s.pb)
  · rw [if_pos h3, if_pos h3]
    refine ⟨by omega, ?_⟩
    by_cases h1 : rpOf ids L s.a = (s.pa : Int)
    · have := (role_root g hs h1).1
      omega
    · rw [if_neg h1]
      exact ⟨fun _ => h3, fun _ => rfl⟩
  · rw [if_neg h3, if_neg h3]
    refine ⟨by omega, ?_⟩
    constructor
    · intro h; split at h <;> omega
    · intro h; omega
theorem vec_wf {ids : List Nat} {L : List Ne} (g : Gok ids L) {s : Ne} (hs : s ∈ sdl L) : (vecOf ids L s).wf := by
  have hg := g.side s hs
  unfold vecOf
  split
  · exact toldV_wf g hg.1 hg.2.2.1
  · exact toldV_wf g hg.2.1 hg.2.2.2.1
end Go.Proofs.Ytcagdfdhpbeolaa
