/-
  Timers that run out: what 255 seconds make of a port. Plain laws.
-/
import Derived.Test.YtnjepjkbmgkdkaaRTick
namespace Go.Proofs.Ytnjepjkbmgkdkaa
set_option linter.unusedVariables false
set_option maxRecDepth 4000
set_option linter.unusedSimpArgs false
open Go.RowKit

def isT (j : Nat) : Prop := 64 ≤ j ∧ j ≤ 71
theorem kdT_u8 {j : Nat} (h : isT j) : kdP[j]? = some (some .u8) := by
  obtain ⟨h1, h2⟩ := h
  obtain ⟨k, rfl⟩ : ∃ k, j = 64 + k := ⟨j - 64, by omega⟩
  match k, h2 with
  | 0, _ => rfl
  | 1, _ => rfl
  | 2, _ => rfl
  | 3, _ => rfl
  | 4, _ => rfl
  | 5, _ => rfl
  | 6, _ => rfl
  | 7, _ => rfl
  | k + 8, h => omega
theorem tk_nm (p : Pt) (i j : Nat) (hi : isT i) (hj : isT j) : (tk p i).nm j = if i = j then dec1 (p.nm j) else p.nm j := by
  unfold tk
  split
  · rename_i e
    subst e
    exact p.setU_at (kdT_u8 hi) (wf8 (dec1_in (p.u8 (kdT_u8 hi))))
  · rename_i e
    exact p.setU_nm e
theorem tk_cl (p : Pt) {i j : Nat} (h : i ≠ j) : (tk p i).cl[j]? = p.cl[j]? := p.setU_ne h
theorem tickP_eq (p : Pt) : tickP p = tk (tk (tk (tk (tk (tk (tk (tk p 65) 66) 67) 68) 69) 70) 71) 64 := rfl
theorem tickP_cl (p : Pt) {j : Nat} (h : ¬ isT j) : (tickP p).cl[j]? = p.cl[j]? := by
  have ne : ∀ i, isT i → i ≠ j := fun i hi e => h (e ▸ hi)
  rw [tickP_eq, tk_cl _ (ne 64 ⟨by omega, by omega⟩), tk_cl _ (ne 71 ⟨by omega, by omega⟩), tk_cl _ (ne 70 ⟨by omega, by omega⟩), tk_cl _ (ne 69 ⟨by omega, by omega⟩), tk_cl _ (ne 68 ⟨by omega, by omega⟩), tk_cl _ (ne 67 ⟨by omega, by omega⟩), tk_cl _ (ne 66 ⟨by omega, by omega⟩), tk_cl _ (ne 65 ⟨by omega, by omega⟩)]
theorem tickP_nm (p : Pt) {j : Nat} (h : isT j) : (tickP p).nm j = dec1 (p.nm j) := by
  have hT : isT 64 ∧ isT 65 ∧ isT 66 ∧ isT 67 ∧ isT 68 ∧ isT 69 ∧ isT 70 ∧ isT 71 := ⟨⟨by omega, by omega⟩, ⟨by omega, by omega⟩, ⟨by omega, by omega⟩, ⟨by omega, by omega⟩, ⟨by omega, by omega⟩, ⟨by omega, by omega⟩, ⟨by omega, by omega⟩, ⟨by omega, by omega⟩⟩
  obtain ⟨t0, t1, t2, t3, t4, t5, t6, t7⟩ := hT
  rw [tickP_eq, tk_nm _ 64 j t0 h, tk_nm _ 71 j t7 h, tk_nm _ 70 j t6 h, tk_nm _ 69 j t5 h, tk_nm _ 68 j t4 h, tk_nm _ 67 j t3 h, tk_nm _ 66 j t2 h, tk_nm _ 65 j t1 h]
  have h' := h
  obtain ⟨h1, h2⟩ := h'
  obtain ⟨k, rfl⟩ : ∃ k, j = 64 + k := ⟨j - 64, by omega⟩
  match k, h2 with
  | 0, _ => simp
  | 1, _ => simp
  | 2, _ => simp
  | 3, _ => simp
  | 4, _ => simp
  | 5, _ => simp
  | 6, _ => simp
  | 7, _ => simp
  | k + 8, h => omega
/-- i seconds later. -/
def tickI : Nat → Pt → Pt
  | 0, p => p
  | i + 1, p => tickP (tickI i p)
theorem tickI_zero (p : Pt) : tickI 0 p = id p := rfl
theorem tickI_succ (i : Nat) (p : Pt) : (tickP ∘ tickI i) p = tickI (i + 1) p := by simp only [Function.comp, tickI]
theorem tickI_cl (p : Pt) {j : Nat} (h : ¬ isT j) : ∀ i, (tickI i p).cl[j]? = p.cl[j]?
  | 0 => rfl
  | i + 1 => by
    show (tickP (tickI i p)).cl[j]? = _
    rw [tickP_cl _ h, tickI_cl p h i]
theorem tickI_nm (p : Pt) {j : Nat} (h : isT j) : ∀ i : Nat, (tickI i p).nm j = if (i : Int) ≤ p.nm j then p.nm j - i else 0
  | 0 => by
    have := (p.u8 (kdT_u8 h)).1
    show p.nm j = _
    rw [if_pos (by simpa using this)]
    simp
  | i + 1 => by
    have := (p.u8 (kdT_u8 h)).1
    show (tickP (tickI i p)).nm j = _
    rw [tickP_nm _ h, tickI_nm p h i]
    unfold dec1
    split <;> split <;> split <;> omega
/-- All timers 0. -/
def offP (p : Pt) : Pt := (((((((p.setU 65 0).setU 66 0).setU 67 0).setU 68 0).setU 69 0).setU 70 0).setU 71 0).setU 64 0
theorem z8 : (Lit.int .u8 0).wf = true := by decide
theorem set0_cl (p : Pt) (i j : Nat) (hi : isT i) : (p.setU i 0).cl[j]? = if i = j then some (.int .u8 0) else p.cl[j]? := by
  split
  · rename_i e
    subst e
    have := (p.setU i 0).num (kdT_u8 hi)
    rw [this, p.setU_at (kdT_u8 hi) z8]
  · rename_i e
    exact p.setU_ne e
theorem out_all (p : Pt) (N : Nat) (hN : 255 ≤ N) : tickI N p = offP p := by
  refine Row.same fun j hj => ?_
  have hT : isT 64 ∧ isT 65 ∧ isT 66 ∧ isT 67 ∧ isT 68 ∧ isT 69 ∧ isT 70 ∧ isT 71 := ⟨⟨by omega, by omega⟩, ⟨by omega, by omega⟩, ⟨by omega, by omega⟩, ⟨by omega, by omega⟩, ⟨by omega, by omega⟩, ⟨by omega, by omega⟩, ⟨by omega, by omega⟩, ⟨by omega, by omega⟩⟩
  obtain ⟨t0, t1, t2, t3, t4, t5, t6, t7⟩ := hT
  unfold offP
  rw [set0_cl _ 64 j t0, set0_cl _ 71 j t7, set0_cl _ 70 j t6, set0_cl _ 69 j t5, set0_cl _ 68 j t4, set0_cl _ 67 j t3, set0_cl _ 66 j t2, set0_cl _ 65 j t1]
  by_cases h : isT j
  · have e1 := (tickI N p).num (kdT_u8 h)
    have e2 := tickI_nm p h N
    have e3 := p.u8 (kdT_u8 h)
    have e4 : (tickI N p).nm j = 0 := by
      rw [e2]
      split
      · rename_i q
        omega
      · rfl
    rw [e1, e4]
    obtain ⟨h1, h2⟩ := h
    obtain ⟨k, rfl⟩ : ∃ k, j = 64 + k := ⟨j - 64, by omega⟩
    match k, h2 with
    | 0, _ => simp
    | 1, _ => simp
    | 2, _ => simp
    | 3, _ => simp
    | 4, _ => simp
    | 5, _ => simp
    | 6, _ => simp
    | 7, _ => simp
    | k + 8, h => omega
  · have ne : ∀ i, isT i → ¬ i = j := fun i hi e => h (e ▸ hi)
    rw [tickI_cl p h, if_neg (ne _ t0), if_neg (ne _ t7), if_neg (ne _ t6), if_neg (ne _ t5), if_neg (ne _ t4), if_neg (ne _ t3), if_neg (ne _ t2), if_neg (ne _ t1)]
/-- The ports of a tree, i seconds later. -/
def tickL (i : Nat) (l : List Pt) : List Pt := l.map (tickI i)
theorem tickL_next (i : Nat) (l : List Pt) : (tickL i l).map tickP = tickL (i + 1) l := by
  unfold tickL
  rw [List.map_map]
  exact List.map_congr_left fun p _ => tickI_succ i p
theorem tickL_zero (l : List Pt) : tickL 0 l = l := by
  unfold tickL
  rw [List.map_congr_left (g := id) fun p _ => tickI_zero p, List.map_id]
theorem tickL_len (i : Nat) (l : List Pt) : (tickL i l).length = l.length := by simp [tickL]
theorem tickL_at {l : List Pt} {i : Nat} (N : Nat) (hN : 255 ≤ N) (h : i < l.length) : (tickL N l)[i]? = some (offP (gtP l i)) := by
  unfold tickL
  rw [List.getElem?_map, gtP_at h, Option.map_some, out_all _ N hN]
end Go.Proofs.Ytnjepjkbmgkdkaa
