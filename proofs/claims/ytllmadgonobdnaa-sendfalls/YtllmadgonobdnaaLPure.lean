/-
  What the statements say of a port, in plain terms: how often it sends, and how it falls back to the elder version and forth.
-/
import Derived.Test.YtllmadgonobdnaaOutA
import Derived.Test.YtllmadgonobdnaaRTick
namespace Go.Proofs.Ytllmadgonobdnaa
set_option linter.unusedVariables false
set_option maxRecDepth 4000
set_option linter.unusedSimpArgs false
open Go.RowKit

/-- Steps of the version, at most so many. -/
def setP : Nat → Pt → Pt
  | 0, p => p
  | m + 1, p => if ppmC p = 0 then p else setP m (ppmQ p (ppmC p))
def setL : Nat → List Pt → Nat → List Pt
  | 0, l, _ => l
  | m + 1, l, k => if ppmC (gtP l k) = 0 then l else setL m (l.set k (ppmQ (gtP l k) (ppmC (gtP l k)))) k
theorem setL_no {m : Nat} {l : List Pt} {k : Nat} (h : ppmO l k = none) : setL m l k = l := by
  cases m with
  | zero => rfl
  | succ m =>
    unfold ppmO at h
    unfold setL
    split at h
    · rename_i h0
      rw [if_pos h0]
    · cases h
theorem setL_yes {m : Nat} {l l' : List Pt} {k : Nat} (h : ppmO l k = some l') : setL (m + 1) l k = setL m l' k := by
  unfold ppmO at h
  split at h
  · cases h
  · rename_i h0
    show (if ppmC (gtP l k) = 0 then l else setL m (l.set k (ppmQ (gtP l k) (ppmC (gtP l k)))) k) = _
    rw [if_neg h0]
    cases h
    rfl
theorem ppmO_len {l l' : List Pt} {k : Nat} (h : ppmO l k = some l') : l'.length = l.length := by
  unfold ppmO at h
  split at h
  · cases h
  · cases h
    rw [List.length_set]
theorem setL_len : ∀ (m : Nat) (l : List Pt) (k : Nat), (setL m l k).length = l.length
  | 0, _, _ => rfl
  | m + 1, l, k => by
    unfold setL
    split
    · rfl
    · rw [setL_len m, List.length_set]
theorem setL_at : ∀ (m : Nat) (l : List Pt) (k : Nat), k < l.length → gtP (setL m l k) k = setP m (gtP l k)
  | 0, _, _, _ => rfl
  | m + 1, l, k, hk => by
    unfold setL setP
    split
    · rfl
    · rw [setL_at m _ k (by rw [List.length_set]; exact hk), gtP_put hk]
theorem setP_no {m : Nat} {p : Pt} (h : ppmC p = 0) : setP m p = p := by
  cases m with
  | zero => rfl
  | succ m =>
    unfold setP
    rw [if_pos h]
theorem setP_yes {m c : Nat} {p : Pt} (h : ppmC p = c) (h0 : c ≠ 0) : setP (m + 1) p = setP m (ppmQ p c) := by
  rw [show setP (m + 1) p = if ppmC p = 0 then p else setP m (ppmQ p (ppmC p)) from rfl, h, if_neg h0]
theorem tm_in {i : Nat} (h : i < 8) : 64 ≤ tm i ∧ tm i ≤ 71 := by
  match i, h with
  | 0, _ => decide
  | 1, _ => decide
  | 2, _ => decide
  | 3, _ => decide
  | 4, _ => decide
  | 5, _ => decide
  | 6, _ => decide
  | 7, _ => decide
theorem tm_ne {i j : Nat} (h : i < 8) (hj : j < 64 ∨ 71 < j) : tm i ≠ j := by
  have := tm_in h
  omega
/-- A second later. -/
theorem tick_bt (p : Pt) (j : Nat) (hj : j < 64 ∨ 71 < j) : (tickP p).bt j = p.bt j := by
  have key : ∀ i, i ≤ 8 → (tickTo p i).bt j = p.bt j := by
    intro i
    induction i with
    | zero => intro _; rfl
    | succ i ih =>
      intro hi
      have h1 := ih (by omega)
      have h2 : tm i ≠ j := tm_ne (by omega) hj
      have h3 : (tickTo p (i + 1)).bt j = (tickTo p i).bt j := setU_bt _ h2
      exact h3.trans h1
  exact key 8 (Nat.le_refl _)
theorem tick_nm (p : Pt) (j : Nat) (hj : j < 64 ∨ 71 < j) : (tickP p).nm j = p.nm j := by
  have key : ∀ i, i ≤ 8 → (tickTo p i).nm j = p.nm j := by
    intro i
    induction i with
    | zero => intro _; rfl
    | succ i ih =>
      intro hi
      have h1 := ih (by omega)
      have h2 : tm i ≠ j := tm_ne (by omega) hj
      have h3 : (tickTo p (i + 1)).nm j = (tickTo p i).nm j := Row.setU_nm _ h2
      exact h3.trans h1
  exact key 8 (Nat.le_refl _)
theorem tick_67 (p : Pt) : (tickP p).nm 67 = dec1 (p.nm 67) := by
  have h := p.u8 (j := 67) rfl
  have e : (tickTo p 2).nm 67 = p.nm 67 := by
    show (((tickTo p 0).setU 65 _).setU 66 _).nm 67 = _
    rw [Row.setU_nm _ (by decide), Row.setU_nm _ (by decide)]
    rfl
  show ((((((tickTo p 2).setU 67 (dec1 ((tickTo p 2).nm 67))).setU 68 _).setU 69 _).setU 70 _).setU 71 _ |>.setU 64 _).nm 67 = _
  rw [Row.setU_nm _ (by decide), Row.setU_nm _ (by decide), Row.setU_nm _ (by decide), Row.setU_nm _ (by decide), Row.setU_nm _ (by decide), e]
  exact Row.setU_at _ rfl (wf8 (dec1_in h))
/-- Checking, with so many seconds left. -/
def Ck (j : Int) (p : Pt) : Prop := p.bt 2 = true ∧ p.bt 23 = true ∧ p.nm 76 = 1 ∧ p.nm 67 = j
/-- Sensing; what version it speaks. -/
def Se (b : Bool) (p : Pt) : Prop := p.bt 2 = true ∧ p.bt 23 = b ∧ p.nm 76 = 3 ∧ p.bt 15 = false ∧ p.bt 16 = false
/-- Fallen back, with so many seconds left. -/
def Fa (j : Int) (p : Pt) : Prop := p.bt 2 = true ∧ p.bt 23 = false ∧ p.nm 76 = 2 ∧ p.nm 67 = j
theorem ck_rest {j : Int} {p : Pt} (h : Ck j p) (h0 : j ≠ 0) : ppmC p = 0 := by
  obtain ⟨h1, h2, h3, h4⟩ := h
  unfold ppmC
  simp [h1, h3, h4, h0]
theorem se_rest {b : Bool} {p : Pt} (h : Se b p) : ppmC p = 0 := by
  obtain ⟨h1, h2, h3, h4, h5⟩ := h
  unfold ppmC
  simp [h1, h3, h4, h5]
theorem fa_rest {j : Int} {p : Pt} (h : Fa j p) (h0 : j ≠ 0) : ppmC p = 0 := by
  obtain ⟨h1, h2, h3, h4⟩ := h
  unfold ppmC
  simp [h1, h3, h4, h0]
theorem chk_ck {p : Pt} (h : p.bt 2 = true) : Ck 3 (chkP p) := by
  unfold chkP
  refine ⟨?_, ?_, ?_, ?_⟩
  · rw [setN_bt _ _ _ (by decide), setU_bt _ (by decide), setB_bt _ _ _ (by decide)]; exact h
  · rw [setN_bt _ _ _ (by decide), setU_bt _ (by decide)]; exact setB_at _ _ _
  · exact setN_at _ _ _
  · rw [setN_nm _ _ _ (by decide)]; exact Row.setU_at _ rfl (wf8 u3)
theorem sen_se {p : Pt} (h : p.bt 2 = true) : Se (p.bt 23) (senP p) := by
  unfold senP
  refine ⟨?_, ?_, ?_, ?_, ?_⟩
  · rw [setN_bt _ _ _ (by decide), setB_bt _ _ _ (by decide), setB_bt _ _ _ (by decide)]; exact h
  · rw [setN_bt _ _ _ (by decide), setB_bt _ _ _ (by decide), setB_bt _ _ _ (by decide)]
  · exact setN_at _ _ _
  · rw [setN_bt _ _ _ (by decide), setB_bt _ _ _ (by decide)]; exact setB_at _ _ _
  · rw [setN_bt _ _ _ (by decide)]; exact setB_at _ _ _
theorem fal_fa {p : Pt} (h : p.bt 2 = true) : Fa 3 (falP p) := by
  unfold falP
  refine ⟨?_, ?_, ?_, ?_⟩
  · rw [setN_bt _ _ _ (by decide), setU_bt _ (by decide), setB_bt _ _ _ (by decide)]; exact h
  · rw [setN_bt _ _ _ (by decide), setU_bt _ (by decide)]; exact setB_at _ _ _
  · exact setN_at _ _ _
  · rw [setN_nm _ _ _ (by decide)]; exact Row.setU_at _ rfl (wf8 u3)
def staP (p : Pt) : Pt := (p.setB 2 kb2 true).setN 76 kn76 0 wi0
theorem f_start (p : Pt) : Ck 3 (setP 6 (staP p)) := by
  have h76 : (staP p).nm 76 = 0 := setN_at _ _ _
  have h2 : (staP p).bt 2 = true := by unfold staP; rw [setN_bt _ _ _ (by decide)]; exact setB_at _ _ _
  rw [setP_yes (c := 1) (by unfold ppmC; simp [h76]) (by decide)]
  have c := chk_ck h2
  rw [setP_no (show ppmC (ppmQ (staP p) 1) = 0 from ck_rest c (by decide))]
  exact c
theorem f_ck {j : Int} {p : Pt} (h : Ck (j + 1) p) (hj : 0 < j) : Ck j (setP 6 (tickP p)) := by
  have c : Ck j (tickP p) := ⟨by rw [tick_bt _ _ (by omega)]; exact h.1, by rw [tick_bt _ _ (by omega)]; exact h.2.1, by rw [tick_nm _ _ (by omega)]; exact h.2.2.1, by rw [tick_67, h.2.2.2]; unfold dec1; rw [if_pos (by omega)]; omega⟩
  rw [setP_no (ck_rest c (by omega))]
  exact c
theorem f_sense {p : Pt} (h : Ck 1 p) : Se true (setP 6 (tickP p)) := by
  have c : Ck 0 (tickP p) := ⟨by rw [tick_bt _ _ (by omega)]; exact h.1, by rw [tick_bt _ _ (by omega)]; exact h.2.1, by rw [tick_nm _ _ (by omega)]; exact h.2.2.1, by rw [tick_67, h.2.2.2]; rfl⟩
  rw [setP_yes (c := 2) (by unfold ppmC; simp [c.1, c.2.2.1, c.2.2.2]) (by decide)]
  have s := sen_se c.1
  rw [c.2.1] at s
  rw [setP_no (show ppmC (ppmQ (tickP p) 2) = 0 from se_rest s)]
  exact s
theorem f_fall {p : Pt} (h : Se true p) : Fa 3 (setP 6 (p.setB 16 kb16 true)) := by
  obtain ⟨h1, h2, h3, h4, h5⟩ := h
  have e1 : (p.setB 16 kb16 true).bt 2 = true := by rw [setB_bt _ _ _ (by decide)]; exact h1
  have e2 : (p.setB 16 kb16 true).bt 23 = true := by rw [setB_bt _ _ _ (by decide)]; exact h2
  have e3 : (p.setB 16 kb16 true).nm 76 = 3 := by rw [setB_nm _ _ _ (by decide)]; exact h3
  have e4 : (p.setB 16 kb16 true).bt 16 = true := setB_at _ _ _
  rw [setP_yes (c := 3) (by unfold ppmC; simp [e1, e2, e3, e4]) (by decide)]
  have f := fal_fa e1
  rw [setP_no (show ppmC (ppmQ (p.setB 16 kb16 true) 3) = 0 from fa_rest f (by decide))]
  exact f
theorem f_fa {j : Int} {p : Pt} (h : Fa (j + 1) p) (hj : 0 < j) : Fa j (setP 6 (tickP p)) := by
  have c : Fa j (tickP p) := ⟨by rw [tick_bt _ _ (by omega)]; exact h.1, by rw [tick_bt _ _ (by omega)]; exact h.2.1, by rw [tick_nm _ _ (by omega)]; exact h.2.2.1, by rw [tick_67, h.2.2.2]; unfold dec1; rw [if_pos (by omega)]; omega⟩
  rw [setP_no (fa_rest c (by omega))]
  exact c
theorem f_back {p : Pt} (h : Fa 1 p) : Se false (setP 6 (tickP p)) := by
  have c : Fa 0 (tickP p) := ⟨by rw [tick_bt _ _ (by omega)]; exact h.1, by rw [tick_bt _ _ (by omega)]; exact h.2.1, by rw [tick_nm _ _ (by omega)]; exact h.2.2.1, by rw [tick_67, h.2.2.2]; rfl⟩
  rw [setP_yes (c := 2) (by unfold ppmC; simp [c.1, c.2.2.1, c.2.2.2]) (by decide)]
  have s := sen_se c.1
  rw [c.2.1] at s
  rw [setP_no (show ppmC (ppmQ (tickP p) 2) = 0 from se_rest s)]
  exact s
theorem f_end {p : Pt} (h : Se false p) : Ck 3 (setP 6 (p.setB 15 kb15 true)) := by
  obtain ⟨h1, h2, h3, h4, h5⟩ := h
  have e1 : (p.setB 15 kb15 true).bt 2 = true := by rw [setB_bt _ _ _ (by decide)]; exact h1
  have e2 : (p.setB 15 kb15 true).bt 23 = false := by rw [setB_bt _ _ _ (by decide)]; exact h2
  have e3 : (p.setB 15 kb15 true).nm 76 = 3 := by rw [setB_nm _ _ _ (by decide)]; exact h3
  have e4 : (p.setB 15 kb15 true).bt 15 = true := setB_at _ _ _
  rw [setP_yes (c := 1) (by unfold ppmC; simp [e1, e2, e3, e4]) (by decide)]
  have f := chk_ck e1
  rw [setP_no (show ppmC (ppmQ (p.setB 15 kb15 true) 1) = 0 from ck_rest f (by decide))]
  exact f
/-- So many messages were sent, no more than may be. -/
structure Hl (h : Hd) (m : Int) (p : Pt) : Prop where
  idle : p.nm 75 = 1
  cnt : p.nm 64 = m
  le : m ≤ h.nm 5
def outN : Option Ot → Int
  | none => 0
  | some _ => 1
theorem held_step {h : Hd} {m : Int} {l : List Pt} {k : Nat} (hk : k < l.length) (e : Hl h m (gtP l k)) : Hl h (m + outN (ptxU h l k)) (gtP ((ptxO h l k).getD l) k) ∧ ((ptxO h l k).getD l).length = l.length := by
  obtain ⟨p, hp⟩ : ∃ z, gtP l k = z := ⟨_, rfl⟩
  rw [hp] at e
  unfold ptxO ptxU
  rw [hp]
  obtain ⟨C, hC⟩ : ∃ z, ptxC h p = z := ⟨_, rfl⟩
  rw [hC]
  have hc : C = 0 ∨ C = 2 ∨ (C = 3 ∧ p.nm 64 < h.nm 5) := by
    rw [← hC]
    unfold ptxC
    rw [if_pos e.idle]
    split
    · split
      · exact Or.inr (Or.inl rfl)
      · split
        · rename_i q
          exact Or.inr (Or.inr ⟨rfl, q.2.2.1⟩)
        · exact Or.inl rfl
    · exact Or.inl rfl
  rcases hc with rfl | rfl | ⟨rfl, hlt⟩
  · rw [if_pos rfl, if_neg (by decide)]
    refine ⟨?_, rfl⟩
    rw [show (Option.getD none l : List Pt) = l from rfl, hp, show outN none = 0 from rfl, Int.add_zero]
    exact e
  · rw [if_neg (by decide), if_neg (by decide)]
    refine ⟨?_, by rw [show ∀ x : List Pt, (Option.getD (some x) l) = x from fun _ => rfl, List.length_set]⟩
    rw [show ∀ x : List Pt, (Option.getD (some x) l) = x from fun _ => rfl, gtP_put hk, show outN none = 0 from rfl, Int.add_zero]
    show Hl h m (waiP (remP p))
    unfold waiP remP
    exact ⟨by rw [Row.setU_nm _ (by decide), setB_nm _ _ _ (by decide)]; exact e.idle, by rw [Row.setU_nm _ (by decide), setB_nm _ _ _ (by decide)]; exact e.cnt, e.le⟩
  · rw [if_pos rfl, if_neg (by decide)]
    refine ⟨?_, by rw [show ∀ x : List Pt, (Option.getD (some x) l) = x from fun _ => rfl, List.length_set]⟩
    rw [show ∀ x : List Pt, (Option.getD (some x) l) = x from fun _ => rfl, gtP_put hk]
    show Hl h (m + 1) (waiP (sntP p))
    have h5 := h.u8 (j := 5) rfl
    have h6 := p.u8 (j := 64) rfl
    have hc := e.cnt
    unfold waiP sntP
    refine ⟨?_, ?_, by omega⟩
    · rw [Row.setU_nm _ (by decide), setB_nm _ _ _ (by decide), Row.setU_nm _ (by decide), setB_nm _ _ _ (by decide)]; exact e.idle
    · rw [Row.setU_nm _ (by decide), setB_nm _ _ _ (by decide), ← hc]
      exact Row.setU_at _ rfl (wf8 ⟨by omega, by omega⟩)
theorem held_new {h : Hd} {m : Int} {p : Pt} (e : Hl h m p) : Hl h m (p.setB 11 kb11 true) := ⟨by rw [setB_nm _ _ _ (by decide)]; exact e.idle, by rw [setB_nm _ _ _ (by decide)]; exact e.cnt, e.le⟩
def idlP (p : Pt) : Pt := (p.setN 75 kn75 1 wi1).setU 64 0
theorem held_start (h : Hd) (p : Pt) : Hl h 0 (idlP p) := by
  have h5 := h.u8 (j := 5) rfl
  unfold idlP
  exact ⟨by rw [Row.setU_nm _ (by decide)]; exact setN_at _ _ _, Row.setU_at _ rfl (wf8 u0), h5.1⟩
end Go.Proofs.Ytllmadgonobdnaa
