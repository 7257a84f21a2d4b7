/-
  Plain facts of a step: a port's state settles; of other ports one flag alone is turned; a machine comes to rest; what is flushed. No program.
-/
import Derived.Test.YtfjigbmhheekbabPur
namespace Go.Proofs.Ytfjigbmhheekbab
set_option linter.unusedVariables false
set_option maxRecDepth 4000
set_option linter.unusedSimpArgs false
open Go.RowKit

/-! ### a port's state settles -/
theorem does_two (p : Pt) (x y a b : Bool) : doesP a b (doesP x y p) = doesP a b p := by
  refine Row.same fun i hi => ?_
  unfold doesP
  rw [Row.setB_get, Row.setB_get, Row.setB_get, Row.setB_get, Row.setB_get, Row.setB_get]
  by_cases h1 : i = 8
  · simp only [h1, if_true]
  · by_cases h2 : i = 10
    · simp only [h2, if_true, if_false, show ¬ (10 = 8) by decide]
    · simp only [h1, h2, if_false]
theorem does_self (p : Pt) : doesP (p.bt 10) (p.bt 8) p = p := by
  rw [does_8]
  exact setB_self p kb8 rfl
theorem does_bt10 (p : Pt) (x y : Bool) : (doesP x y p).bt 10 = x := by
  unfold doesP
  rw [setB_bt _ _ _ (by decide), setB_at]
theorem does_bt8 (p : Pt) (x y : Bool) : (doesP x y p).bt 8 = y := by
  unfold doesP
  rw [setB_at]
theorem does_bt {p : Pt} {x y : Bool} {i : Nat} (h1 : i ≠ 8) (h2 : i ≠ 10) : (doesP x y p).bt i = p.bt i := by
  unfold doesP
  rw [setB_bt _ _ _ h1, setB_bt _ _ _ h2]
/-- A step, of what it learns and forwards. -/
def stp (x y L F : Bool) : Option (Bool × Bool) :=
  if ((x || y) && !L) = true then some (false, false) else if (y && !F) = true then some (x, false) else if (L && !x) = true then some (true, y) else if ((x && F) && !y) = true then some (true, true) else none
theorem pst_does (p : Pt) (x y : Bool) : pstO (doesP x y p) = (stp x y (p.bt 9) (p.bt 7)).map (fun z => doesP z.1 z.2 p) := by
  unfold pstO stp
  rw [does_bt10, does_bt8, does_bt (i := 9) (by decide) (by decide), does_bt (i := 7) (by decide) (by decide)]
  simp only [does_two]
  split
  · rfl
  split
  · rfl
  split
  · rfl
  split <;> rfl
/-- How many steps are left. -/
def rkS (x y L F : Bool) : Nat := match stp x y L F with | none => 0 | some (a, b) => match stp a b L F with | none => 1 | some _ => 2
theorem rkS_none : ∀ x y L F : Bool, stp x y L F = none → x = L ∧ y = (L && F) := by decide
theorem rkS_some : ∀ x y L F a b : Bool, stp x y L F = some (a, b) → rkS a b L F < rkS x y L F := by decide
theorem rkS_le : ∀ x y L F : Bool, rkS x y L F ≤ 2 := by decide
theorem does_back (p : Pt) (x y : Bool) : ((doesP x y p).setB 10 kb10 (p.bt 10)).setB 8 kb8 (p.bt 8) = p := by
  have h : ((doesP x y p).setB 10 kb10 (p.bt 10)).setB 8 kb8 (p.bt 8) = doesP (p.bt 10) (p.bt 8) (doesP x y p) := rfl
  rw [h, does_two, does_self]
/-! ### other ports -/
theorem set_other {l : List Pt} {k j : Nat} {q : Pt} (h : j ≠ k) : gtP (l.set k q) j = gtP l j := by
  unfold gtP
  rw [List.getD_eq_getElem?_getD, List.getD_eq_getElem?_getD, List.getElem?_set, if_neg (fun e => h e.symm)]
theorem tcm_shape (h : Hd) (l : List Pt) (k : Nat) : tcmO h l k = none ∨ (∃ q, tcmO h l k = some (l.set k q)) ∨ ∃ q, tcmO h l k = some (sprL l k q) := by
  unfold tcmO
  split
  · unfold inaO
    split
    · exact Or.inr (Or.inl ⟨_, rfl⟩)
    · exact Or.inl rfl
  split
  · unfold leaO
    split
    · exact Or.inr (Or.inr ⟨_, rfl⟩)
    split
    · exact Or.inr (Or.inl ⟨_, rfl⟩)
    split
    · exact Or.inr (Or.inl ⟨_, rfl⟩)
    · exact Or.inl rfl
  split
  · unfold actO
    split
    · exact Or.inr (Or.inl ⟨_, rfl⟩)
    split
    · exact Or.inr (Or.inr ⟨_, rfl⟩)
    split
    · exact Or.inr (Or.inl ⟨_, rfl⟩)
    split
    · exact Or.inr (Or.inl ⟨_, rfl⟩)
    · exact Or.inl rfl
  · exact Or.inr (Or.inl ⟨_, rfl⟩)
theorem tcm_len (h : Hd) (l : List Pt) (k : Nat) : ((tcmO h l k).getD l).length = l.length := by
  rcases tcm_shape h l k with e | ⟨q, e⟩ | ⟨q, e⟩ <;> rw [e]
  · rfl
  · exact List.length_set ..
  · exact sprL_len l k q
/-- What another port has become: the same, but that it is asked to tell. -/
theorem tcm_other (h : Hd) (l : List Pt) (k : Nat) {j : Nat} (hj : j < l.length) (hn : j ≠ k) : gtP ((tcmO h l k).getD l) j = gtP l j ∨ gtP ((tcmO h l k).getD l) j = (gtP l j).setB 27 kb27 true := by
  rcases tcm_shape h l k with e | ⟨q, e⟩ | ⟨q, e⟩ <;> rw [e]
  · exact Or.inl rfl
  · exact Or.inl (set_other hn)
  · refine Or.inr ?_
    show gtP (sprL l k q) j = _
    rw [spr_at q hj, if_neg hn]
theorem oth_27 {p q : Pt} (h : q = p ∨ q = p.setB 27 kb27 true) (e : p.bt 27 = true) : q.bt 27 = true := by
  rcases h with rfl | rfl
  · exact e
  · exact setB_at _ _ _
theorem oth_back {p q : Pt} (h : q = p ∨ q = p.setB 27 kb27 true) : q.setB 27 kb27 (p.bt 27) = p := by
  rcases h with rfl | rfl
  · exact setB_self _ kb27 rfl
  · refine Row.same fun i hi => ?_
    rw [Row.setB_get, Row.setB_get]
    by_cases h1 : i = 27
    · rw [if_pos h1, h1, p.bit kb27]
    · rw [if_neg h1, if_neg h1]
/-! ### what each deed leaves -/
theorem qui_74 (p : Pt) : (quiP p).nm 74 = 1 := setN_at _ _ _ _
theorem qui_6 (p : Pt) : (quiP p).bt 6 = true := by
  unfold quiP
  rw [setN_bt _ _ _ _ (by decide), setU_bt _ u0 (by decide), setB_bt _ _ _ (by decide), setB_at]
theorem qui_bt {p : Pt} {i : Nat} (h1 : i ≠ 6) (h2 : i ≠ 26) (h3 : i ≠ 71) (h4 : i ≠ 74) : (quiP p).bt i = p.bt i := by
  unfold quiP
  rw [setN_bt _ _ _ _ h4, setU_bt _ u0 h3, setB_bt _ _ _ h2, setB_bt _ _ _ h1]
theorem lrn_74 (p : Pt) : (lrnP p).nm 74 = 2 := setN_at _ _ _ _
theorem lrn_bt {p : Pt} {i : Nat} (h1 : i ≠ 17) (h2 : i ≠ 19) (h3 : i ≠ 18) (h4 : i ≠ 27) (h5 : i ≠ 74) : (lrnP p).bt i = p.bt i := by
  unfold lrnP
  rw [setN_bt _ _ _ _ h5, setB_bt _ _ _ h4, setB_bt _ _ _ h3, setB_bt _ _ _ h2, setB_bt _ _ _ h1]
theorem lrn_30 (p : Pt) : (lrnP p).nm 30 = p.nm 30 := by
  unfold lrnP
  rw [setN_nm _ _ _ _ (by decide), setB_nm _ _ _ (by decide), setB_nm _ _ _ (by decide), setB_nm _ _ _ (by decide), setB_nm _ _ _ (by decide)]
theorem lrn_17 (p : Pt) : (lrnP p).bt 17 = false := by
  unfold lrnP
  rw [setN_bt _ _ _ _ (by decide), setB_bt _ _ _ (by decide), setB_bt _ _ _ (by decide), setB_bt _ _ _ (by decide), setB_at]
theorem lrn_19 (p : Pt) : (lrnP p).bt 19 = false := by
  unfold lrnP
  rw [setN_bt _ _ _ _ (by decide), setB_bt _ _ _ (by decide), setB_bt _ _ _ (by decide), setB_at]
theorem lrn_18 (p : Pt) : (lrnP p).bt 18 = false := by
  unfold lrnP
  rw [setN_bt _ _ _ _ (by decide), setB_bt _ _ _ (by decide), setB_at]
theorem lrn_27 (p : Pt) : (lrnP p).bt 27 = false := by
  unfold lrnP
  rw [setN_bt _ _ _ _ (by decide), setB_at]
theorem det_74 (h : Hd) (p : Pt) : (detP h p).nm 74 = 3 := by
  unfold detP actP
  exact setN_at _ _ _ _
theorem det_bt (h : Hd) {p : Pt} {i : Nat} (h1 : i ≠ 11) (h2 : i ≠ 71) (h3 : i ≠ 74) : (detP h p).bt i = p.bt i := by
  unfold detP actP
  rw [setN_bt _ _ _ _ h3, setB_bt _ _ _ h1, nwP_bt h p h2 h1]
theorem det_30 (h : Hd) (p : Pt) : (detP h p).nm 30 = p.nm 30 := by
  unfold detP actP
  rw [setN_nm _ _ _ _ (by decide), setB_nm _ _ _ (by decide), nwP_nm h p (by decide) (by decide)]
theorem hea_bt {q : Pt} {i : Nat} (h1 : i ≠ 19) (h2 : i ≠ 17) (h3 : i ≠ 26) : (heaP q).bt i = q.bt i := by
  unfold heaP
  rw [setB_bt _ _ _ h3, setB_bt _ _ _ h2, setB_bt _ _ _ h1]
theorem hea_74 (q : Pt) : (heaP q).nm 74 = q.nm 74 := by
  unfold heaP
  rw [setB_nm _ _ _ (by decide), setB_nm _ _ _ (by decide), setB_nm _ _ _ (by decide)]
theorem ntf_6 (h : Hd) (p : Pt) : (ntfP h p).bt 6 = p.bt 6 := by
  unfold ntfP
  rw [hea_bt (by decide) (by decide) (by decide)]
  unfold heaQ
  split
  · exact nwP_bt h p (by decide) (by decide)
  · rfl
theorem ntf_74 (h : Hd) (p : Pt) : (ntfP h p).nm 74 = p.nm 74 := by
  unfold ntfP
  rw [hea_74]
  unfold heaQ
  split
  · exact nwP_nm h p (by decide) (by decide)
  · rfl
theorem prg_6 (h : Hd) (p : Pt) : (prgP h p).bt 6 = true := by
  unfold prgP flsP
  rw [setB_bt _ _ _ (by decide), setB_at]
theorem prg_27 (h : Hd) (p : Pt) : (prgP h p).bt 27 = false := by
  unfold prgP flsP
  exact setB_at _ _ _
theorem prg_74 (h : Hd) (p : Pt) : (prgP h p).nm 74 = p.nm 74 := by
  unfold prgP flsP
  rw [setB_nm _ _ _ (by decide), setB_nm _ _ _ (by decide), nwP_nm h p (by decide) (by decide)]
theorem ack_6 (p : Pt) : (ackP p).bt 6 = p.bt 6 := by
  unfold ackP
  rw [setB_bt _ _ _ (by decide), setU_bt _ u0 (by decide)]
theorem ack_74 (p : Pt) : (ackP p).nm 74 = p.nm 74 := by
  unfold ackP
  rw [setB_nm _ _ _ (by decide), setU_nm' _ u0 (by decide)]
theorem ack_27 (p : Pt) : (ackP p).bt 27 = p.bt 27 := by
  unfold ackP
  rw [setB_bt _ _ _ (by decide), setU_bt _ u0 (by decide)]
/-! ### rest -/
/-- Nothing came. -/
structure Cl (p : Pt) : Prop where
  b17 : p.bt 17 = false
  b19 : p.bt 19 = false
  b18 : p.bt 18 = false
  b27 : p.bt 27 = false
theorem Cl.tld {p : Pt} (c : Cl p) : tldB p = false := by unfold tldB; rw [c.b17, c.b19, c.b18, c.b27]; rfl
def rkT (p : Pt) : Nat :=
  if p.nm 74 = 1 then (if (p.bt 9 && !(p.bt 6)) = true then 2 else 0)
  else if p.nm 74 = 2 then (if (hasB p && p.bt 7) = true then 1 else if ((!(hasB p) && !(p.bt 9)) && !(p.bt 10)) = true then 1 else 0)
  else if p.nm 74 = 3 then (if hasB p = false then 2 else 0) else 1
theorem rkT_le (p : Pt) : rkT p ≤ 2 := by
  unfold rkT
  split
  · split <;> omega
  split
  · split
    · omega
    split <;> omega
  split
  · split <;> omega
  · omega
theorem rk_qui (p : Pt) : rkT (quiP p) = 0 := by
  unfold rkT
  rw [if_pos (qui_74 p), qui_6, if_neg (by simp)]
theorem rk_lrn (p : Pt) : rkT (lrnP p) ≤ 1 := by
  unfold rkT
  rw [if_neg (by rw [lrn_74]; decide), if_pos (lrn_74 p)]
  split
  · omega
  split <;> omega
theorem rk_det (h : Hd) (p : Pt) (e : hasB p = true) : rkT (detP h p) = 0 := by
  have e2 : hasB (detP h p) = true := by
    unfold hasB at e ⊢
    rw [det_30]
    exact e
  unfold rkT
  rw [if_neg (by rw [det_74]; decide), if_neg (by rw [det_74]; decide), if_pos (det_74 h p), if_neg (by rw [e2]; decide)]
theorem Cl.qui {p : Pt} (c : Cl p) : Cl (quiP p) := by
  refine ⟨?_, ?_, ?_, ?_⟩ <;> rw [qui_bt (by decide) (by decide) (by decide) (by decide)]
  · exact c.b17
  · exact c.b19
  · exact c.b18
  · exact c.b27
theorem Cl.lrn (p : Pt) : Cl (lrnP p) := ⟨lrn_17 p, lrn_19 p, lrn_18 p, lrn_27 p⟩
theorem Cl.det {p : Pt} (c : Cl p) (h : Hd) : Cl (detP h p) := by
  refine ⟨?_, ?_, ?_, ?_⟩ <;> rw [det_bt h (by decide) (by decide) (by decide)]
  · exact c.b17
  · exact c.b19
  · exact c.b18
  · exact c.b27
theorem rests (h : Hd) {l : List Pt} {k : Nat} (hk : k < l.length) (c : Cl (gtP l k)) :
    (tcmO h l k = none) ∨ ∃ L, tcmO h l k = some L ∧ L.length = l.length ∧ Cl (gtP L k) ∧ rkT (gtP L k) < rkT (gtP l k) := by
  obtain ⟨p, hp⟩ : ∃ p, gtP l k = p := ⟨_, rfl⟩
  rw [hp] at c ⊢
  have ct := c.tld
  unfold tcmO
  rw [hp]
  by_cases h1 : p.nm 74 = 1
  · rw [if_pos h1]
    unfold inaO
    rw [hp]
    by_cases e : (p.bt 9 && !(p.bt 6)) = true
    · rw [if_pos e]
      refine Or.inr ⟨_, rfl, List.length_set .., ?_, ?_⟩ <;> rw [gtP_put hk]
      · exact Cl.lrn p
      · have : rkT p = 2 := by unfold rkT; rw [if_pos h1, if_pos e]
        have := rk_lrn p
        omega
    · rw [if_neg e]
      exact Or.inl rfl
  rw [if_neg h1]
  by_cases h2 : p.nm 74 = 2
  · rw [if_pos h2]
    unfold leaO
    rw [hp]
    by_cases e : (hasB p && p.bt 7) = true
    · rw [if_pos e]
      refine Or.inr ⟨_, rfl, sprL_len .., ?_, ?_⟩ <;> rw [spr_at _ hk, if_pos rfl]
      · exact c.det h
      · have e1 : rkT p = 1 := by unfold rkT; rw [if_neg h1, if_pos h2, if_pos e]
        have e2 := rk_det h p (by simp only [Bool.and_eq_true] at e; exact e.1)
        omega
    rw [if_neg e]
    by_cases e3 : ((!(hasB p) && !(p.bt 9)) && !(p.bt 10)) = true
    · rw [if_pos (by rw [e3, ct]; rfl)]
      refine Or.inr ⟨_, rfl, List.length_set .., ?_, ?_⟩ <;> rw [gtP_put hk]
      · exact c.qui
      · have e1 : rkT p = 1 := by unfold rkT; rw [if_neg h1, if_pos h2, if_neg e, if_pos e3]
        have e2 := rk_qui p
        omega
    · rw [if_neg (by intro x; rw [Bool.and_eq_true] at x; exact e3 x.1), if_neg (by rw [ct]; decide)]
      exact Or.inl rfl
  rw [if_neg h2]
  by_cases h3 : p.nm 74 = 3
  · rw [if_pos h3]
    unfold actO
    rw [hp]
    by_cases e : hasB p = false
    · rw [if_pos e]
      refine Or.inr ⟨_, rfl, List.length_set .., ?_, ?_⟩ <;> rw [gtP_put hk]
      · exact Cl.lrn p
      · have : rkT p = 2 := by unfold rkT; rw [if_neg h1, if_neg h2, if_pos h3, if_pos e]
        have := rk_lrn p
        omega
    · rw [if_neg e, if_neg (by rw [c.b19, c.b17]; decide), if_neg (by rw [c.b27]; decide), if_neg (by rw [c.b18]; decide)]
      exact Or.inl rfl
  rw [if_neg h3]
  refine Or.inr ⟨_, rfl, List.length_set .., ?_, ?_⟩ <;> rw [gtP_put hk]
  · exact c.qui
  · have e1 : rkT p = 1 := by unfold rkT; rw [if_neg h1, if_neg h2, if_neg h3]
    have e2 := rk_qui p
    omega
/-! ### what is flushed -/
def tolB (B : Bool) (p q : Pt) : Bool := (((((B && (p.nm 74 == 3)) && p.bt 27) && !(q.bt 27)) && (q.nm 74 == 3)) && !(p.bt 17)) && !(p.bt 19)
def qutB (B : Bool) (q : Pt) : Bool := B && (q.nm 74 == 1)
theorem flushes (h : Hd) {l : List Pt} {k : Nat} (hk : k < l.length) (p q : Pt) (B : Bool) (hp : gtP l k = p) (hq : gtP ((tcmO h l k).getD l) k = q) (hB : (tcmO h l k).isSome = B) :
    q.bt 6 = ((p.bt 6 || tolB B p q) || qutB B q) := by
  unfold tcmO at hq hB
  rw [hp] at hq hB
  by_cases h1 : p.nm 74 = 1
  · rw [if_pos h1] at hq hB
    unfold inaO at hq hB
    rw [hp] at hq hB
    by_cases e : (p.bt 9 && !(p.bt 6)) = true
    · rw [if_pos e] at hq hB
      have hq : gtP (l.set k (lrnP p)) k = q := hq
      rw [gtP_put hk] at hq
      subst hq
      unfold tolB qutB
      rw [lrn_bt (i := 6) (by decide) (by decide) (by decide) (by decide) (by decide), lrn_74, h1]
      simp
    · rw [if_neg e] at hq hB
      have hq : gtP l k = q := hq
      rw [hp] at hq
      subst hq
      subst hB
      simp [tolB, qutB]
  rw [if_neg h1] at hq hB
  by_cases h2 : p.nm 74 = 2
  · rw [if_pos h2] at hq hB
    unfold leaO at hq hB
    rw [hp] at hq hB
    by_cases e : (hasB p && p.bt 7) = true
    · rw [if_pos e] at hq hB
      have hq : gtP (sprL l k (detP h p)) k = q := hq
      rw [spr_at _ hk, if_pos rfl] at hq
      subst hq
      unfold tolB qutB
      rw [det_bt h (i := 6) (by decide) (by decide) (by decide), det_74, h2]
      simp
    rw [if_neg e] at hq hB
    by_cases e3 : (((!(hasB p) && !(p.bt 9)) && !(p.bt 10)) && !(tldB p)) = true
    · rw [if_pos e3] at hq hB
      have hq : gtP (l.set k (quiP p)) k = q := hq
      rw [gtP_put hk] at hq
      subst hq
      subst hB
      unfold qutB
      rw [qui_6, qui_74]
      simp
    rw [if_neg e3] at hq hB
    by_cases e4 : tldB p = true
    · rw [if_pos e4] at hq hB
      have hq : gtP (l.set k (lrnP p)) k = q := hq
      rw [gtP_put hk] at hq
      subst hq
      unfold tolB qutB
      rw [lrn_bt (i := 6) (by decide) (by decide) (by decide) (by decide) (by decide), lrn_74, h2]
      simp
    · rw [if_neg e4] at hq hB
      have hq : gtP l k = q := hq
      rw [hp] at hq
      subst hq
      subst hB
      simp [tolB, qutB]
  rw [if_neg h2] at hq hB
  by_cases h3 : p.nm 74 = 3
  · rw [if_pos h3] at hq hB
    unfold actO at hq hB
    rw [hp] at hq hB
    by_cases e : hasB p = false
    · rw [if_pos e] at hq hB
      have hq : gtP (l.set k (lrnP p)) k = q := hq
      rw [gtP_put hk] at hq
      subst hq
      unfold tolB qutB
      rw [lrn_bt (i := 6) (by decide) (by decide) (by decide) (by decide) (by decide), lrn_74]
      simp
    rw [if_neg e] at hq hB
    by_cases e2 : (p.bt 19 || p.bt 17) = true
    · rw [if_pos e2] at hq hB
      have hq : gtP (sprL l k (ntfP h p)) k = q := hq
      rw [spr_at _ hk, if_pos rfl] at hq
      subst hq
      unfold tolB qutB
      rw [ntf_6, ntf_74, h3]
      rcases Bool.or_eq_true_iff.1 e2 with x | x <;> rw [x] <;> simp
    rw [if_neg e2] at hq hB
    have e19 : p.bt 19 = false ∧ p.bt 17 = false := by simpa using e2
    by_cases e5 : p.bt 27 = true
    · rw [if_pos e5] at hq hB
      have hq : gtP (l.set k (prgP h p)) k = q := hq
      rw [gtP_put hk] at hq
      subst hq
      subst hB
      unfold tolB qutB
      rw [prg_6, prg_74, prg_27, h3, e5, e19.1, e19.2]
      simp
    rw [if_neg e5] at hq hB
    have e5' : p.bt 27 = false := by simpa using e5
    by_cases e6 : p.bt 18 = true
    · rw [if_pos e6] at hq hB
      have hq : gtP (l.set k (ackP p)) k = q := hq
      rw [gtP_put hk] at hq
      subst hq
      unfold tolB qutB
      rw [ack_6, ack_74, h3, e5']
      simp
    · rw [if_neg e6] at hq hB
      have hq : gtP l k = q := hq
      rw [hp] at hq
      subst hq
      subst hB
      simp [tolB, qutB]
  rw [if_neg h3] at hq hB
  have hq : gtP (l.set k (quiP p)) k = q := hq
  rw [gtP_put hk] at hq
  subst hq
  subst hB
  unfold qutB
  rw [qui_6, qui_74]
  simp
end Go.Proofs.Ytfjigbmhheekbab
