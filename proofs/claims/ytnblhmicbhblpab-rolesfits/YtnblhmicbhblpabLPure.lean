/-
  What to select does, of lists of ports: again; one root; the best; roles that fit. Plain laws.
-/
import Derived.Test.YtnblhmicbhblpabSel
namespace Go.Proofs.Ytnblhmicbhblpab
set_option linter.unusedVariables false
set_option maxRecDepth 4000
set_option linter.unusedSimpArgs false
open Go.RowKit

/-- Two ports that differ only in what to select changes. -/
def kin (p q : Pt) : Prop := ∀ j, still j → p.cl[j]? = q.cl[j]?
theorem kin.nm {p q : Pt} (h : kin p q) {j : Nat} (hj : still j) : p.nm j = q.nm j := nm_of (h j hj)
theorem still0 : still 0 := by unfold still; omega
theorem still1 : still 1 := by unfold still; omega
theorem still29 : still 29 := by unfold still; omega
theorem still36 {j : Nat} (h : j < 4) : still (36 + j) := by unfold still; omega
theorem still44 {j : Nat} (h : j < 4) : still (44 + j) := by unfold still; omega
theorem kin.add {p q : Pt} (h : kin p q) : addV p = addV q := by
  unfold addV
  apply Row.ext'
  simp only
  rw [h.nm still1, h.nm (still36 (j := 0) (by omega)), h.nm (still36 (j := 1) (by omega)), h.nm (still36 (j := 2) (by omega)), h.nm (still36 (j := 3) (by omega))]
theorem kin.ow {p q : Pt} {g h : Hd} (k : kin p q) (e : g.nm 0 = h.nm 0) : owB g p = owB h q := by
  unfold owB
  rw [k.nm (still36 (j := 2) (by omega)), e]
theorem kin.ld {p q : Pt} {g h : Hd} (k : kin p q) (e : g.nm 0 = h.nm 0) : ldB g p = ldB h q := by
  unfold ldB
  rw [k.nm still29, k.ow e]
theorem own_of {g h : Hd} (e : g.nm 0 = h.nm 0) : ownV g = ownV h := by
  unfold ownV
  apply Row.ext'
  simp only
  rw [e]
theorem rtF_kin {g h : Hd} {l m : List Pt} (e : g.nm 0 = h.nm 0) (k : ∀ i, kin (gtP l i) (gtP m i)) : ∀ i, rtF g l i = rtF h m i
  | 0 => by simp only [rtF]; rw [own_of e]
  | i + 1 => by
    show rtS g l i (rtF g l i) = rtS h m i (rtF h m i)
    rw [rtF_kin e k i]
    unfold rtS tkB
    rw [(k i).ld e, (k i).add, (k i).nm still0, (k _).nm still0]
theorem roo_kin {g h : Hd} {l m : List Pt} (e : g.nm 0 = h.nm 0) (hl : l.length = m.length) (k : ∀ i, kin (gtP l i) (gtP m i)) : rooV g l = rooV h m ∧ rooK g l = rooK h m := by
  unfold rooV rooK
  rw [rtF_kin e k, hl]
  exact ⟨rfl, rfl⟩
theorem ridN_kin {g h : Hd} {l m : List Pt} (e : g.nm 0 = h.nm 0) (hl : l.length = m.length) (k : ∀ i, kin (gtP l i) (gtP m i)) : ridN g l = ridN h m := by
  unfold ridN
  rw [(roo_kin e hl k).2, (k _).nm still0]
theorem rtmT_kin {g h : Hd} {l m : List Pt} (e : g.nm 0 = h.nm 0) (et : tOfH g = tOfH h) (hl : l.length = m.length) (k : ∀ i, kin (gtP l i) (gtP m i)) : rtmT g l = rtmT h m := by
  unfold rtmT
  rw [(roo_kin e hl k).2, et, priT_of (p := gtP l (rooK h m).toNat) (q := gtP m (rooK h m).toNat) (fun j hj => k _ _ (still44 hj))]
theorem gtP_out {l : List Pt} {i : Nat} (h : ¬ i < l.length) : gtP l i = zeroP := by
  unfold gtP
  rw [List.getD_eq_getElem?_getD, List.getElem?_eq_none (by omega)]
  rfl
theorem kin_idx {f : Nat → Pt → Pt} {l : List Pt} (hf : ∀ i p, kin (f i p) p) : ∀ i, kin (gtP (l.mapIdx f) i) (gtP l i) := by
  intro i
  by_cases hi : i < l.length
  · rw [gtP_idx hi]
    exact hf i _
  · rw [gtP_out hi, gtP_out (by simpa using hi)]
    exact fun j _ => rfl
theorem sel_kin (H : Hd) (r : Bool) (p : Pt) : kin (selP H r p) p := fun j hj => sel_still H r p hj
theorem selL_kin (h : Hd) (l : List Pt) : ∀ i, kin (gtP (selL h l) i) (gtP l i) := kin_idx fun i p => sel_kin _ _ p
theorem desV_kin (H : Hd) (v : Vc) {p q : Pt} (k : kin p q) : desV H v p = desV H v q := by
  unfold desV
  apply Row.ext'
  simp only
  rw [k.nm still0]
/-- What is wanted hangs on what is told, and on what stays. -/
theorem wan_kin (H : Hd) (r : Bool) {p q : Pt} (k : kin p q) : wanN H r (telP H p) = wanN H r (telP H q) ∧ heaN H r (telP H p) = heaN H r (telP H q) ∧ outB (telP H p) = outB (telP H q) ∧ (telP H p).nm 29 = (telP H q).nm 29 := by
  have e29 : (telP H p).nm 29 = (telP H q).nm 29 := by rw [tel_nm H p (by omega), tel_nm H q (by omega), k.nm still29]
  have e38 : (telP H p).nm 38 = (telP H q).nm 38 := by rw [tel_nm H p (by omega), tel_nm H q (by omega), k.nm (still36 (j := 2) (by omega))]
  have ep : pri (telP H p) = pri (telP H q) := by rw [tel_pri, tel_pri]; exact pri_of fun j hj => k _ (still36 hj)
  have et : priT (telP H p) = priT (telP H q) := by rw [tel_priT, tel_priT]; exact priT_of fun j hj => k _ (still44 hj)
  have ed : dsg (telP H p) = dsg (telP H q) := by rw [tel_dsg, tel_dsg, desV_kin H _ k]
  have eh : heaN H r (telP H p) = heaN H r (telP H q) := by unfold heaN owB; rw [ep, ed, e38]
  refine ⟨by unfold wanN; rw [e29, eh], eh, ?_, e29⟩
  unfold outB
  rw [ep, ed, et, tel_dsgT, tel_dsgT]
theorem sel_cell (H : Hd) (r : Bool) (p : Pt) (i : Nat) : (selP H r p).cl[i]? = if i = 28 then some (.bool (updB H r (telP H p))) else if i = 31 then some (.int .i64 (wanN H r (telP H p))) else if i = 22 then some (.bool true) else if i = 21 then some (.bool false) else (telP H p).cl[i]? := by
  unfold selP
  rw [asgP_get]
theorem sel_28 (H : Hd) (r : Bool) (p : Pt) : (selP H r p).bt 28 = updB H r (telP H p) := by
  have := sel_cell H r p 28
  unfold Row.bt
  rw [this]
  rfl
theorem sel_31 (H : Hd) (r : Bool) (p : Pt) : (selP H r p).nm 31 = wanN H r (telP H p) := by
  have := sel_cell H r p 31
  unfold Row.nm
  rw [this]
  rfl
theorem sel_22 (H : Hd) (r : Bool) (p : Pt) : (selP H r p).bt 22 = true := by
  have := sel_cell H r p 22
  unfold Row.bt
  rw [this]
  rfl
theorem sel_21 (H : Hd) (r : Bool) (p : Pt) : (selP H r p).bt 21 = false := by
  have := sel_cell H r p 21
  unfold Row.bt
  rw [this]
  rfl
/-- Two ports that differ in what to select overwrites come to the same. -/
theorem sel_same (H : Hd) (r : Bool) {p q : Pt} (k : kin p q) (hu : updB H r (telP H p) = updB H r (telP H q)) : selP H r p = selP H r q := by
  refine Row.same fun i _ => ?_
  rw [sel_cell, sel_cell, (wan_kin H r k).1, hu]
  by_cases h1 : i = 28
  · simp only [if_pos h1]
  · by_cases h2 : i = 31
    · simp only [if_neg h1, if_pos h2]
    · by_cases h3 : i = 22
      · simp only [if_neg h1, if_neg h2, if_pos h3]
      · by_cases h4 : i = 21
        · simp only [if_neg h1, if_neg h2, if_neg h3, if_pos h4]
        · simp only [if_neg h1, if_neg h2, if_neg h3, if_neg h4]
          rw [telP_get, telP_get]
          by_cases h5 : 40 ≤ i ∧ i < 44
          · simp only [if_pos h5]
          · by_cases h6 : 32 ≤ i ∧ i < 36
            · simp only [if_neg h5, if_pos h6]
              rw [desV_kin H _ k]
            · simp only [if_neg h5, if_neg h6]
              exact k i (by unfold still; omega)
theorem sel_again (H : Hd) (r : Bool) (p : Pt) : selP H r (selP H r p) = selP H r p := by
  have k := sel_kin H r p
  obtain ⟨e1, e2, e3, e4⟩ := wan_kin H r k
  refine sel_same H r k ?_
  unfold updB
  rw [e2, e3, e4, tel_bt H (selP H r p) (by omega), sel_28, tel_bt H p (by omega)]
  unfold updB
  rw [tel_bt H p (by omega)]
  by_cases h1 : (telP H p).nm 29 = 1
  · simp only [if_pos h1]
  · by_cases h2 : (telP H p).nm 29 = 2
    · simp only [if_neg h1, if_pos h2]
      cases p.bt 28 <;> cases outB (telP H p) <;> rfl
    · by_cases h3 : (telP H p).nm 29 = 3
      · simp only [if_neg h1, if_neg h2, if_pos h3]
      · simp only [if_neg h1, if_neg h2, if_neg h3]
theorem tOfH_S (h : Hd) (l : List Pt) : tOfH (hdS h l) = tOfH h := Row.ext' (sub_is (ks' := kdT) (o := 1) (by decide) (fun j hj => by
  rw [lenT] at hj
  rw [hdS_cell h l (by omega)]
  show h.cl[1 + j]? = ((h.cl.drop 1).take 4)[j]?
  rw [List.getElem?_take, if_pos hj, List.getElem?_drop]))
theorem hd_ext {g h : Hd} (h1 : ∀ j, j < 7 → g.cl[j]? = h.cl[j]?) (h2 : g.nm 7 = h.nm 7) (h3 : rOf g = rOf h) (h4 : uOf g = uOf h) : g = h := by
  have q3 := congrArg Row.cl h3
  have q4 := congrArg Row.cl h4
  simp only [rOf, uOf] at q3 q4
  refine Row.same fun j hj => ?_
  rw [lenH] at hj
  by_cases a1 : j < 7
  · exact h1 j a1
  · by_cases a2 : j = 7
    · subst a2
      rw [g.num kh7, h.num kh7, h2]
    · by_cases a3 : j < 12
      · have := congrArg (fun x => x[j - 8]?) q3
        simp only [List.getElem?_take, if_pos (show j - 8 < 4 by omega), List.getElem?_drop, show 8 + (j - 8) = j by omega] at this
        exact this
      · have := congrArg (fun x => x[j - 12]?) q4
        simp only [List.getElem?_take, if_pos (show j - 12 < 4 by omega), List.getElem?_drop, show 12 + (j - 12) = j by omega] at this
        exact this
theorem hdS_again (h : Hd) (l : List Pt) : hdS (hdS h l) (selL h l) = hdS h l := by
  have k := selL_kin h l
  have hl := selL_len h l
  have e := hdS_nm0 h l
  refine hd_ext (fun j hj => by rw [hdS_cell _ _ hj]) ?_ ?_ ?_
  · rw [hdS_id, hdS_id, ridN_kin e hl k]
  · rw [hdS_root, hdS_root, (roo_kin e hl k).1]
  · rw [hdS_rt, hdS_rt, rtmT_kin e (tOfH_S h l) hl k]
theorem selL_is (g : Hd) (m : List Pt) : selL g m = m.mapIdx fun i p => selP (hdS g m) (isK (rooK g m) i) p := rfl
theorem selL_again (h : Hd) (l : List Pt) : selL (hdS h l) (selL h l) = selL h l := by
  have k := selL_kin h l
  have hl := selL_len h l
  have e := hdS_nm0 h l
  have ek := (roo_kin e hl k).2
  rw [selL_is (hdS h l) (selL h l), hdS_again, ek, selL_is h l]
  generalize hdS h l = H
  generalize rooK h l = K
  refine List.ext_getElem? fun j => ?_
  rw [List.getElem?_mapIdx, List.getElem?_mapIdx]
  cases l[j]? with
  | none => rfl
  | some p =>
    simp only [Option.map_some]
    rw [sel_again]
/-! ### a step -/
def anyR (l : List Pt) : Bool := l.any fun p => p.bt 21
def stpB (h : Hd) (l : List Pt) : Bool := !(h.bt 6) || anyR l
def stpH (h : Hd) (l : List Pt) : Hd := if stpB h l = true then hdS (h.setB 6 kh6 true) l else h
def stpL (h : Hd) (l : List Pt) : List Pt := if stpB h l = true then selL (h.setB 6 kh6 true) l else l
theorem stpL_len (h : Hd) (l : List Pt) : (stpL h l).length = l.length := by
  unfold stpL
  split
  · exact selL_len _ _
  · rfl
theorem any_sel (h : Hd) (l : List Pt) : anyR (selL h l) = false := by
  unfold anyR
  rw [List.any_eq_false]
  intro q hq
  obtain ⟨j, hj, e⟩ := List.mem_iff_getElem.1 hq
  have hj' : j < l.length := by rw [← selL_len h l]; exact hj
  have := gtP_at (l := selL h l) (i := j) hj
  rw [List.getElem?_eq_getElem hj, e] at this
  have e2 : q = selP (hdS h l) (isK (rooK h l) j) (gtP l j) := by
    rw [Option.some.inj this]
    exact gtP_idx (f := fun i p => selP (hdS h l) (isK (rooK h l) i) p) hj'
  rw [e2, sel_21]
  decide
theorem stp_sel (h : Hd) (l : List Pt) : stpB (hdS h l) (selL h l) = !(h.bt 6) := by
  unfold stpB
  rw [any_sel, hdS_bt]
  cases h.bt 6 <;> rfl
/-- Ports that are wanted as nothing. -/
def noP (p : Pt) : Pt := p.setN 31 kn31 0 wi0
theorem no_kin (p : Pt) : kin (noP p) p := fun j hj => by
  unfold noP
  rw [Row.setN_get, if_neg hj.2.2.2.1]
theorem no_sel (H : Hd) (r : Bool) (p : Pt) : selP H r (noP p) = selP H r p := by
  have k := no_kin p
  obtain ⟨e1, e2, e3, e4⟩ := wan_kin H r k
  refine sel_same H r k ?_
  have e28 : (telP H (noP p)).bt 28 = (telP H p).bt 28 := by
    rw [tel_bt H _ (by omega), tel_bt H _ (by omega)]
    exact bt_of (by unfold noP; rw [Row.setN_get, if_neg (by omega)])
  unfold updB
  rw [e2, e3, e4, e28]
theorem no_all (h : Hd) (l : List Pt) : hdS h (l.map noP) = hdS h l ∧ selL h (l.map noP) = selL h l := by
  have k : ∀ i, kin (gtP (l.map noP) i) (gtP l i) := by
    have := kin_idx (f := fun _ p => noP p) (l := l) (fun i p => no_kin p)
    have e : l.mapIdx (fun _ p => noP p) = l.map noP := by
      refine List.ext_getElem? fun j => ?_
      rw [List.getElem?_mapIdx, List.getElem?_map]
    rw [e] at this
    exact this
  have hl : (l.map noP).length = l.length := by simp
  obtain ⟨e1, e2⟩ := roo_kin (g := h) (h := h) rfl hl k
  have eh : hdS h (l.map noP) = hdS h l := by
    refine hd_ext (fun j hj => by rw [hdS_cell _ _ hj, hdS_cell _ _ hj]) ?_ ?_ ?_
    · rw [hdS_id, hdS_id, ridN_kin rfl hl k]
    · rw [hdS_root, hdS_root, e1]
    · rw [hdS_rt, hdS_rt, rtmT_kin rfl rfl hl k]
  refine ⟨eh, ?_⟩
  unfold selL
  rw [eh, e2]
  refine List.ext_getElem? fun j => ?_
  rw [List.getElem?_mapIdx, List.getElem?_mapIdx, List.getElem?_map]
  cases l[j]? with
  | none => rfl
  | some p =>
    simp only [Option.map_some]
    rw [no_sel]
/-! ### one root, the best -/
theorem rtF_form (h : Hd) (l : List Pt) : ∀ i, ((rtF h l i).2 = -1 ∧ (rtF h l i).1 = ownV h) ∨ ∃ k : Nat, k < i ∧ (rtF h l i).2 = (k : Int) ∧ ldB h (gtP l k) = true ∧ (rtF h l i).1 = addV (gtP l k)
  | 0 => Or.inl ⟨rfl, rfl⟩
  | i + 1 => by
    have ih := rtF_form h l i
    show ((rtS h l i (rtF h l i)).2 = -1 ∧ (rtS h l i (rtF h l i)).1 = ownV h) ∨ ∃ k : Nat, k < i + 1 ∧ (rtS h l i (rtF h l i)).2 = (k : Int) ∧ ldB h (gtP l k) = true ∧ (rtS h l i (rtF h l i)).1 = addV (gtP l k)
    unfold rtS
    split
    · rename_i hb
      refine Or.inr ⟨i, by omega, rfl, ?_, rfl⟩
      simp only [Bool.and_eq_true] at hb
      exact hb.1
    · rcases ih with h1 | ⟨k, hk, h1⟩
      · exact Or.inl h1
      · exact Or.inr ⟨k, by omega, h1⟩
theorem add_own {h : Hd} {p : Pt} (hb : ldB h p = true) : addV p ≠ ownV h := by
  intro e
  have e2 : (addV p).nm 2 = (ownV h).nm 2 := by rw [e]
  have e3 : p.nm 38 = h.nm 0 := e2
  unfold ldB owB sameA at hb
  rw [e3] at hb
  simp at hb
/-- Either the bridge is the root, or one port leads there. -/
theorem roo_form (h : Hd) (l : List Pt) : (rooK h l = -1 ∧ rooV h l = ownV h) ∨ ∃ k : Nat, k < l.length ∧ rooK h l = (k : Int) ∧ ldB h (gtP l k) = true ∧ rooV h l = addV (gtP l k) := rtF_form h l l.length
theorem roo_own (h : Hd) (l : List Pt) : rooV h l = ownV h ↔ rooK h l = -1 := by
  rcases roo_form h l with ⟨h1, h2⟩ | ⟨k, _, h1, h2, h3⟩
  · exact ⟨fun _ => h1, fun _ => h2⟩
  · rw [h1, h3]
    exact ⟨fun e => absurd e (add_own h2), fun e => by omega⟩
theorem rtF_best (h : Hd) (l : List Pt) : ∀ i, cmp (rtF h l i).1 (ownV h) ≤ 0 ∧ ∀ j, j < i → ldB h (gtP l j) = true → cmp (rtF h l i).1 (addV (gtP l j)) ≤ 0
  | 0 => ⟨by rw [show (rtF h l 0).1 = ownV h from rfl, cmp_zero.2 rfl]; exact Int.le_refl _, fun j hj => by omega⟩
  | i + 1 => by
    obtain ⟨h1, h2⟩ := rtF_best h l i
    show cmp (rtS h l i (rtF h l i)).1 (ownV h) ≤ 0 ∧ ∀ j, j < i + 1 → ldB h (gtP l j) = true → cmp (rtS h l i (rtF h l i)).1 (addV (gtP l j)) ≤ 0
    unfold rtS
    split
    · rename_i hb
      have hle : cmp (addV (gtP l i)) (rtF h l i).1 ≤ 0 := by
        simp only [Bool.and_eq_true, tkB, Bool.or_eq_true, decide_eq_true_eq] at hb
        rcases hb.2 with h3 | h3
        · omega
        · omega
      refine ⟨cmp_trans hle h1, fun j hj hl => ?_⟩
      by_cases e : j = i
      · subst e
        rw [cmp_zero.2 rfl]
        exact Int.le_refl _
      · exact cmp_trans hle (h2 j (by omega) hl)
    · rename_i hb
      refine ⟨h1, fun j hj hl => ?_⟩
      by_cases e : j = i
      · subst e
        have h3 : cmp (addV (gtP l j)) (rtF h l j).1 ≠ -1 := fun h4 => hb (by simp [hl, tkB, h4])
        have h5 := cmp_in (addV (gtP l j)) (rtF h l j).1
        have h6 := cmp_swap (rtF h l j).1 (addV (gtP l j))
        omega
      · exact h2 j (by omega) hl
theorem bet_no {a b : Vc} (h : cmp b a ≤ 0) : bet a b = false := by
  rw [bet_cmp]
  have := cmp_swap a b
  simp
  omega
theorem best_own (h : Hd) (l : List Pt) : bet (ownV h) (rooV h l) = false := bet_no (rtF_best h l l.length).1
theorem best_port (h : Hd) (l : List Pt) {j : Nat} (hj : j < l.length) (hl : ldB h (gtP l j) = true) : bet (addV (gtP l j)) (rooV h l) = false := bet_no ((rtF_best h l l.length).2 j hj hl)
/-- Who is wanted as the root's. -/
theorem wan_root (H : Hd) (r : Bool) (p : Pt) : (selP H r p).nm 31 = 3 ↔ (r = true ∧ p.nm 29 = 3) := by
  rw [sel_31]
  unfold wanN
  rw [tel_nm H p (by omega)]
  unfold heaN
  constructor
  · intro h
    cases r with
    | true =>
      refine ⟨rfl, ?_⟩
      by_cases h1 : p.nm 29 = 1
      · rw [if_pos h1] at h; omega
      · by_cases h2 : p.nm 29 = 2
        · rw [if_neg h1, if_pos h2] at h; omega
        · by_cases h3 : p.nm 29 = 3
          · exact h3
          · rw [if_neg h1, if_neg h2, if_neg h3] at h; omega
    | false =>
      exfalso
      revert h
      (repeat' split) <;> intro h <;> first | omega | (simp at *; done)
  · rintro ⟨rfl, h⟩
    rw [h]
    rfl
theorem lead_29 {h : Hd} {p : Pt} (hb : ldB h p = true) : p.nm 29 = 3 := by
  unfold ldB at hb
  simp only [Bool.and_eq_true, decide_eq_true_eq] at hb
  exact hb.1
theorem sel_at (h : Hd) (l : List Pt) {i : Nat} (hi : i < l.length) : gtP (selL h l) i = selP (hdS h l) (isK (rooK h l) i) (gtP l i) := gtP_idx (f := fun i p => selP (hdS h l) (isK (rooK h l) i) p) hi
/-- One port alone is wanted as the root's. -/
theorem one_at (h : Hd) (l : List Pt) {i : Nat} (hi : i < l.length) : (gtP (selL h l) i).nm 31 = 3 ↔ (i : Int) = rooK h l := by
  rw [sel_at h l hi, wan_root]
  unfold isK
  rw [decide_eq_true_eq]
  constructor
  · exact fun e => e.1
  · intro e
    refine ⟨e, ?_⟩
    rcases roo_form h l with ⟨h1, _⟩ | ⟨k, _, h1, h2, _⟩
    · omega
    · have : i = k := by omega
      rw [this]
      exact lead_29 h2
theorem one_id (h : Hd) (l : List Pt) {i : Nat} (hi : i < l.length) (e : (i : Int) = rooK h l) : (gtP (selL h l) i).nm 0 = (hdS h l).nm 7 := by
  rw [sel_at h l hi, (sel_kin _ _ _).nm still0, hdS_id]
  unfold ridN
  rw [← e, if_neg (by omega), Int.toNat_natCast]
end Go.Proofs.Ytnblhmicbhblpab
