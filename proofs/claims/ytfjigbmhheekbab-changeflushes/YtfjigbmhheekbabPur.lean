/-
  What becomes of a port, and of the ports of a tree: plain functions of rows and lists; those of the definition are the same. No program.
-/
import Derived.Test.YtfjigbmhheekbabKit
namespace Go.Proofs.Ytfjigbmhheekbab
set_option linter.unusedVariables false
set_option maxRecDepth 4000
set_option linter.unusedSimpArgs false
open Go.RowKit

theorem kb6 : kdP[6]? = some none := rfl
theorem kb7 : kdP[7]? = some none := rfl
theorem kb8 : kdP[8]? = some none := rfl
theorem kb9 : kdP[9]? = some none := rfl
theorem kb10 : kdP[10]? = some none := rfl
theorem kb23 : kdP[23]? = some none := rfl
theorem kb26 : kdP[26]? = some none := rfl
theorem kb27 : kdP[27]? = some none := rfl
theorem kn30 : kdP[30]? = some (some .i64) := rfl
theorem kn74 : kdP[74]? = some (some .i64) := rfl
theorem ku71 : kdP[71]? = some (some .u8) := rfl
theorem setB_self {ks : List (Option IntKind)} (r : Row ks) {j : Nat} (h : ks[j]? = some none) {x : Bool} (e : r.bt j = x) : r.setB j h x = r := by
  refine Row.same fun i hi => ?_
  rw [r.setB_get]
  by_cases hij : i = j
  · subst hij
    rw [if_pos rfl, r.bit h, e]
  · rw [if_neg hij]
theorem setN_bt {ks : List (Option IntKind)} (r : Row ks) {i j : Nat} (h : ks[j]? = some (some .i64)) (n : Int) (hw : (Lit.int .i64 n).wf = true) (hn : i ≠ j) : (r.setN j h n hw).bt i = r.bt i := bt_of (by rw [r.setN_get, if_neg hn])
theorem setN_nm {ks : List (Option IntKind)} (r : Row ks) {i j : Nat} (h : ks[j]? = some (some .i64)) (n : Int) (hw : (Lit.int .i64 n).wf = true) (hn : i ≠ j) : (r.setN j h n hw).nm i = r.nm i := nm_of (by rw [r.setN_get, if_neg hn])
theorem setN_at {ks : List (Option IntKind)} (r : Row ks) {j : Nat} (h : ks[j]? = some (some .i64)) (n : Int) (hw : (Lit.int .i64 n).wf = true) : (r.setN j h n hw).nm j = n := r.nset _ (List.getElem?_eq_some_iff.1 h).1
theorem setU_bt (r : Pt) {i : Nat} {n : Int} (hn : 0 ≤ n ∧ n ≤ 255) (hi : i ≠ 71) : (r.setU 71 n).bt i = r.bt i := bt_of (by rw [r.setU_get ku71 (wf8 hn), if_neg hi])
theorem setU_nm' (r : Pt) {i : Nat} {n : Int} (hn : 0 ≤ n ∧ n ≤ 255) (hi : i ≠ 71) : (r.setU 71 n).nm i = r.nm i := nm_of (by rw [r.setU_get ku71 (wf8 hn), if_neg hi])
theorem u0 : (0 : Int) ≤ 0 ∧ (0 : Int) ≤ 255 := by decide
/-! ### a port's state -/
def doesP (x y : Bool) (p : Pt) : Pt := (p.setB 10 kb10 x).setB 8 kb8 y
def pstO (p : Pt) : Option Pt :=
  if ((p.bt 10 || p.bt 8) && !(p.bt 9)) = true then some (doesP false false p)
  else if (p.bt 8 && !(p.bt 7)) = true then some (doesP (p.bt 10) false p)
  else if (p.bt 9 && !(p.bt 10)) = true then some (doesP true (p.bt 8) p)
  else if ((p.bt 10 && p.bt 7) && !(p.bt 8)) = true then some (doesP true true p)
  else none
theorem does_8 (p : Pt) (y : Bool) : doesP (p.bt 10) y p = p.setB 8 kb8 y := by
  unfold doesP
  rw [setB_self p kb10 rfl]
theorem does_10 (p : Pt) (x : Bool) : doesP x (p.bt 8) p = p.setB 10 kb10 x := by
  unfold doesP
  exact setB_self _ kb8 (setB_bt _ _ _ (by decide))
/-! ### changes -/
/-- It has a place. -/
def hasB (p : Pt) : Bool := (p.nm 30 == 3) || (p.nm 30 == 4)
/-- It was told of a change. -/
def tldB (p : Pt) : Bool := ((p.bt 17 || p.bt 19) || p.bt 18) || p.bt 27
def sumN (a b : Int) : Int := if 255 < a + b then 255 else a + b
theorem sumN_ok {a b : Int} (ha : 0 ≤ a) (hb : 0 ≤ b) : 0 ≤ sumN a b ∧ sumN a b ≤ 255 := by
  unfold sumN
  split <;> omega
theorem hu13 : kdH[13]? = some (some .u8) := rfl
theorem hu14 : kdH[14]? = some (some .u8) := rfl
theorem hu15 : kdH[15]? = some (some .u8) := rfl
/-- For how long a change is told. -/
def nwP (h : Hd) (p : Pt) : Pt :=
  if p.nm 71 = 0 then (if p.bt 23 = true then (p.setU 71 (sumN (h.nm 14) 1)).setB 11 kb11 true else p.setU 71 (sumN (h.nm 13) (h.nm 15))) else p
theorem sumA (h : Hd) : 0 ≤ sumN (h.nm 14) 1 ∧ sumN (h.nm 14) 1 ≤ 255 := sumN_ok (h.u8 hu14).1 (by decide)
theorem sumB (h : Hd) : 0 ≤ sumN (h.nm 13) (h.nm 15) ∧ sumN (h.nm 13) (h.nm 15) ≤ 255 := sumN_ok (h.u8 hu13).1 (h.u8 hu15).1
theorem nwP_bt (h : Hd) (p : Pt) {i : Nat} (h1 : i ≠ 71) (h2 : i ≠ 11) : (nwP h p).bt i = p.bt i := by
  unfold nwP
  split
  · split
    · rw [setB_bt _ _ _ h2, setU_bt _ (sumA h) h1]
    · rw [setU_bt _ (sumB h) h1]
  · rfl
theorem nwP_nm (h : Hd) (p : Pt) {i : Nat} (h1 : i ≠ 71) (h2 : i ≠ 11) : (nwP h p).nm i = p.nm i := by
  unfold nwP
  split
  · split
    · rw [setB_nm _ _ _ h2, setU_nm' _ (sumA h) h1]
    · rw [setU_nm' _ (sumB h) h1]
  · rfl
/-- All but one are asked to tell. -/
def sprL (l : List Pt) (k : Nat) (q : Pt) : List Pt := l.mapIdx (fun j p => if j = k then q else p.setB 27 kb27 true)
def tcP (k : Nat) (j : Nat) (p : Pt) : Pt := if j = k then p else p.setB 27 kb27 true
def prpL (l : List Pt) (k : Nat) : List Pt := l.mapIdx (tcP k)
theorem prpL_len (l : List Pt) (k : Nat) : (prpL l k).length = l.length := by simp [prpL]
theorem sprL_len (l : List Pt) (k : Nat) (q : Pt) : (sprL l k q).length = l.length := by simp [sprL]
theorem spr_at {l : List Pt} {k : Nat} (q : Pt) {j : Nat} (hj : j < l.length) : gtP (sprL l k q) j = if j = k then q else (gtP l j).setB 27 kb27 true := gtP_idx hj
theorem prp_set (l : List Pt) (k : Nat) (q : Pt) : prpL (l.set k q) k = sprL l k q := by
  refine List.ext_getElem? fun j => ?_
  unfold prpL sprL
  rw [List.getElem?_mapIdx, List.getElem?_mapIdx, List.getElem?_set]
  by_cases hj : k = j
  · subst hj
    rw [if_pos rfl]
    split
    · rename_i hl
      rw [List.getElem?_eq_getElem hl]
      simp [tcP]
    · rename_i hl
      rw [List.getElem?_eq_none (by omega)]
      rfl
  · rw [if_neg hj]
    cases l[j]? with
    | none => rfl
    | some p =>
      simp only [Option.map_some, tcP]
      rw [if_neg (fun e => hj e.symm), if_neg (fun e => hj e.symm)]
theorem spr_set (l : List Pt) (k : Nat) (q r : Pt) : (sprL l k q).set k r = sprL l k r := by
  refine List.ext_getElem? fun j => ?_
  unfold sprL
  rw [List.getElem?_set, List.getElem?_mapIdx, List.getElem?_mapIdx, List.length_mapIdx]
  by_cases hj : k = j
  · subst hj
    rw [if_pos rfl]
    split
    · rename_i hl
      rw [List.getElem?_eq_getElem hl]
      simp
    · rename_i hl
      rw [List.getElem?_eq_none (by omega)]
      rfl
  · rw [if_neg hj]
    cases l[j]? with
    | none => rfl
    | some p =>
      simp only [Option.map_some]
      rw [if_neg (fun e => hj e.symm), if_neg (fun e => hj e.symm)]
theorem prp_spr {l : List Pt} {k : Nat} (hk : k < l.length) : prpL l k = sprL l k (gtP l k) := by
  have := prp_set l k (gtP l k)
  rw [set_self hk] at this
  exact this
/-- It is quiet; it learns; it detects a change; it is told of one; it tells of one; it need not tell any more. -/
def quiP (p : Pt) : Pt := (((p.setB 6 kb6 true).setB 26 kb26 false).setU 71 0).setN 74 kn74 1 wi1
def lrnP (p : Pt) : Pt := ((((p.setB 17 kb17 false).setB 19 kb19 false).setB 18 kb18 false).setB 27 kb27 false).setN 74 kn74 2 wi2
def actP (p : Pt) : Pt := (p.setB 11 kb11 true).setN 74 kn74 3 wi3
def detP (h : Hd) (p : Pt) : Pt := actP (nwP h p)
def heaQ (h : Hd) (p : Pt) : Pt := if p.bt 19 = true then nwP h p else p
def heaP (q : Pt) : Pt := ((q.setB 19 kb19 false).setB 17 kb17 false).setB 26 kb26 (q.bt 26 || (q.nm 30 == 4))
def ntfP (h : Hd) (p : Pt) : Pt := heaP (heaQ h p)
def flsP (p : Pt) : Pt := (p.setB 6 kb6 true).setB 27 kb27 false
def prgP (h : Hd) (p : Pt) : Pt := flsP (nwP h p)
def ackP (p : Pt) : Pt := (p.setU 71 0).setB 18 kb18 false
/-- .. as the definition has it. -/
def quiR (p : Pt) : Pt := (((p.setB 6 kb6 true).setU 71 0).setB 26 kb26 false).setN 74 kn74 1 wi1
theorem quiR_is (p : Pt) : quiR p = quiP p := by
  refine Row.same fun i hi => ?_
  unfold quiR quiP
  rw [Row.setN_get, Row.setB_get, Row.setU_get _ ku71 (wf8 u0), Row.setB_get, Row.setN_get, Row.setU_get _ ku71 (wf8 u0), Row.setB_get, Row.setB_get]
  by_cases h1 : i = 74
  · rw [if_pos h1, if_pos h1]
  rw [if_neg h1, if_neg h1]
  by_cases h2 : i = 26
  · rw [if_pos h2, if_neg (by omega), if_pos h2]
  rw [if_neg h2, if_neg h2]
def heaR (q : Pt) : Pt := if q.nm 30 = 4 then ((q.setB 19 kb19 false).setB 17 kb17 false).setB 26 kb26 true else (q.setB 19 kb19 false).setB 17 kb17 false
theorem heaR_is (q : Pt) : heaR q = heaP q := by
  unfold heaR heaP
  split
  · rename_i e
    rw [e]
    simp
  · rename_i e
    have x : (q.nm 30 == 4) = false := by simpa using e
    rw [x, Bool.or_false]
    symm
    refine setB_self _ kb26 ?_
    rw [setB_bt _ _ _ (by decide), setB_bt _ _ _ (by decide)]
/-- A step, by the machine's state. -/
def inaO (l : List Pt) (k : Nat) : Option (List Pt) := if ((gtP l k).bt 9 && !((gtP l k).bt 6)) = true then some (l.set k (lrnP (gtP l k))) else none
def leaO (h : Hd) (l : List Pt) (k : Nat) : Option (List Pt) :=
  if (hasB (gtP l k) && (gtP l k).bt 7) = true then some (sprL l k (detP h (gtP l k)))
  else if (((!(hasB (gtP l k)) && !((gtP l k).bt 9)) && !((gtP l k).bt 10)) && !(tldB (gtP l k))) = true then some (l.set k (quiP (gtP l k)))
  else if tldB (gtP l k) = true then some (l.set k (lrnP (gtP l k))) else none
def actO (h : Hd) (l : List Pt) (k : Nat) : Option (List Pt) :=
  if hasB (gtP l k) = false then some (l.set k (lrnP (gtP l k)))
  else if ((gtP l k).bt 19 || (gtP l k).bt 17) = true then some (sprL l k (ntfP h (gtP l k)))
  else if (gtP l k).bt 27 = true then some (l.set k (prgP h (gtP l k)))
  else if (gtP l k).bt 18 = true then some (l.set k (ackP (gtP l k))) else none
def tcmO (h : Hd) (l : List Pt) (k : Nat) : Option (List Pt) :=
  if (gtP l k).nm 74 = 1 then inaO l k
  else if (gtP l k).nm 74 = 2 then leaO h l k
  else if (gtP l k).nm 74 = 3 then actO h l k
  else some (l.set k (quiP (gtP l k)))
end Go.Proofs.Ytfjigbmhheekbab
