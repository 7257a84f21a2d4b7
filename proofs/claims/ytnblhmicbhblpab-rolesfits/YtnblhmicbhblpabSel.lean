/-
  What to select makes of a port and of a tree, as plain functions. Plain laws.
-/
import Derived.Test.YtnblhmicbhblpabPb
namespace Go.Proofs.Ytnblhmicbhblpab
set_option linter.unusedVariables false
set_option maxRecDepth 4000
set_option linter.unusedSimpArgs false
open Go.RowKit

/-- What a port would tell, laid down. -/
def telP (h : Hd) (p : Pt) : Pt := (p.put 32 (desV h (rOf h) p) kq32 kl32).put 40 (desT h (uOf h)) kq40 kl40
/-- Has it other information than what it would tell? -/
def outB (p : Pt) : Bool := !((pri p).eq (dsg p)) || !((priT p).eq (dsgT p))
/-- The role of a port that heard another one; r: is it the root's? -/
def heaN (h : Hd) (r : Bool) (p : Pt) : Int := if r = true then 3 else if bet (dsg p) (pri p) = true then 4 else if owB h p = true then 2 else 1
theorem heaN_wf (h : Hd) (r : Bool) (p : Pt) : (Lit.int .i64 (heaN h r p)).wf = true := by
  unfold heaN
  (repeat' split) <;> decide
/-- The role that is wanted; is it to be updated? -/
def wanN (h : Hd) (r : Bool) (p : Pt) : Int := if p.nm 29 = 1 then 4 else if p.nm 29 = 2 then 4 else if p.nm 29 = 3 then heaN h r p else 0
theorem wanN_wf (h : Hd) (r : Bool) (p : Pt) : (Lit.int .i64 (wanN h r p)).wf = true := by
  unfold wanN
  (repeat' split) <;> first | exact heaN_wf h r p | decide
def updB (h : Hd) (r : Bool) (p : Pt) : Bool := if p.nm 29 = 1 then true else if p.nm 29 = 2 then p.bt 28 || outB p else if p.nm 29 = 3 then decide (heaN h r p = 4) else p.bt 28
/-- A port's role, given. -/
def asgP (h : Hd) (r : Bool) (p : Pt) : Pt := (((p.setB 21 kb21 false).setB 22 kb22 true).setN 31 kn31 (wanN h r p) (wanN_wf h r p)).setB 28 kb28 (updB h r p)
def selP (h : Hd) (r : Bool) (p : Pt) : Pt := asgP h r (telP h p)
def isK (k : Int) (i : Nat) : Bool := decide ((i : Int) = k)
/-- The ID of the root's port; its times. -/
def ridN (h : Hd) (l : List Pt) : Int := if rooK h l = -1 then 0 else (gtP l (rooK h l).toNat).nm 0
theorem ridN_wf (h : Hd) (l : List Pt) : (Lit.int .u16 (ridN h l)).wf = true := by
  unfold ridN
  split
  · decide
  · exact (gtP l (rooK h l).toNat).nwf (j := 0) rfl
def rtmT (h : Hd) (l : List Pt) : Tm := if rooK h l = -1 then tOfH h else oldT (priT (gtP l (rooK h l).toNat))
/-- The head of a tree, behind it. -/
def hdS (h : Hd) (l : List Pt) : Hd := ((h.put 8 (rooV h l) hq8 hl8).setH 7 (ridN h l)).put 12 (rtmT h l) hq12 hl12
/-- Its ports. -/
def selL (h : Hd) (l : List Pt) : List Pt := l.mapIdx fun i p => selP (hdS h l) (isK (rooK h l) i) p
theorem selL_len (h : Hd) (l : List Pt) : (selL h l).length = l.length := by simp [selL]
/-! ### cells -/
theorem hdS_nm0 (h : Hd) (l : List Pt) : (hdS h l).nm 0 = h.nm 0 := nm_of (by
  unfold hdS
  rw [Row.put_get, if_neg (by rw [lenT]; omega), Row.setH_get _ kh7 (ridN_wf h l), if_neg (by omega), Row.put_get, if_neg (by rw [lenV]; omega)])
theorem hdS_nm (h : Hd) (l : List Pt) {j : Nat} (hj : j < 7) : (hdS h l).nm j = h.nm j := nm_of (by
  unfold hdS
  rw [Row.put_get, if_neg (by rw [lenT]; omega), Row.setH_get _ kh7 (ridN_wf h l), if_neg (by omega), Row.put_get, if_neg (by rw [lenV]; omega)])
theorem hdS_cell (h : Hd) (l : List Pt) {j : Nat} (hj : j < 7) : (hdS h l).cl[j]? = h.cl[j]? := by
  unfold hdS
  rw [Row.put_get, if_neg (by rw [lenT]; omega), Row.setH_get _ kh7 (ridN_wf h l), if_neg (by omega), Row.put_get, if_neg (by rw [lenV]; omega)]
theorem sub_is {ks ks' : List (Option IntKind)} {r : Row ks} {q : Row ks'} {o : Nat} (hl : o + ks'.length ≤ ks.length) (h : ∀ j, j < ks'.length → r.cl[o + j]? = q.cl[j]?) : (r.cl.drop o).take ks'.length = q.cl := by
  have h1 := r.len
  have h2 := q.len
  refine List.ext_getElem? fun j => ?_
  rw [List.getElem?_take]
  split
  · rename_i hj
    rw [List.getElem?_drop, h j hj]
  · rw [List.getElem?_eq_none (by omega)]
theorem hdS_root (h : Hd) (l : List Pt) : rOf (hdS h l) = rooV h l := Row.ext' (sub_is (ks' := kdV) (o := 8) hl8 (fun j hj => by
  rw [lenV] at hj
  unfold hdS
  rw [Row.put_get, if_neg (by omega), Row.setH_get _ kh7 (ridN_wf h l), if_neg (by omega), Row.put_get, if_pos (by rw [lenV]; omega), Nat.add_sub_cancel_left]))
theorem hdS_rt (h : Hd) (l : List Pt) : uOf (hdS h l) = rtmT h l := Row.ext' (sub_is (ks' := kdT) (o := 12) hl12 (fun j hj => by
  rw [lenT] at hj
  unfold hdS
  rw [Row.put_get, if_pos (by rw [lenT]; omega), Nat.add_sub_cancel_left]))
theorem hdS_id (h : Hd) (l : List Pt) : (hdS h l).nm 7 = ridN h l := by
  have : (hdS h l).cl[7]? = some (.int .u16 (ridN h l)) := by
    unfold hdS
    rw [Row.put_get, if_neg (by omega), Row.setH_get _ kh7 (ridN_wf h l), if_pos rfl]
  unfold Row.nm
  rw [this]
theorem hdS_bt (h : Hd) (l : List Pt) : (hdS h l).bt 6 = h.bt 6 := bt_of (hdS_cell h l (by omega))
/-- A cell of a port that tells. -/
theorem telP_get (h : Hd) (p : Pt) (i : Nat) : (telP h p).cl[i]? = if 40 ≤ i ∧ i < 44 then (desT h (uOf h)).cl[i - 40]? else if 32 ≤ i ∧ i < 36 then (desV h (rOf h) p).cl[i - 32]? else p.cl[i]? := by
  unfold telP
  rw [Row.put_get, Row.put_get, lenV, lenT]
theorem asgP_get (h : Hd) (r : Bool) (p : Pt) (i : Nat) : (asgP h r p).cl[i]? = if i = 28 then some (.bool (updB h r p)) else if i = 31 then some (.int .i64 (wanN h r p)) else if i = 22 then some (.bool true) else if i = 21 then some (.bool false) else p.cl[i]? := by
  unfold asgP
  rw [Row.setB_get, Row.setN_get, Row.setB_get, Row.setB_get]
/-- Cells that nobody changes. -/
def still (i : Nat) : Prop := i ≠ 21 ∧ i ≠ 22 ∧ i ≠ 28 ∧ i ≠ 31 ∧ (i < 32 ∨ 36 ≤ i) ∧ (i < 40 ∨ 44 ≤ i)
theorem tel_still (h : Hd) (p : Pt) {i : Nat} (hi : (i < 32 ∨ 36 ≤ i) ∧ (i < 40 ∨ 44 ≤ i)) : (telP h p).cl[i]? = p.cl[i]? := by
  rw [telP_get, if_neg (by omega), if_neg (by omega)]
theorem asg_still (h : Hd) (r : Bool) (p : Pt) {i : Nat} (hi : i ≠ 21 ∧ i ≠ 22 ∧ i ≠ 28 ∧ i ≠ 31) : (asgP h r p).cl[i]? = p.cl[i]? := by
  rw [asgP_get, if_neg hi.2.2.1, if_neg hi.2.2.2, if_neg hi.2.1, if_neg hi.1]
theorem sel_still (h : Hd) (r : Bool) (p : Pt) {i : Nat} (hi : still i) : (selP h r p).cl[i]? = p.cl[i]? := by
  obtain ⟨h1, h2, h3, h4, h5, h6⟩ := hi
  unfold selP
  rw [asg_still h r _ ⟨h1, h2, h3, h4⟩, tel_still h p ⟨h5, h6⟩]
theorem part_of {p q : Pt} {o n : Nat} (hh : ∀ j, j < n → p.cl[o + j]? = q.cl[o + j]?) : (p.cl.drop o).take n = (q.cl.drop o).take n := by
  refine List.ext_getElem? fun j => ?_
  rw [List.getElem?_take, List.getElem?_take]
  split
  · rename_i hj
    rw [List.getElem?_drop, List.getElem?_drop, hh j hj]
  · rfl
theorem pri_of {p q : Pt} (hh : ∀ j, j < 4 → p.cl[36 + j]? = q.cl[36 + j]?) : pri p = pri q := Row.ext' (part_of hh)
theorem dsg_of {p q : Pt} (hh : ∀ j, j < 4 → p.cl[32 + j]? = q.cl[32 + j]?) : dsg p = dsg q := Row.ext' (part_of hh)
theorem priT_of {p q : Pt} (hh : ∀ j, j < 4 → p.cl[44 + j]? = q.cl[44 + j]?) : priT p = priT q := Row.ext' (part_of hh)
theorem dsgT_of {p q : Pt} (hh : ∀ j, j < 4 → p.cl[40 + j]? = q.cl[40 + j]?) : dsgT p = dsgT q := Row.ext' (part_of hh)
theorem tel_dsg (h : Hd) (p : Pt) : dsg (telP h p) = desV h (rOf h) p := Row.ext' (sub_is (ks' := kdV) (o := 32) kl32 (fun j hj => by
  rw [lenV] at hj
  rw [telP_get, if_neg (by omega), if_pos (by omega), Nat.add_sub_cancel_left]))
theorem tel_dsgT (h : Hd) (p : Pt) : dsgT (telP h p) = desT h (uOf h) := Row.ext' (sub_is (ks' := kdT) (o := 40) kl40 (fun j hj => by
  rw [lenT] at hj
  rw [telP_get, if_pos (by omega), Nat.add_sub_cancel_left]))
theorem tel_pri (h : Hd) (p : Pt) : pri (telP h p) = pri p := pri_of fun j hj => tel_still h p (by omega)
theorem tel_priT (h : Hd) (p : Pt) : priT (telP h p) = priT p := priT_of fun j hj => tel_still h p (by omega)
theorem tel_nm (h : Hd) (p : Pt) {i : Nat} (hi : (i < 32 ∨ 36 ≤ i) ∧ (i < 40 ∨ 44 ≤ i)) : (telP h p).nm i = p.nm i := nm_of (tel_still h p hi)
theorem tel_bt (h : Hd) (p : Pt) {i : Nat} (hi : (i < 32 ∨ 36 ≤ i) ∧ (i < 40 ∨ 44 ≤ i)) : (telP h p).bt i = p.bt i := bt_of (tel_still h p hi)
/-- What the questions about a port hang on. -/
theorem outB_of {p q : Pt} (hh : ∀ j, 32 ≤ j → j < 48 → p.cl[j]? = q.cl[j]?) : outB p = outB q := by
  unfold outB
  rw [pri_of (p := p) (q := q) (fun j hj => hh _ (by omega) (by omega)), dsg_of (p := p) (q := q) (fun j hj => hh _ (by omega) (by omega)), priT_of (p := p) (q := q) (fun j hj => hh _ (by omega) (by omega)), dsgT_of (p := p) (q := q) (fun j hj => hh _ (by omega) (by omega))]
theorem heaN_of {h : Hd} {r : Bool} {p q : Pt} (hh : ∀ j, 32 ≤ j → j < 48 → p.cl[j]? = q.cl[j]?) : heaN h r p = heaN h r q := by
  unfold heaN owB
  rw [pri_of (p := p) (q := q) (fun j hj => hh _ (by omega) (by omega)), dsg_of (p := p) (q := q) (fun j hj => hh _ (by omega) (by omega)), nm_of (hh 38 (by omega) (by omega))]
end Go.Proofs.Ytnblhmicbhblpab
