/-
  A second later: Tick and the definition's: their walks, for every tree.
-/
import Derived.Test.YtlneoegmlcbidaaTrees
import Derived.Test.YtlneoegmlcbidaaTail
namespace Go.Proofs.Ytlneoegmlcbidaa
set_option linter.unusedVariables false
set_option maxRecDepth 4000
set_option linter.unusedSimpArgs false
open Go.RowKit

theorem Row.setU_ne {ks : List (Option IntKind)} (r : Row ks) {j i : Nat} {n : Int} (h : j ≠ i) : (r.setU j n).cl[i]? = r.cl[i]? := by
  unfold Row.setU
  split
  · show (r.cl.set j (.int .u8 n))[i]? = _
    rw [List.getElem?_set, if_neg h]
  · rfl
theorem Row.setU_nm {ks : List (Option IntKind)} (r : Row ks) {j i : Nat} {n : Int} (h : j ≠ i) : (r.setU j n).nm i = r.nm i := by
  unfold Row.nm
  rw [r.setU_ne h]
theorem Row.setU_at {ks : List (Option IntKind)} (r : Row ks) {j : Nat} {n : Int} (h : ks[j]? = some (some .u8)) (hw : (Lit.int .u8 n).wf = true) : (r.setU j n).nm j = n := by
  rw [r.setU_is h hw]
  exact r.nset _ (List.getElem?_eq_some_iff.1 h).1
/-- One less, if it is above 0. -/
def dec1 (n : Int) : Int := if 0 < n then n - 1 else n
theorem dec1_in {n : Int} (h : 0 ≤ n ∧ n ≤ 255) : 0 ≤ dec1 n ∧ dec1 n ≤ 255 := by
  unfold dec1
  split <;> omega
/-- The timers' places, in their order. -/
def tm (i : Nat) : Nat := [65, 66, 67, 68, 69, 70, 71, 64].getD i 0
theorem tm_kd {i : Nat} (h : i < 8) : kdP[tm i]? = some (some .u8) := by
  match i, h with
  | 0, _ => rfl
  | 1, _ => rfl
  | 2, _ => rfl
  | 3, _ => rfl
  | 4, _ => rfl
  | 5, _ => rfl
  | 6, _ => rfl
  | 7, _ => rfl
/-- The first i timers run down. -/
def tickTo (p : Pt) : Nat → Pt
  | 0 => p
  | i + 1 => (tickTo p i).setU (tm i) (dec1 ((tickTo p i).nm (tm i)))
def tickP (p : Pt) : Pt := tickTo p 8
attribute [local go_sem ↓] ldP stP ldT stT apE st32 st4 st5
theorem gtP_set {l : List Pt} {i : Nat} {p : Pt} (h : i < l.length) : (l.set i p)[i]? = some p := by
  rw [List.getElem?_set, if_pos rfl, if_pos h]
end Go.Proofs.Ytlneoegmlcbidaa
