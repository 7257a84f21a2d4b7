/-
  Trees whose ports are changed: each with its three changes; Up; the definition's Has and Up. Their walks.
-/
import Derived.Test.YtlneoegmlcbidaaCopy
namespace Go.Proofs.Ytlneoegmlcbidaa
set_option linter.unusedVariables false
set_option maxRecDepth 4000
set_option linter.unusedSimpArgs false
open Go.RowKit

/-- A port that is up, or not; that is to be in step; that is asked whether it was root. -/
def upP (b : Bool) (p : Pt) : Pt := p.setB 2 kb2 b
def gtP (l : List Pt) (i : Nat) : Pt := l.getD i zeroP
theorem gtP_at {l : List Pt} {i : Nat} (h : i < l.length) : l[i]? = some (gtP l i) := by
  simp [gtP, List.getD_eq_getElem?_getD, List.getElem?_eq_getElem h]
/-- The first i ports changed. -/
def mapTo (f : Pt → Pt) (l : List Pt) (i : Nat) : List Pt := (l.take i).map f ++ l.drop i
theorem mapTo_len (f : Pt → Pt) (l : List Pt) (i : Nat) : (mapTo f l i).length = l.length := by
  simp [mapTo]; omega
theorem mapTo_at {f : Pt → Pt} {l : List Pt} {i : Nat} (h : i < l.length) : (mapTo f l i)[i]? = some (gtP l i) := by
  rw [← gtP_at h]
  unfold mapTo
  rw [List.getElem?_append_right (by simp; omega), List.length_map, List.length_take, Nat.min_eq_left (by omega), Nat.sub_self, List.getElem?_drop]
  rfl
theorem mapTo_next {f : Pt → Pt} {l : List Pt} {i : Nat} (h : i < l.length) : (mapTo f l i).set i (f (gtP l i)) = mapTo f l (i + 1) := by
  unfold mapTo
  have e : ((l.take i).map f).length = i := by simp; omega
  have hg : gtP l i = l[i] := by
    have := gtP_at h
    rw [List.getElem?_eq_getElem h] at this
    exact (Option.some.inj this).symm
  rw [List.set_append_right _ _ (by omega), e, Nat.sub_self, List.drop_eq_getElem_cons h, List.set_cons_zero, List.take_add_one, List.getElem?_eq_getElem h, hg, List.map_append, List.append_assoc]
  rfl
theorem mapTo_all (f : Pt → Pt) (l : List Pt) : mapTo f l l.length = l.map f := by simp [mapTo]
theorem mapTo_zero (f : Pt → Pt) (l : List Pt) : mapTo f l 0 = l := by simp [mapTo]
attribute [local go_sem ↓] ldP stP ldT stT apE st32 st4
end Go.Proofs.Ytlneoegmlcbidaa
