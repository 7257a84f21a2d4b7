/-
  Prop, NewWhile and Tcm, and the definition's, at every place: one answer each.
-/
import Derived.Test.YtfjigbmhheekbaaRfS
import Derived.Test.YtfjigbmhheekbaaAwake
namespace Go.Proofs.Ytfjigbmhheekbaa
set_option linter.unusedVariables false
set_option maxRecDepth 4000
set_option linter.unusedSimpArgs false
open Go.RowKit

/-- Is there such a place? -/
def inB (n : Nat) (i : Int) : Prop := 0 ≤ i ∧ i < n
abbrev inDec (n : Nat) (i : Int) : Decidable (inB n i) := inferInstanceAs (Decidable (0 ≤ i ∧ i < n))
def prpI (l : List Pt) (i : Int) : List Pt := @ite _ (inB l.length i) (inDec _ _) (prpL l i.toNat) l
def nwI (h : Hd) (l : List Pt) (i : Int) : List Pt := @ite _ (inB l.length i) (inDec _ _) (l.set i.toNat (nwP h (gtP l i.toNat))) l
def tcmI (h : Hd) (l : List Pt) (i : Int) : Option (List Pt) := @ite _ (inB l.length i) (inDec _ _) (tcmO h l i.toNat) none
theorem in_nat {n : Nat} {i : Int} (h : inB n i) : ∃ k : Nat, i = (k : Int) ∧ i.toNat = k ∧ k < n := ⟨i.toNat, by have := h.1; omega, rfl, by have := h.1; have := h.2; omega⟩
theorem prop_any (h : Hd) (a : Option Addr) (n c : Nat) (l : List Pt) (i : Int) (w : World) (hs : SlAt w a n c l) (hn : n ≤ 1000) : Calls Try.prog 14 #[.agg (trc h (.slice a n c)), .int .i64 i] w fun r w' => TRes w h n (prpI l i) r w' := by
  by_cases hi : inB l.length i
  · have e : prpI l i = _ := if_pos hi
    rw [e]
    have hi' : inB n i := by rw [← hs.len]; exact hi
    obtain ⟨k, rfl, e2, hk⟩ := in_nat hi'
    rw [e2]
    exact prop_in h a n c l k w hs hn hk
  · have e : prpI l i = _ := if_neg hi
    rw [e]
    rw [hs.len] at hi
    exact prop_out h a n c l i w hs hi
theorem rprop_any (h : Hd) (a : Option Addr) (n c : Nat) (l : List Pt) (i : Int) (w : World) (hs : SlAt w a n c l) (hn : n ≤ 1000) : Calls Try.prog 15 #[.agg (trc h (.slice a n c)), .int .i64 i] w fun r w' => TRes w h n (prpI l i) r w' := by
  by_cases hi : inB l.length i
  · have e : prpI l i = _ := if_pos hi
    rw [e]
    have hi' : inB n i := by rw [← hs.len]; exact hi
    obtain ⟨k, rfl, e2, hk⟩ := in_nat hi'
    rw [e2]
    exact (rprop_in h a n c l k w hs hn hk).mono fun r w' ⟨a2, c2, hr, s2, _, b2⟩ => ⟨a2, c2, hr, s2, b2⟩
  · have e : prpI l i = _ := if_neg hi
    rw [e]
    rw [hs.len] at hi
    exact (rprop_out h a n c l i w hs hi).mono fun r w' ⟨a2, c2, hr, s2, _, b2⟩ => ⟨a2, c2, hr, s2, b2⟩
theorem new_any (h : Hd) (a : Option Addr) (n c : Nat) (l : List Pt) (i : Int) (w : World) (hs : SlAt w a n c l) (hn : n ≤ 1000) : Calls Try.prog 16 #[.agg (trc h (.slice a n c)), .int .i64 i] w fun r w' => TRes w h n (nwI h l i) r w' := by
  by_cases hi : inB l.length i
  · have e : nwI h l i = _ := if_pos hi
    rw [e]
    have hi' : inB n i := by rw [← hs.len]; exact hi
    obtain ⟨k, rfl, e2, hk⟩ := in_nat hi'
    rw [e2]
    exact new_in h a n c l k w hs hn hk
  · have e : nwI h l i = _ := if_neg hi
    rw [e]
    rw [hs.len] at hi
    exact new_out h a n c l i w hs hi
theorem rnew_any (h : Hd) (a : Option Addr) (n c : Nat) (l : List Pt) (i : Int) (w : World) (hs : SlAt w a n c l) (hn : n ≤ 1000) : Calls Try.prog 17 #[.agg (trc h (.slice a n c)), .int .i64 i] w fun r w' => TRes w h n (nwI h l i) r w' := by
  by_cases hi : inB l.length i
  · have e : nwI h l i = _ := if_pos hi
    rw [e]
    have hi' : inB n i := by rw [← hs.len]; exact hi
    obtain ⟨k, rfl, e2, hk⟩ := in_nat hi'
    rw [e2]
    exact (rnew_in h a n c l k w hs hn hk).mono fun r w' ⟨a2, c2, hr, s2, _, b2⟩ => ⟨a2, c2, hr, s2, b2⟩
  · have e : nwI h l i = _ := if_neg hi
    rw [e]
    rw [hs.len] at hi
    exact (rnew_out h a n c l i w hs hi).mono fun r w' ⟨a2, c2, hr, s2, _, b2⟩ => ⟨a2, c2, hr, s2, b2⟩
theorem tcm_any (h : Hd) (a : Option Addr) (n c : Nat) (l : List Pt) (i : Int) (w : World) (hs : SlAt w a n c l) (hn : n ≤ 1000) : Calls Try.prog 18 #[.agg (trc h (.slice a n c)), .int .i64 i] w fun r w' => TBs w h n l (tcmI h l i) r w' := by
  by_cases hi : inB l.length i
  · have e : tcmI h l i = _ := if_pos hi
    rw [e]
    have hi' : inB n i := by rw [← hs.len]; exact hi
    obtain ⟨k, rfl, e2, hk⟩ := in_nat hi'
    rw [e2]
    exact tcm_in h a n c l k w hs hn hk
  · have e : tcmI h l i = _ := if_neg hi
    rw [e]
    rw [hs.len] at hi
    exact tcm_out h a n c l i w hs hi
theorem rtcm_any (h : Hd) (a : Option Addr) (n c : Nat) (l : List Pt) (i : Int) (w : World) (hs : SlAt w a n c l) (hn : n ≤ 1000) : Calls Try.prog 19 #[.agg (trc h (.slice a n c)), .int .i64 i] w fun r w' => TBs w h n l (tcmI h l i) r w' := by
  by_cases hi : inB l.length i
  · have e : tcmI h l i = _ := if_pos hi
    rw [e]
    have hi' : inB n i := by rw [← hs.len]; exact hi
    obtain ⟨k, rfl, e2, hk⟩ := in_nat hi'
    rw [e2]
    exact rtcm_in h a n c l k w hs hn hk
  · have e : tcmI h l i = _ := if_neg hi
    rw [e]
    rw [hs.len] at hi
    exact rtcm_out h a n c l i w hs hi
end Go.Proofs.Ytfjigbmhheekbaa
