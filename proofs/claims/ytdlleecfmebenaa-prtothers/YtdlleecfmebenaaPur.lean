/-
  A step as a plain function: the first rule that is so, and its deed.
-/
import Derived.Test.YtdlleecfmebenaaRulS
import Derived.Test.YtdlleecfmebenaaDeedB
namespace Go.Proofs.Ytdlleecfmebenaa
set_option linter.unusedVariables false
set_option maxRecDepth 4000
set_option linter.unusedSimpArgs false
open Go.RowKit

/-- What a deed makes of the ports. -/
def fnOf (F : Nat) (k : Nat) (l : List Pt) : List Pt :=
  if F = 29 then l.set k (begP (gtP l k)) else
  if F = 30 then l.set k (rolP (gtP l k)) else
  if F = 43 then l.set k (disP (gtP l k)) else
  if F = 47 then l.set k (blkP (gtP l k)) else
  if F = 55 then l.set k (agrRP (gtP l k)) else
  if F = 66 then l.set k (agrP (gtP l k)) else
  if F = 57 then l.set k (rrdP (gtP l k)) else
  if F = 58 then l.set k (lrnP (gtP l k)) else
  if F = 59 then l.set k (fwdP (gtP l k)) else
  if F = 60 then l.set k (rcnP (gtP l k)) else
  if F = 62 then l.set k (prsP (gtP l k)) else
  if F = 63 then l.set k (synP (gtP l k)) else
  if F = 64 then l.set k (stpP (gtP l k)) else
  if F = 65 then l.set k (fwdDP (gtP l k)) else
  if F = 68 then l.set k (bkuP (gtP l k)) else
  if F = 71 then (l.set k (prdP (gtP l k))).map syncP else if F = 56 then l.map rerP else l
/-- What the loop asks of a deed. -/
structure Deed (F : Nat) : Prop where
  does : DeedN F (fnOf F)
  enter : ∀ (x : Value) (V : World), (callFunc F #[x]).run Try.prog V = .ok (.enter F #[x]) V
theorem d_begin : Deed 29 := ⟨begP_deed.n, fun x V => by go_simp⟩
theorem d_takeRole : Deed 30 := ⟨rolP_deed.n, fun x V => by go_simp⟩
theorem d_disabled : Deed 43 := ⟨disP_deed.n, fun x V => by go_simp⟩
theorem d_blocked : Deed 47 := ⟨blkP_deed.n, fun x V => by go_simp⟩
theorem d_agreeAsRoot : Deed 55 := ⟨agrRP_deed.n, fun x V => by go_simp⟩
theorem d_agree : Deed 66 := ⟨agrP_deed.n, fun x V => by go_simp⟩
theorem d_reRooted : Deed 57 := ⟨rrdP_deed.n, fun x V => by go_simp⟩
theorem d_learn : Deed 58 := ⟨lrnP_deed.n, fun x V => by go_simp⟩
theorem d_forward : Deed 59 := ⟨fwdP_deed.n, fun x V => by go_simp⟩
theorem d_recent : Deed 60 := ⟨rcnP_deed.n, fun x V => by go_simp⟩
theorem d_propose : Deed 62 := ⟨prsP_deed.n, fun x V => by go_simp⟩
theorem d_synced : Deed 63 := ⟨synP_deed.n, fun x V => by go_simp⟩
theorem d_stop : Deed 64 := ⟨stpP_deed.n, fun x V => by go_simp⟩
theorem d_forwardAsDesignated : Deed 65 := ⟨fwdDP_deed.n, fun x V => by go_simp⟩
theorem d_backup : Deed 68 := ⟨bkuP_deed.n, fun x V => by go_simp⟩
theorem d_bringInStep : Deed 71 := ⟨brg_deed, fun x V => by go_simp⟩
theorem d_askReRoot : Deed 56 := ⟨ask_deed, fun x V => by go_simp⟩
theorem dsg_deeds (p : Pt) : ∀ x ∈ dsgR p, Deed x.2 := by
  intro x hx
  simp only [dsgR, List.cons_append, List.nil_append, List.mem_cons, List.not_mem_nil, or_false] at hx
  rcases hx with rfl | rfl | rfl | rfl | rfl | rfl
  · exact d_propose
  · exact d_synced
  · exact d_reRooted
  · exact d_stop
  · exact d_learn
  · exact d_forwardAsDesignated
theorem root_deeds (l : List Pt) (k : Nat) : ∀ x ∈ rootR l k, Deed x.2 := by
  intro x hx
  simp only [rootR, List.cons_append, List.nil_append, List.mem_cons, List.not_mem_nil, or_false] at hx
  rcases hx with rfl | rfl | rfl | rfl | rfl | rfl | rfl
  · exact d_bringInStep
  · exact d_agreeAsRoot
  · exact d_askReRoot
  · exact d_reRooted
  · exact d_learn
  · exact d_forward
  · exact d_recent
theorem alt_deeds (l : List Pt) (k : Nat) : ∀ x ∈ altR l k, Deed x.2 := by
  intro x hx
  simp only [altR, List.cons_append, List.nil_append, List.mem_cons, List.not_mem_nil, or_false] at hx
  rcases hx with rfl | rfl | rfl | rfl
  · exact d_bringInStep
  · exact d_agree
  · exact d_blocked
  · exact d_backup
theorem st_deeds (l : List Pt) (k : Nat) : ∀ x ∈ stR l k, Deed x.2 := by
  unfold stR
  intro x hx
  split at hx
  · rw [List.mem_singleton] at hx; subst hx; exact d_disabled
  · split at hx
    · rw [List.mem_singleton] at hx; subst hx; exact d_disabled
    · split at hx
      · exact root_deeds l k x hx
      · split at hx
        · exact dsg_deeds _ x hx
        · split at hx
          · rw [List.mem_singleton] at hx; subst hx; exact d_blocked
          · split at hx
            · exact alt_deeds l k x hx
            · cases hx
theorem rul_deeds (l : List Pt) (k : Nat) : ∀ x ∈ rulL l k, Deed x.2 := by
  unfold rulL
  intro x hx
  split at hx
  · cases hx
  · rw [List.mem_append] at hx
    rcases hx with hx | hx
    · simp only [List.mem_cons, List.not_mem_nil, or_false] at hx
      rcases hx with rfl | rfl
      · exact d_begin
      · exact d_takeRole
    · exact st_deeds l k x hx
theorem rul_len (l : List Pt) (k : Nat) : (rulL l k).length ≤ 9 := by
  unfold rulL
  have := stR_len l k
  split
  · simp
  · simp only [List.length_append, List.length_cons, List.length_nil]; omega
/-- The first that is so. -/
def firstF : List (Bool × Nat) → Option Nat
  | [] => none
  | (true, F) :: _ => some F
  | (false, _) :: r => firstF r
theorem first_none : ∀ (rs : List (Bool × Nat)), (∀ (j : Nat) (x : Bool × Nat), rs[j]? = some x → x.1 = false) → firstF rs = none
  | [], _ => rfl
  | (true, F) :: r, h => by have := h 0 (true, F) rfl; cases this
  | (false, F) :: r, h => by
    unfold firstF
    exact first_none r (fun j x hx => h (j + 1) x (by simpa using hx))
theorem first_at : ∀ (rs : List (Bool × Nat)) (i : Nat) (F : Nat), rs[i]? = some (true, F) → (∀ (j : Nat) (x : Bool × Nat), j < i → rs[j]? = some x → x.1 = false) → firstF rs = some F
  | [], i, F, h, _ => by simp at h
  | (true, G) :: r, i, F, h, hb => by
    cases i with
    | zero => simp at h; subst h; rfl
    | succ i => have := hb 0 (true, G) (by omega) rfl; cases this
  | (false, G) :: r, i, F, h, hb => by
    cases i with
    | zero => simp at h
    | succ i =>
      unfold firstF
      exact first_at r i F (by simpa using h) (fun j x hj hx => hb (j + 1) x (by omega) (by simpa using hx))
/-- A step at port k, if there is one. -/
def stepO (l : List Pt) (k : Nat) : Option (List Pt) := (firstF (rulL l k)).map fun F => fnOf F k l
def stepL (l : List Pt) (i : Int) : List Pt := if 0 ≤ i ∧ i < l.length then (stepO l i.toNat).getD l else l
def stepB (l : List Pt) (i : Int) : Bool := if 0 ≤ i ∧ i < l.length then (stepO l i.toNat).isSome else false
theorem fn_len (F k : Nat) (l : List Pt) : (fnOf F k l).length = l.length := by
  unfold fnOf
  by_cases h0 : F = 29
  · rw [if_pos h0]; simp only [List.length_set, List.length_map]
  rw [if_neg h0]
  by_cases h1 : F = 30
  · rw [if_pos h1]; simp only [List.length_set, List.length_map]
  rw [if_neg h1]
  by_cases h2 : F = 43
  · rw [if_pos h2]; simp only [List.length_set, List.length_map]
  rw [if_neg h2]
  by_cases h3 : F = 47
  · rw [if_pos h3]; simp only [List.length_set, List.length_map]
  rw [if_neg h3]
  by_cases h4 : F = 55
  · rw [if_pos h4]; simp only [List.length_set, List.length_map]
  rw [if_neg h4]
  by_cases h5 : F = 66
  · rw [if_pos h5]; simp only [List.length_set, List.length_map]
  rw [if_neg h5]
  by_cases h6 : F = 57
  · rw [if_pos h6]; simp only [List.length_set, List.length_map]
  rw [if_neg h6]
  by_cases h7 : F = 58
  · rw [if_pos h7]; simp only [List.length_set, List.length_map]
  rw [if_neg h7]
  by_cases h8 : F = 59
  · rw [if_pos h8]; simp only [List.length_set, List.length_map]
  rw [if_neg h8]
  by_cases h9 : F = 60
  · rw [if_pos h9]; simp only [List.length_set, List.length_map]
  rw [if_neg h9]
  by_cases h10 : F = 62
  · rw [if_pos h10]; simp only [List.length_set, List.length_map]
  rw [if_neg h10]
  by_cases h11 : F = 63
  · rw [if_pos h11]; simp only [List.length_set, List.length_map]
  rw [if_neg h11]
  by_cases h12 : F = 64
  · rw [if_pos h12]; simp only [List.length_set, List.length_map]
  rw [if_neg h12]
  by_cases h13 : F = 65
  · rw [if_pos h13]; simp only [List.length_set, List.length_map]
  rw [if_neg h13]
  by_cases h14 : F = 68
  · rw [if_pos h14]; simp only [List.length_set, List.length_map]
  rw [if_neg h14]
  by_cases h15 : F = 71
  · rw [if_pos h15]; simp only [List.length_set, List.length_map]
  rw [if_neg h15]
  by_cases h16 : F = 56
  · rw [if_pos h16]; simp only [List.length_set, List.length_map]
  rw [if_neg h16]
theorem stepO_len {l m : List Pt} {k : Nat} (h : stepO l k = some m) : m.length = l.length := by
  unfold stepO at h
  rw [Option.map_eq_some_iff] at h
  obtain ⟨F, _, rfl⟩ := h
  exact fn_len F k l
theorem stepL_len (l : List Pt) (i : Int) : (stepL l i).length = l.length := by
  unfold stepL
  split
  · cases h : stepO l i.toNat with
    | none => rfl
    | some m => exact stepO_len h
  · rfl
theorem step_in {l : List Pt} {k : Nat} (h : k < l.length) : stepL l (k : Int) = (stepO l k).getD l ∧ stepB l (k : Int) = (stepO l k).isSome := by
  unfold stepL stepB
  rw [if_pos ⟨by omega, by omega⟩, if_pos ⟨by omega, by omega⟩]
  exact ⟨rfl, rfl⟩
theorem step_out {l : List Pt} {i : Int} (h : ¬ (0 ≤ i ∧ i < l.length)) : stepL l i = l ∧ stepB l i = false := by
  unfold stepL stepB
  rw [if_neg h, if_neg h]
  exact ⟨rfl, rfl⟩
end Go.Proofs.Ytdlleecfmebenaa
