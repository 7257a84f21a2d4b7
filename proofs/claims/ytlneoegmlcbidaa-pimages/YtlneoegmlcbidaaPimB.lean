/-
  What a message does, told as closures: the walks of superior and effects.
-/
import Derived.Test.YtlneoegmlcbidaaPimA
namespace Go.Proofs.Ytlneoegmlcbidaa
set_option linter.unusedVariables false
set_option maxRecDepth 4000
set_option linter.unusedSimpArgs false
open Go.RowKit

/-- A function as a value. -/
def fv (F : Nat) : Value := .func (.func F) #[] #[]
/-- What each effect does, one after another: the functions, and what they make of a port. -/
def dsL : Nat → List (Nat × (Pt → Pt))
  | 0 => [(76, d1P), (66, propP), (67, flagP), (77, d2P), (68, agrP), (78, synP), (79, prioP), (80, timP), (69, whiP), (81, d4P)]
  | 1 => [(66, propP), (67, flagP), (68, agrP), (69, whiP)]
  | 2 => [(70, dispP)]
  | 3 => [(68, agrP), (67, flagP)]
  | _ => [(71, othP)]
/-- Of what message each effect is. -/
def ofK : Nat → Int
  | 0 => 1
  | 1 => 2
  | 2 => 3
  | 3 => 4
  | _ => 0
def dsC (k : Nat) : Array Value := ((dsL k).map fun d => fv d.1).toArray
def effC (s : Nat) : Array Value := #[.int .i64 1, .slice (some ⟨s, 0, none⟩) 10 10, .int .i64 2, .slice (some ⟨s + 1, 0, none⟩) 4 4, .int .i64 3, .slice (some ⟨s + 2, 0, none⟩) 1 1, .int .i64 4, .slice (some ⟨s + 3, 0, none⟩) 2 2, .int .i64 0, .slice (some ⟨s + 4, 0, none⟩) 1 1]
/-- What 'received' asks of a closure. -/
structure Deed (F : Nat) (f : Pt → Pt) : Prop where
  does : ∀ (p : Pt) (w : World), Calls Try.prog F #[.agg p.cs] w fun r w' => r = .returned (.agg (f p).cs) ∧ Below w.heap.size w w'
  enter : ∀ (x : Value) (V : World), (callFunc F #[x]).run Try.prog V = .ok (.enter F #[x]) V
theorem deed_d1 : Deed 76 d1P := ⟨d1_any, fun x V => by go_simp⟩
theorem deed_d2 : Deed 77 d2P := ⟨d2_any, fun x V => by go_simp⟩
theorem deed_syn : Deed 78 synP := ⟨syn_any, fun x V => by go_simp⟩
theorem deed_d4 : Deed 81 d4P := ⟨d4_any, fun x V => by go_simp⟩
theorem deed_oth : Deed 71 othP := ⟨oth_deed, fun x V => by go_simp⟩
theorem deed_prop : Deed 66 propP := ⟨prop_any, fun x V => by go_simp⟩
theorem deed_flag : Deed 67 flagP := ⟨flag_any, fun x V => by go_simp⟩
theorem deed_agr : Deed 68 agrP := ⟨agr_any, fun x V => by go_simp⟩
theorem deed_prio : Deed 79 prioP := ⟨prio_any, fun x V => by go_simp⟩
theorem deed_tim : Deed 80 timP := ⟨tim_any, fun x V => by go_simp⟩
theorem deed_whi : Deed 69 whiP := ⟨whi_any, fun x V => by go_simp⟩
theorem deed_disp : Deed 70 dispP := ⟨disp_any, fun x V => by go_simp⟩
theorem deeds (k : Nat) : ∀ d ∈ dsL k, Deed d.1 d.2 := by
  match k with
  | 0 =>
    intro d hd
    simp only [dsL, List.mem_cons, List.not_mem_nil, or_false] at hd
    rcases hd with rfl | rfl | rfl | rfl | rfl | rfl | rfl | rfl | rfl | rfl
    · exact deed_d1
    · exact deed_prop
    · exact deed_flag
    · exact deed_d2
    · exact deed_agr
    · exact deed_syn
    · exact deed_prio
    · exact deed_tim
    · exact deed_whi
    · exact deed_d4
  | 1 =>
    intro d hd
    simp only [dsL, List.mem_cons, List.not_mem_nil, or_false] at hd
    rcases hd with rfl | rfl | rfl | rfl
    · exact deed_prop
    · exact deed_flag
    · exact deed_agr
    · exact deed_whi
  | 2 =>
    intro d hd
    simp only [dsL, List.mem_cons, List.not_mem_nil, or_false] at hd
    subst hd
    exact deed_disp
  | 3 =>
    intro d hd
    simp only [dsL, List.mem_cons, List.not_mem_nil, or_false] at hd
    rcases hd with rfl | rfl
    · exact deed_agr
    · exact deed_flag
  | n + 4 =>
    intro d hd
    simp only [dsL, List.mem_cons, List.not_mem_nil, or_false] at hd
    subst hd
    exact deed_oth
/-- The first i of them done. -/
def runTo (ds : List (Nat × (Pt → Pt))) (p : Pt) (i : Nat) : Pt := (ds.take i).foldl (fun q d => d.2 q) p
theorem runTo_zero (ds : List (Nat × (Pt → Pt))) (p : Pt) : runTo ds p 0 = p := rfl
theorem runTo_next {ds : List (Nat × (Pt → Pt))} {p : Pt} {i : Nat} (h : i < ds.length) : runTo ds p (i + 1) = (ds[i]).2 (runTo ds p i) := by
  unfold runTo
  rw [List.take_add_one, List.getElem?_eq_getElem h, List.foldl_append]
  rfl
/-- What messages of that kind do. -/
def doneK (k : Nat) (p : Pt) : Pt := runTo (dsL k) p (dsL k).length
def posI (n : Int) : Nat := if n = 1 then 0 else if n = 2 then 1 else if n = 3 then 2 else if n = 4 then 3 else 4
theorem posI_le (n : Int) : posI n ≤ 4 := by
  unfold posI
  (repeat' split) <;> omega
theorem posI_of {n : Int} (h : n = 0 ∨ n = 1 ∨ n = 2 ∨ n = 3 ∨ n = 4) : ofK (posI n) = n := by
  rcases h with rfl | rfl | rfl | rfl | rfl <;> rfl
theorem posI_ne {n : Int} {k : Nat} (h : n = 0 ∨ n = 1 ∨ n = 2 ∨ n = 3 ∨ n = 4) (hk : k < posI n) : ofK k ≠ n := by
  have := posI_le n
  rcases h with rfl | rfl | rfl | rfl | rfl
  · have : k < 4 := hk
    match k, this with
    | 0, _ => decide
    | 1, _ => decide
    | 2, _ => decide
    | 3, _ => decide
  · exact absurd hk (by decide +revert)
  · have : k < 1 := hk
    match k, this with
    | 0, _ => decide
  · have : k < 2 := hk
    match k, this with
    | 0, _ => decide
    | 1, _ => decide
  · have : k < 3 := hk
    match k, this with
    | 0, _ => decide
    | 1, _ => decide
    | 2, _ => decide
theorem infP_in (p : Pt) : infP p = 0 ∨ infP p = 1 ∨ infP p = 2 ∨ infP p = 3 ∨ infP p = 4 := by
  unfold infP ofDes
  (repeat' split) <;> omega
theorem done_rec (p : Pt) : doneK (posI (infP p)) p = recQ p := by
  have key : ∀ k, doneK k p = (dsL k).foldl (fun q d => d.2 q) p := fun k => by unfold doneK runTo; rw [List.take_length]
  rw [key]
  unfold recQ
  rcases infP_in p with h | h | h | h | h
  · rw [h, if_neg (by decide), if_neg (by decide), if_neg (by decide), if_neg (by decide)]
    simp only [show posI 0 = 4 from rfl, dsL, List.foldl_cons, List.foldl_nil]
  · rw [h, if_pos rfl]
    simp only [show posI 1 = 0 from rfl, dsL, List.foldl_cons, List.foldl_nil, supP]
  · rw [h, if_neg (by decide), if_pos rfl]
    simp only [show posI 2 = 1 from rfl, dsL, List.foldl_cons, List.foldl_nil]
  · rw [h, if_neg (by decide), if_neg (by decide), if_pos rfl]
    simp only [show posI 3 = 2 from rfl, dsL, List.foldl_cons, List.foldl_nil]
  · rw [h, if_neg (by decide), if_neg (by decide), if_neg (by decide), if_pos rfl]
    simp only [show posI 4 = 3 from rfl, dsL, List.foldl_cons, List.foldl_nil]
set_option maxHeartbeats 2000000 in
theorem supl_any (w : World) :
    Calls Try.prog 65 #[] w fun r w' => r = .returned (.slice (some ⟨w.heap.size, 0, none⟩) 10 10) ∧ w' = w.alloc (.cells (dsC 0) 60) := by
  go_enter Try.func65, Try.ntmps65
  go_wp2
  go_returns
  exact ⟨rfl, rfl⟩
/-- The effects in memory. -/
structure EffAt (W : World) (e s : Nat) : Prop where
  row : RvAt W e 75 (effC s)
  ds : ∀ k, k < 5 → RvAt W (s + k) 60 (dsC k)
theorem EffAt.below {W V : World} {e s : Nat} (h : EffAt W e s) (k : Below W.heap.size W V) : EffAt V e s := ⟨h.row.below k, fun j hj => (h.ds j hj).below k⟩
theorem eff_laid (w : World) : ∃ W, ((((((w.alloc (.cells (dsC 0) 60)).alloc (.cells (dsC 1) 60)).alloc (.cells (dsC 2) 60)).alloc (.cells (dsC 3) 60)).alloc (.cells (dsC 4) 60)).alloc (.cells (effC w.heap.size) 75)) = W ∧ EffAt W (w.heap.size + 5) w.heap.size ∧ Below w.heap.size w W := by
  have new : ∀ (w : World) (cs : Array Value) (t : TypeId), ∃ W, w.alloc (.cells cs t) = W ∧ RvAt W w.heap.size t cs ∧ Below w.heap.size w W ∧ W.heap.size = w.heap.size + 1 := fun w cs t => ⟨_, rfl, RvAt.new w _ _, (Below.refl _ _).alloc (Nat.le_refl _) _, by simp⟩
  obtain ⟨A, hA, rA, bA, zA⟩ := new w (dsC 0) 60
  obtain ⟨B, hB, rB, bB, zB⟩ := new A (dsC 1) 60
  obtain ⟨C, hC, rC, bC, zC⟩ := new B (dsC 2) 60
  obtain ⟨D, hD, rD, bD, zD⟩ := new C (dsC 3) 60
  obtain ⟨E, hE, rE, bE, zE⟩ := new D (dsC 4) 60
  obtain ⟨F, hF, rF, bF, zF⟩ := new E (effC w.heap.size) 75
  rw [zA] at rB
  rw [zB, zA] at rC
  rw [zC, zB, zA] at rD
  rw [zD, zC, zB, zA] at rE
  rw [zE, zD, zC, zB, zA] at rF
  refine ⟨F, by rw [hA, hB, hC, hD, hE, hF], ⟨rF, fun k hk => ?_⟩, below_over (below_over (below_over (below_over (below_over bA bB) bC) bD) bE) bF⟩
  match k, hk with
  | 0, _ => exact ((((rA.below bB).below bC).below bD).below bE).below bF
  | 1, _ => exact (((rB.below bC).below bD).below bE).below bF
  | 2, _ => exact ((rC.below bD).below bE).below bF
  | 3, _ => exact (rD.below bE).below bF
  | 4, _ => exact rE.below bF
set_option maxHeartbeats 4000000 in
theorem eff_any (w : World) :
    Calls Try.prog 55 #[] w fun r w' => r = .returned (.slice (some ⟨w.heap.size + 5, 0, none⟩) 5 5) ∧ EffAt w' (w.heap.size + 5) w.heap.size ∧ Below w.heap.size w w' := by
  obtain ⟨W, hW, H0⟩ := eff_laid w
  have H : Hid (EffAt W (w.heap.size + 5) w.heap.size ∧ Below w.heap.size w W) := H0
  clear H0
  have HW : Hid (_ = W) := hW
  clear hW
  go_enter Try.func55, Try.ntmps55
  go_wp2_with fail
  refine (supl_any w).mono ?_
  rintro _ V ⟨rfl, hV⟩
  subst hV
  go_wp2
  go_returns
  refine ⟨rfl, ?_⟩
  have e := HW.out
  have h := H.out
  rw [← e] at h
  exact h
end Go.Proofs.Ytlneoegmlcbidaa
