/-
  What a bridge's settings are held against: addresses, times, costs: the walks of Address, both CheckT, within, wrongCost and the library's ContainsFunc.
-/
import Derived.Test.YtllmadgonobdnaaCopy
import Derived.Test.YtllmadgonobdnaaTail
namespace Go.Proofs.Ytllmadgonobdnaa
set_option linter.unusedVariables false
set_option maxRecDepth 4000
set_option linter.unusedSimpArgs false
open Go.RowKit

/-- May a bridge's times be? -/
def chkT (x h d : Int) : Int := if 6 ≤ x ∧ x ≤ 40 ∧ 1 ≤ h ∧ h ≤ 2 ∧ 4 ≤ d ∧ d ≤ 30 ∧ x ≤ 2 * (d - 1) ∧ 2 * (h + 1) ≤ x then 0 else 60
set_option maxHeartbeats 2000000 in
theorem chkref_any (a x h d : Int) (w : World) (hx : 0 ≤ x ∧ x ≤ 255) (hh : 0 ≤ h ∧ h ≤ 255) (hd : 0 ≤ d ∧ d ≤ 255) :
    Calls Try.prog 47 #[.agg #[.int .u8 a, .int .u8 x, .int .u8 h, .int .u8 d]] w fun r w' => r = .returned (.int .i64 (chkT x h d)) ∧ Below w.heap.size w w' := by
  have q := @Later.cell
  go_enter Try.func47, Try.ntmps47
  go_wp2_with fail
  refine wp_region_later (by kernel_rfl) (by kernel_rfl) ?_
  repeat (go_big_quiet_step (first | exact rfl))
  refine wpQuiet_nil ?_
  intro _ hw'
  obtain ⟨y, rfl⟩ := hw'
  go_wp2_with fail
  all_goals
    go_ret
    refine ⟨ret_int ?_, below_later (by go_grown) _⟩
    unfold chkT
    split <;> first | omega | (simp at *; omega)
/-! ### costs -/
/-- Is a cost wrong? -/
def badC (x : Int) : Bool := decide (x < 1) || decide (200000000 < x)
/-- The slice leads to these costs. -/
structure CsAt (W : World) (a : Option Addr) (n c : Nat) (l : List Int) : Prop where
  len : l.length = n
  cap : n ≤ c
  max : c ≤ maxLen
  some' : 0 < n → ∃ b o, a = some ⟨b, o, none⟩
  bnd : ∀ x ∈ l, (Lit.int .u32 x).wf = true
  cells : ∀ b o, a = some ⟨b, o, none⟩ → ∀ j v, l[j]? = some v → W.cell? ⟨b, o + j, none⟩ = some (.int .u32 v)
theorem CsAt.below {W W' : World} {a : Option Addr} {n c : Nat} {l : List Int} (h : CsAt W a n c l) (hb : Below W.heap.size W W') : CsAt W' a n c l :=
  ⟨h.len, h.cap, h.max, h.some', h.bnd, fun b o e j v hv => by
    have := h.cells b o e j v hv
    exact (hb.cell (World.block_lt_of_cell? W _ this)).trans this⟩
theorem CsAt.cut {W : World} {a : Option Addr} {n c : Nat} {l : List Int} (h : CsAt W a n c l) {m : Nat} (hm : m ≤ n) : CsAt W a m c (l.take m) :=
  ⟨by rw [List.length_take, h.len]; omega, by have := h.cap; omega, h.max, fun h0 => h.some' (by omega), fun x hx => h.bnd x (List.mem_of_mem_take hx), fun b o e j v hv => by
    rw [List.getElem?_take] at hv
    split at hv
    · exact h.cells b o e j v hv
    · cases hv⟩
theorem find_pre {l : List Int} {i : Nat} (hi : i < l.length) (h : ∀ j x, j < i → l[j]? = some x → badC x = false) (e : badC l[i] = true) : l.any badC = true := by
  rw [List.any_eq_true]
  exact ⟨l[i], List.getElem_mem _, e⟩
theorem find_no {l : List Int} (h : ∀ j x, j < l.length → l[j]? = some x → badC x = false) : l.any badC = false := by
  rw [List.any_eq_false]
  intro x hx
  obtain ⟨j, hj, e⟩ := List.mem_iff_getElem.1 hx
  have := h j x hj (by rw [List.getElem?_eq_getElem hj, e])
  simp [this]
end Go.Proofs.Ytllmadgonobdnaa
