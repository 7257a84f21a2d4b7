/-
  A type ahead of any bytes, whatever it is.
-/
import Derived.Test.YteljcgdenagcmaaTType
namespace Go.Proofs.Yteljcgdenagcmaa
set_option linter.unusedVariables false
open Go.RowKit

/-- The bytes that are told of a type and its parts. -/
def ptE (n : Int) : Int := if 0 ≤ n ∧ n ≤ 65535 then 0 else 1
def ptL (n : Int) (lf : Nat → List Int) (k : Nat) : List Int := if 0 ≤ n ∧ n ≤ 65535 then joined (typeL n) lf k else []

theorem ptype_any (n : Int) (pb k c : Nat) (vf : Nat → Value) (lf : Nat → List Int) (w : World) (hk : k ≤ 2) (hkc : k ≤ c) (hP : Parts w pb k vf lf) :
    Calls Try.prog 49 #[.int .i64 n, .slice (some ⟨pb, 0, none⟩) k c] w fun r w' => ∃ s, r = .returned (.tuple #[s, .int .i64 (ptE n)]) ∧ Own w' w.heap.size s (ptL n lf k) ∧ Below w.heap.size w w' := by
  unfold ptE ptL
  by_cases h : 0 ≤ n ∧ n ≤ 65535
  · rw [if_pos h, if_pos h]
    exact ptype_yes n pb k c vf lf w h hk hkc hP
  · rw [if_neg h, if_neg h]
    exact (ptype_no n _ w (by omega)).mono fun r w' ⟨hr, hb⟩ => ⟨_, hr, own_nil _ _, hb⟩

end Go.Proofs.Yteljcgdenagcmaa
