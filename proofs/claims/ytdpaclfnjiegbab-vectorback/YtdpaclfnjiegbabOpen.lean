/-
  What vectors, times, addresses and numbers that are handed in are; closed facts of the program.
-/
import Derived.Test.YtdpaclfnjiegbabBest
import Derived.Handy
import Derived.OpenShut
import Derived.ChangeSlices
import Derived.ShutString
import Derived.ChangeOld
import Derived.Deep.Slices
namespace Go.Proofs.Ytdpaclfnjiegbab
set_option linter.unusedVariables false
set_option maxRecDepth 4000
open Go.ChangeShapes Go.WideShapes Go.ChangeAt Go.RowKit

theorem own : ownKnob Try.prog.godebug = none := by kernel_rfl
theorem laidOut : laidOutB Try.prog = true := by kernel_rfl
theorem cellsM : Try.prog.cellsOf 25 = 6 := by kernel_rfl
theorem cells8 : Try.prog.cellsOf 5 = 1 := by kernel_rfl
theorem open_mac {H : Type} {enc : TypeId × Value → H} {W : World} {base : Nat} {sp : Nat → Bool} {v : Value} {d : DataW H} {p : List MemPlace}
    (hv : Value.okWide Try.prog W .any base 25 v) (h : DataW.Trod enc Try.prog W 0 sp true 25 v d p) :
    ∃ a b c x y z : Int, v = .agg #[.int .u8 a, .int .u8 b, .int .u8 c, .int .u8 x, .int .u8 y, .int .u8 z] ∧ (0 ≤ a ∧ a ≤ 255) ∧ (0 ≤ b ∧ b ≤ 255) ∧ (0 ≤ c ∧ c ≤ 255) ∧ (0 ≤ x ∧ x ≤ 255) ∧ (0 ≤ y ∧ y ≤ 255) ∧ (0 ≤ z ∧ z ≤ 255) := by
  obtain ⟨cs, rfl, hsz, _⟩ : ∃ cs, v = .agg cs ∧ cs.size = Try.prog.cellsOf 25 ∧ Row.okWide Try.prog W .any base 25 cs := by
    simpa [Value.okWide, Try.underlying25] using hv
  rw [cellsM] at hsz
  obtain ⟨l⟩ := cs
  match l, hsz with
  | [c0, c1, c2, c3, c4, c5], _ =>
    obtain ⟨fuel, hf⟩ := h
    obtain ⟨xs, m, _, _, _, hl, hg⟩ := DataW.trod_array Try.underlying25 hf
    simp only [cells8, Value.cells] at hg
    have get : ∀ (i : Nat) (cv : Value), i < 6 → (([c0, c1, c2, c3, c4, c5] : List Value).drop (i * 1)).take 1 = [cv] → ∃ n : Int, cv = .int .u8 n ∧ 0 ≤ n ∧ n ≤ 255 := by
      intro i cv hi e
      have := hg i hi
      rw [e] at this
      rw [List.getElem?_eq_getElem (by omega)] at this
      obtain ⟨n, e1, _, wn⟩ := DataW.trod_int Try.underlying5 this
      simp at e1
      exact ⟨n, e1, bounds_u8 wn⟩
    obtain ⟨n0, rfl, g0⟩ := get 0 c0 (by omega) rfl
    obtain ⟨n1, rfl, g1⟩ := get 1 c1 (by omega) rfl
    obtain ⟨n2, rfl, g2⟩ := get 2 c2 (by omega) rfl
    obtain ⟨n3, rfl, g3⟩ := get 3 c3 (by omega) rfl
    obtain ⟨n4, rfl, g4⟩ := get 4 c4 (by omega) rfl
    obtain ⟨n5, rfl, g5⟩ := get 5 c5 (by omega) rfl
    exact ⟨n0, n1, n2, n3, n4, n5, rfl, g0, g1, g2, g3, g4, g5⟩
end Go.Proofs.Ytdpaclfnjiegbab
