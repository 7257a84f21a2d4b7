/-
  Calls that are handed in; a tally whose first number is 0. Plain laws.
-/
import Derived.Test.YtammaaiknjgjbaaTw
namespace Go.Proofs.Ytammaaiknjgjbaa
set_option linter.unusedVariables false
set_option maxRecDepth 4000
set_option linter.unusedSimpArgs false
open Go.RowKit
structure Opt where
  d : Int
  w : Int
  n : Int
def Opt.cs (x : Opt) : Array Value := #[.int .u8 x.d, .int .i64 x.w, .int .i64 x.n]
def eO : El Opt := ⟨Opt.cs, 34, 22, 3, 24⟩
theorem kO : eO.Ok := ⟨fun _ => rfl, by decide, fun _ => one_of rfl, Try.underlying22, ⟨.agg (Opt.cs ⟨0, 0, 0⟩), by kernel_rfl, rfl⟩, by decide⟩
theorem lO1 {W : World} {b o n c i : Nat} {l : List Opt} {x : Opt} (h : SlAt eO W (some ⟨b, o, none⟩) n c l) (hx : l[i]? = some x) : W.cell? ⟨b, o + i * 3 + 1, none⟩ = some (.int .i64 x.w) := h.cell kO (j := 1) hx rfl rfl
theorem lO2 {W : World} {b o n c i : Nat} {l : List Opt} {x : Opt} (h : SlAt eO W (some ⟨b, o, none⟩) n c l) (hx : l[i]? = some x) : W.cell? ⟨b, o + i * 3 + 2, none⟩ = some (.int .i64 x.n) := h.cell kO (j := 2) hx rfl rfl
/-- A tally in memory that the law made. -/
structure TyS (w W : World) (g : Nat) (N : List Int) : Prop where
  t : TAt W g N
  n : IsN N
  z : N[0]? = some 0
  b : Below w.heap.size w W
  lo : w.heap.size ≤ g
theorem TyS.below {w W W' : World} {g : Nat} {N : List Int} (h : TyS w W g N) (hb : Below W.heap.size W W') : TyS w W' g N := ⟨RvAt.below h.t hb, h.n, h.z, below_over h.b hb, h.lo⟩
theorem addN_zero {N : List Int} (hz : N[0]? = some 0) (w n : Int) : (addN N w n)[0]? = some 0 := by
  unfold addN
  split
  · rename_i he
    have hw : okW w = true := by
      cases hw : okW w with
      | true => rfl
      | false => unfold addE at he; rw [if_pos (.inl hw)] at he; cases he
    have hw' : 1 ≤ w ∧ w ≤ 14 := by unfold okW at hw; exact of_decide_eq_true hw
    rw [List.getElem?_set, if_neg (by omega)]
    exact hz
  · exact hz
theorem TyS.add {w W W' : World} {g : Nat} {N : List Int} (h : TyS w W g N) {x n : Int} (t : TAt W' g (addN N x n)) (hg : W.grownBy W' (some g)) : TyS w W' g (addN N x n) := ⟨t, h.n.add _ _, addN_zero h.z _ _, gro h.b hg h.lo h.b.size, h.lo⟩
theorem get_at {N : List Int} (hN : IsN N) (hz : N[0]? = some 0) {j : Nat} (hj : j < 15) : N[j]? = some (getN N j) := by
  cases hw : okW (j : Int) with
  | true =>
    have := (hN.get hw).1
    rwa [Int.toNat_natCast] at this
  | false =>
    have h0 : j = 0 := by
      unfold okW at hw
      have := of_decide_eq_false hw
      omega
    subst h0
    rw [hz]
    rfl
theorem difN_zero {N : List Int} (hN : IsN N) (hz : N[0]? = some 0) : difN N zN = N := by
  refine List.ext_getElem? fun j => ?_
  by_cases hj : j < 15
  · have hz0 : ∀ k, k < 15 → zN.getD k 0 = 0 := by decide
    rw [(hN.getD hj).1]
    unfold difN difT
    simp only [List.getElem?_map, List.getElem?_range hj, Option.map_some, if_pos hj, hz0 j hj, Int.sub_zero]
  · rw [List.getElem?_eq_none (by rw [difN, difT_len]; omega), List.getElem?_eq_none (by rw [hN.1]; omega)]
/-- What the difference is at j. -/
theorem difN_at {N : List Int} (hN : IsN N) (w n : Int) {j : Nat} (hj : j < 15) : (difN (addN N w n) N)[j]? = some (if addE N w n = 0 ∧ (j : Int) = w then n else 0) := by
  unfold difN difT
  simp only [List.getElem?_map, List.getElem?_range hj, Option.map_some, if_pos hj]
  congr 1
  by_cases he : addE N w n = 0
  · have hw : okW w = true := by
      cases hw : okW w with
      | true => rfl
      | false => unfold addE at he; rw [if_pos (.inl hw)] at he; cases he
    obtain ⟨k, rfl⟩ : ∃ k : Nat, w = k := ⟨w.toNat, (hN.get hw).2.2.2.1⟩
    have gk : getN N (k : Int) = N.getD k 0 := by unfold getN; rw [if_pos hw]; rfl
    have e0 : addN N k n = N.set k (N.getD k 0 + n) := by unfold addN; rw [if_pos he, Int.toNat_natCast, gk]
    obtain ⟨y, hy⟩ : ∃ y, N.getD k 0 + n = y := ⟨_, rfl⟩
    rw [e0, hy]
    by_cases hjk : j = k
    · subst hjk
      rw [if_pos ⟨he, rfl⟩, List.getD_eq_getElem?_getD (l := N.set j y), List.getElem?_set, if_pos rfl, if_pos (by rw [hN.1]; exact hj)]
      show y - N.getD j 0 = n
      omega
    · rw [if_neg (fun h => hjk (by have := h.2; omega))]
      have gs : (N.set k y).getD j 0 = N.getD j 0 := by rw [List.getD_eq_getElem?_getD, List.getElem?_set, if_neg (by omega), ← List.getD_eq_getElem?_getD]
      rw [gs]
      omega
  · rw [if_neg (fun h => he h.1)]
    have e : addN N w n = N := by unfold addN; rw [if_neg he]
    rw [e]
    omega
theorem addE_n {N : List Int} {w n : Int} (he : addE N w n = 0) : 0 ≤ n := by
  unfold addE at he
  split at he
  · cases he
  · rename_i h
    by_cases h0 : n < 0
    · exact absurd (.inr (.inl h0)) h
    · omega
end Go.Proofs.Ytammaaiknjgjbaa
