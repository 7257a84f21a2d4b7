/-
  Numbers in memory; the definition's tally: walks of New, Get, Add and Same, each for every input.
-/
import Derived.Test.YtammaaiknjgjbaaSq
import Derived.Test.YtammaaiknjgjbaaTail
namespace Go.Proofs.Ytammaaiknjgjbaa
set_option linter.unusedVariables false
set_option maxRecDepth 4000
set_option linter.unusedSimpArgs false
open Go.RowKit

theorem one_of {l : List Value} (h : l.all (fun v => v.oneCell') = true) : ∀ v ∈ l, v.oneCell' = true := fun v hv => List.all_eq_true.1 h v hv
def eI : El Int := ⟨fun n => #[.int .i64 n], 3, 27, 1, 8⟩
theorem kI : eI.Ok := ⟨fun _ => rfl, by decide, fun _ => one_of rfl, Try.underlying27, ⟨.int .i64 0, by kernel_rfl, rfl⟩, by decide⟩
def eW : El Int := ⟨fun n => #[.int .i64 n], 32, 23, 1, 8⟩
theorem kW : eW.Ok := ⟨fun _ => rfl, by decide, fun _ => one_of rfl, Try.underlying23, ⟨.int .i64 0, by kernel_rfl, rfl⟩, by decide⟩
theorem lI {W : World} {b o n c i : Nat} {l : List Int} {x : Int} (h : SlAt eI W (some ⟨b, o, none⟩) n c l) (hx : l[i]? = some x) : W.cell? ⟨b, o + i, none⟩ = some (.int .i64 x) := h.cell kI (j := 0) hx rfl (by show o + i = o + (i * 1 + 0); omega)
theorem lW {W : World} {b o n c i : Nat} {l : List Int} {x : Int} (h : SlAt eW W (some ⟨b, o, none⟩) n c l) (hx : l[i]? = some x) : W.cell? ⟨b, o + i, none⟩ = some (.int .i64 x) := h.cell kW (j := 0) hx rfl (by show o + i = o + (i * 1 + 0); omega)
theorem Own.zero {α : Type} {e : El α} (k : e.Ok) (w : World) : Own e (w.alloc (.cells #[] e.ty)) w.heap.size (.slice (some ⟨w.heap.size, 0, none⟩) 0 0) [] := by
  have h : PAt e (w.alloc (.cells #[] e.ty)) w.heap.size 0 ([] : List α) := ⟨#[], RvAt.new _ _ _, Nat.le_refl _, by unfold maxLen; omega, by simp, by simp [El.fl]⟩
  exact h.own k (Nat.le_refl _)
/-! ### sealed words -/
def bsS (t : TypeId) (n : Nat) (ps : Array (Nat × Value)) : Sem Value := Instr.buildSlice t n ps
theorem apI (ty : TypeId) (xs : Array Value) : Builtin.append_ #[27, 27] ty xs = apS 27 ty xs := rfl
theorem bsI (n : Nat) (ps : Array (Nat × Value)) : Instr.buildSlice 27 n ps = bsS 27 n ps := rfl
theorem bzI (w : World) : (bsS 27 0 #[]).run Try.prog w = .ok (.slice (some ⟨w.heap.size, 0, none⟩) 0 0) (w.alloc (.cells #[] 3)) := by kernel_rfl
theorem infoR : (Try.prog.info? 29).map (·.size) = some 1 := by kernel_rfl
theorem infoI : (Try.prog.info? 3).map (·.size) = some 1 := by kernel_rfl
theorem rtR : RowTy 29 1 := ⟨infoR, _, Try.underlying29, rfl⟩
theorem ldR (x : Value) : Instr.loadAt 29 x = ldS 29 x := rfl
theorem stR (x y : Value) : Instr.storeAt 29 x y = stS 29 x y := rfl
theorem stI (x y : Value) : Instr.storeAt 3 x y = stS 3 x y := rfl
attribute [local go_sem ↓] apI bsI ldR stR stI
attribute [local go_sem] bzI
/-- Numbers, copied into a new row. -/
theorem ints_copy {W : World} {a : Option Addr} {n c : Nat} {l : List Int} (h1 : SlAt eI W a n c l) (hl : n ≤ 50000) (ty : TypeId) :
    ∃ v W', (apS 27 ty #[.slice (some ⟨W.heap.size, 0, none⟩) 0 0, .slice a n c]).run Try.prog (W.alloc (.cells #[] 3)) = .ok v W' ∧ Own eI W' W.heap.size v l ∧ Below W.heap.size W W' := by
  obtain ⟨W1, hW1⟩ : ∃ W1, W.alloc (.cells #[] 3) = W1 := ⟨_, rfl⟩
  have b1 : Below W.heap.size W W1 := by rw [← hW1]; exact (Below.refl _ _).alloc (Nat.le_refl _) _
  have o1 : Own eI W1 W.heap.size (.slice (some ⟨W.heap.size, 0, none⟩) 0 0) [] := by rw [← hW1]; exact Own.zero kI W
  obtain ⟨v, W2, ap, o2, g2⟩ := o1.app kI (h1.below b1) (by have := h1.len; simp; omega) b1.size ty
  rw [List.nil_append] at o2
  have b2 : Below W.heap.size W W2 := b1.trans (below_of_grown g2 b1.size (fun j e => by cases e; exact Nat.le_refl _))
  rw [hW1]
  exact ⟨v, W2, ap, o2, b2⟩
/-! ### by definition -/
def okW (w : Int) : Bool := decide (1 ≤ w ∧ w ≤ 14)
/-- A tally: 15 numbers, each within its bounds. -/
def IsN (N : List Int) : Prop := N.length = 15 ∧ ∀ x ∈ N, 0 ≤ x ∧ x ≤ 1125899906842624
def zN : List Int := [0, 0, 0, 0, 0, 0, 0, 0, 0, 0, 0, 0, 0, 0, 0]
theorem isZ : IsN zN := ⟨rfl, by decide⟩
def getN (N : List Int) (w : Int) : Int := if okW w then N.getD w.toNat 0 else 0
def addE (N : List Int) (w n : Int) : Int := if okW w = false ∨ n < 0 ∨ 1073741824 < n then 220 else if 1125899906842624 < getN N w + n then 3 else 0
def addN (N : List Int) (w n : Int) : List Int := if addE N w n = 0 then N.set w.toNat (getN N w + n) else N
theorem IsN.get {N : List Int} (h : IsN N) {w : Int} (hw : okW w = true) : N[w.toNat]? = some (getN N w) ∧ 0 ≤ getN N w ∧ getN N w ≤ 1125899906842624 ∧ w = (w.toNat : Int) ∧ w.toNat < 15 ∧ 1 ≤ w.toNat := by
  have hw' : 1 ≤ w ∧ w ≤ 14 := by unfold okW at hw; exact of_decide_eq_true hw
  have hl : w.toNat < N.length := by rw [h.1]; omega
  have e : getN N w = N[w.toNat] := by unfold getN; rw [if_pos hw, List.getD_eq_getElem?_getD, List.getElem?_eq_getElem hl]; rfl
  have hb := h.2 _ (List.getElem_mem hl)
  rw [← e] at hb
  exact ⟨by rw [List.getElem?_eq_getElem hl, e], hb.1, hb.2, by omega, by omega, by omega⟩
theorem IsN.get0 {N : List Int} (h : IsN N) (w : Int) : 0 ≤ getN N w ∧ getN N w ≤ 1125899906842624 := by
  cases hw : okW w with
  | true => exact ⟨(h.get hw).2.1, (h.get hw).2.2.1⟩
  | false => unfold getN; simp [hw]
theorem IsN.add {N : List Int} (h : IsN N) (w n : Int) : IsN (addN N w n) := by
  unfold addN
  split
  · rename_i he
    refine ⟨by rw [List.length_set]; exact h.1, fun x hx => ?_⟩
    rcases List.mem_or_eq_of_mem_set hx with h1 | rfl
    · exact h.2 x h1
    · unfold addE at he
      have := (h.get0 w).1
      split at he
      · cases he
      · split at he
        · cases he
        · omega
  · exact h
/-! ### walks -/
theorem ris_any (w : Int) (W : World) : Calls Try.prog 28 #[.int .i64 w] W fun e W' => e = .returned (.bool (okW w)) ∧ W = W' := by
  by_cases h1 : 1 ≤ w
  · by_cases h2 : w ≤ 14
    · have e : okW w = true := by unfold okW; simp [h1, h2]
      rw [e]
      go_enter Try.func28, Try.ntmps28
      go_wp2
      go_ret
      exact ⟨rfl, rfl⟩
    · have e : okW w = false := by unfold okW; simp [h2]
      rw [e]
      go_enter Try.func28, Try.ntmps28
      go_wp2
      go_ret
      exact ⟨rfl, rfl⟩
  · have e : okW w = false := by unfold okW; simp [h1]
    rw [e]
    go_enter Try.func28, Try.ntmps28
    go_wp2
    go_ret
    exact ⟨rfl, rfl⟩
end Go.Proofs.Ytammaaiknjgjbaa
