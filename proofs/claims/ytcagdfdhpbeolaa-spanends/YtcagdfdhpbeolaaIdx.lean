/-
  Is an address, or a port, among those seen: the walks of slices.Index and slices.Contains, for every input.
-/
import Derived.Test.YtcagdfdhpbeolaaSds
namespace Go.Proofs.Ytcagdfdhpbeolaa
set_option linter.unusedVariables false
set_option maxRecDepth 4000
set_option linter.unusedSimpArgs false
open Go.RowKit

/-- Is there one in a row that is like an earlier one? -/
def dup {α : Type} (q : α → α → Bool) (l : List α) : Bool := (List.range l.length).any fun i => match l[i]? with | some x => (l.take i).any (fun y => q x y) | none => false
theorem dup_yes {α : Type} {q : α → α → Bool} {l : List α} {i : Nat} {x : α} (hi : l[i]? = some x) (h : (l.take i).any (fun y => q x y) = true) : dup q l = true := by
  unfold dup
  rw [List.any_eq_true]
  refine ⟨i, List.mem_range.2 (List.getElem?_eq_some_iff.1 hi).1, ?_⟩
  rw [hi]
  exact h
theorem dup_no {α : Type} {q : α → α → Bool} {l : List α} (h : ∀ i x, l[i]? = some x → (l.take i).any (fun y => q x y) = false) : dup q l = false := by
  unfold dup
  rw [List.any_eq_false]
  intro i hi
  cases e : l[i]? with
  | none => simp
  | some x => simp [h i x e]
theorem dup_not {α : Type} {q : α → α → Bool} {l : List α} (h : dup q l = false) {i : Nat} {x : α} (hi : l[i]? = some x) : (l.take i).any (fun y => q x y) = false := by
  cases e : (l.take i).any (fun y => q x y) with
  | false => rfl
  | true => rw [dup_yes hi e] at h; cases h
theorem any_take_yes {α : Type} {q : α → Bool} {l : List α} {i : Nat} {x : α} (hi : l[i]? = some x) (h : q x = true) : l.any q = true := by
  rw [List.any_eq_true]
  exact ⟨x, List.mem_of_getElem? hi, h⟩
theorem any_all_no {α : Type} {q : α → Bool} {l : List α} (h : ∀ i x, i < l.length → l[i]? = some x → q x = false) : l.any q = false := by
  rw [List.any_eq_false]
  intro x hx
  obtain ⟨i, hi, e⟩ := List.mem_iff_getElem.1 hx
  simp [h i x hi (by rw [List.getElem?_eq_getElem hi, e])]
attribute [local go_sem] eqMacA eqPrt
theorem ldm {W : World} {b o n c i : Nat} {l : List Int} {x : Int} (h : SlAt eA W (some ⟨b, o, none⟩) n c l) (hx : l[i]? = some x) : (ldS 93 (.pointer (some ⟨b, o + i * 6, none⟩))).run Try.prog W = .ok (.agg (adr x)) W := h.ld kA hx Try.underlying93 rfl rfl
theorem ldp {W : World} {b o n c i : Nat} {l : List (Int × Int)} {x : Int × Int} (h : SlAt eP W (some ⟨b, o, none⟩) n c l) (hx : l[i]? = some x) : (ldS 98 (.pointer (some ⟨b, o + i * 2, none⟩))).run Try.prog W = .ok (.agg (prt x)) W := h.ld kP hx Try.underlying98 rfl rfl
theorem lde {W : World} {b o n c i : Nat} {l : List Eg} {x : Eg} (h : SlAt eE W (some ⟨b, o, none⟩) n c l) (hx : l[i]? = some x) : (ldS 50 (.pointer (some ⟨b, o + i * 6, none⟩))).run Try.prog W = .ok (.agg x.cs) W := h.ld kE hx Try.underlying50 rfl rfl
attribute [local go_sem ↓] ldA stA ldP stP ldE stE
set_option maxHeartbeats 2000000 in
theorem indexA_any (a : Option Addr) (n c : Nat) (l : List Int) (y : Int) (w : World) (hs : SlAt eA w a n c l) :
    Calls Try.prog 53 #[.slice a n c, .agg (adr y)] w fun r w' => (∃ k : Int, r = .returned (.int .i64 k) ∧ (decide (0 ≤ k) = l.any (fun z => sameA y z))) ∧ Below w.heap.size w w' := by
  have hn := hs.int
  obtain ⟨W, hW⟩ : ∃ W, w.alloc (.cells (adr y) 93) = W := ⟨_, rfl⟩
  have bW : Below w.heap.size w W := by rw [← hW]; exact (Below.refl _ _).alloc (Nat.le_refl _) _
  have r0 : RvAt W w.heap.size 93 (adr y) := by rw [← hW]; exact RvAt.new w _ _
  have H : Hid (SlAt eA W a n c l ∧ l.length = n ∧ RvAt W w.heap.size 93 (adr y) ∧ Below w.heap.size w W) := ⟨hs.below bW, hs.len, r0, bW⟩
  clear hs bW r0
  go_enter Try.func53, Try.ntmps53
  go_wp2_with fail
  go_loopw [8] (fun v8 wr => ∃ i : Nat, i ≤ n ∧ v8 = .int .i64 i ∧ (∀ j x, j < i → l[j]? = some x → sameA y x = false) ∧ Below W.heap.size W wr) (fun v8 _ => n - (intOf v8).toNat)
  case atStart => exact ⟨0, by omega, rfl, fun j x hj => by omega, by first | exact Below.refl _ _ | (rw [← hW]; exact Below.refl _ _)⟩
  case round =>
    obtain ⟨i, hi, rfl, hlow, hB⟩ := hrel
    have J : Hid ((∀ j x, j < i → l[j]? = some x → sameA y x = false) ∧ Below W.heap.size W wr) := ⟨hlow, hB⟩
    have hi0 : (0 : Int) ≤ (i : Int) := by omega
    by_cases hit : i < n
    · have hi1 : (i : Int) < (n : Int) := by omega
      have hil : i < l.length := by rw [H.out.2.1]; exact hit
      obtain ⟨b, o, rfl⟩ := H.out.1.some' (by omega)
      obtain ⟨x, hx⟩ : ∃ x, l[i]? = some x := ⟨_, List.getElem?_eq_getElem hil⟩
      have l1 := fun q : Later wr => ldm ((H.out.1.below hB).below q.below) hx
      have l2 := fun q : Later wr => ((H.out.2.2.1.below hB).below q.below).ld rtA rfl
      have HX : Hid (l[i]? = some x) := hx
      clear hlow hB hx hil
      cases hq : sameA y x
      · have NX : Hid (∀ j x, j < i + 1 → l[j]? = some x → sameA y x = false) := fun j z hj hz => by
          by_cases e : j = i
          · subst e
            rw [HX.out] at hz
            cases hz
            exact hq
          · exact J.out.1 j z (by omega) hz
        go_wp2_with fail
        refine wp_region_later (by kernel_rfl) (by kernel_rfl) ?_
        repeat (go_big_quiet_step (first | exact rfl))
        refine wpQuiet_nil ?_
        intro _ hw'
        obtain ⟨q, rfl⟩ := hw'
        go_wp2
        go_roundw
        case rel => exact ⟨i + 1, by omega, by go_num, NX.out, below_later J.out.2 q⟩
        case measure => simp [intOf]; omega
      · have YS : Hid (l.any (fun z => sameA y z) = true) := any_take_yes HX.out hq
        go_wp2_with fail
        refine wp_region_later (by kernel_rfl) (by kernel_rfl) ?_
        repeat (go_big_quiet_step (first | exact rfl))
        refine wpQuiet_nil ?_
        intro _ hw'
        obtain ⟨q, rfl⟩ := hw'
        go_wp2
        go_ret
        exact ⟨⟨_, rfl, by rw [YS.out]; simp⟩, below_later (below_over H.out.2.2.2 J.out.2) q⟩
    · have hin : i = n := by omega
      subst hin
      have hi1 : ¬ (i : Int) < (i : Int) := by omega
      have NO : Hid (l.any (fun z => sameA y z) = false) := any_all_no fun j z hj hz => hlow j z (by rw [← H.out.2.1]; exact hj) hz
      clear hlow hB
      go_wp2
      go_ret
      exact ⟨⟨_, rfl, by rw [NO.out]; rfl⟩, below_over H.out.2.2.2 J.out.2⟩
set_option maxHeartbeats 2000000 in
theorem containsA_any (a : Option Addr) (n c : Nat) (l : List Int) (y : Int) (w : World) (hs : SlAt eA w a n c l) :
    Calls Try.prog 45 #[.slice a n c, .agg (adr y)] w fun r w' => r = .returned (.bool (l.any (fun z => sameA y z))) ∧ Below w.heap.size w w' := by
  obtain ⟨W, hW⟩ : ∃ W, w.alloc (.cells (adr y) 93) = W := ⟨_, rfl⟩
  have bW : Below w.heap.size w W := by rw [← hW]; exact (Below.refl _ _).alloc (Nat.le_refl _) _
  have r0 : RvAt W w.heap.size 93 (adr y) := by rw [← hW]; exact RvAt.new w _ _
  have l0 := r0.ld rtA rfl
  have H : Hid (SlAt eA W a n c l ∧ Below w.heap.size w W) := ⟨hs.below bW, bW⟩
  clear hs bW r0
  go_enter Try.func45, Try.ntmps45
  go_wp2_with fail
  refine (indexA_any a n c l y W H.out.1).mono ?_
  rintro _ W1 ⟨⟨k, rfl, hk⟩, b1⟩
  have K : Hid (decide (0 ≤ k) = l.any (fun z => sameA y z)) := hk
  clear hk
  go_wp2
  go_ret
  exact ⟨by rw [← K.out]; rfl, below_over H.out.2 b1⟩
set_option maxHeartbeats 2000000 in
theorem indexP_any (a : Option Addr) (n c : Nat) (l : List (Int × Int)) (y : Int × Int) (w : World) (hs : SlAt eP w a n c l) :
    Calls Try.prog 54 #[.slice a n c, .agg (prt y)] w fun r w' => (∃ k : Int, r = .returned (.int .i64 k) ∧ (decide (0 ≤ k) = l.any (fun z => sameP y z))) ∧ Below w.heap.size w w' := by
  have hn := hs.int
  obtain ⟨W, hW⟩ : ∃ W, w.alloc (.cells (prt y) 98) = W := ⟨_, rfl⟩
  have bW : Below w.heap.size w W := by rw [← hW]; exact (Below.refl _ _).alloc (Nat.le_refl _) _
  have r0 : RvAt W w.heap.size 98 (prt y) := by rw [← hW]; exact RvAt.new w _ _
  have H : Hid (SlAt eP W a n c l ∧ l.length = n ∧ RvAt W w.heap.size 98 (prt y) ∧ Below w.heap.size w W) := ⟨hs.below bW, hs.len, r0, bW⟩
  clear hs bW r0
  go_enter Try.func54, Try.ntmps54
  go_wp2_with fail
  go_loopw [8] (fun v8 wr => ∃ i : Nat, i ≤ n ∧ v8 = .int .i64 i ∧ (∀ j x, j < i → l[j]? = some x → sameP y x = false) ∧ Below W.heap.size W wr) (fun v8 _ => n - (intOf v8).toNat)
  case atStart => exact ⟨0, by omega, rfl, fun j x hj => by omega, by first | exact Below.refl _ _ | (rw [← hW]; exact Below.refl _ _)⟩
  case round =>
    obtain ⟨i, hi, rfl, hlow, hB⟩ := hrel
    have J : Hid ((∀ j x, j < i → l[j]? = some x → sameP y x = false) ∧ Below W.heap.size W wr) := ⟨hlow, hB⟩
    have hi0 : (0 : Int) ≤ (i : Int) := by omega
    by_cases hit : i < n
    · have hi1 : (i : Int) < (n : Int) := by omega
      have hil : i < l.length := by rw [H.out.2.1]; exact hit
      obtain ⟨b, o, rfl⟩ := H.out.1.some' (by omega)
      obtain ⟨x, hx⟩ : ∃ x, l[i]? = some x := ⟨_, List.getElem?_eq_getElem hil⟩
      have l1 := fun q : Later wr => ldp ((H.out.1.below hB).below q.below) hx
      have l2 := fun q : Later wr => ((H.out.2.2.1.below hB).below q.below).ld rtP rfl
      have HX : Hid (l[i]? = some x) := hx
      clear hlow hB hx hil
      cases hq : sameP y x
      · have NX : Hid (∀ j x, j < i + 1 → l[j]? = some x → sameP y x = false) := fun j z hj hz => by
          by_cases e : j = i
          · subst e
            rw [HX.out] at hz
            cases hz
            exact hq
          · exact J.out.1 j z (by omega) hz
        go_wp2_with fail
        refine wp_region_later (by kernel_rfl) (by kernel_rfl) ?_
        repeat (go_big_quiet_step (first | exact rfl))
        refine wpQuiet_nil ?_
        intro _ hw'
        obtain ⟨q, rfl⟩ := hw'
        go_wp2
        go_roundw
        case rel => exact ⟨i + 1, by omega, by go_num, NX.out, below_later J.out.2 q⟩
        case measure => simp [intOf]; omega
      · have YS : Hid (l.any (fun z => sameP y z) = true) := any_take_yes HX.out hq
        go_wp2_with fail
        refine wp_region_later (by kernel_rfl) (by kernel_rfl) ?_
        repeat (go_big_quiet_step (first | exact rfl))
        refine wpQuiet_nil ?_
        intro _ hw'
        obtain ⟨q, rfl⟩ := hw'
        go_wp2
        go_ret
        exact ⟨⟨_, rfl, by rw [YS.out]; simp⟩, below_later (below_over H.out.2.2.2 J.out.2) q⟩
    · have hin : i = n := by omega
      subst hin
      have hi1 : ¬ (i : Int) < (i : Int) := by omega
      have NO : Hid (l.any (fun z => sameP y z) = false) := any_all_no fun j z hj hz => hlow j z (by rw [← H.out.2.1]; exact hj) hz
      clear hlow hB
      go_wp2
      go_ret
      exact ⟨⟨_, rfl, by rw [NO.out]; rfl⟩, below_over H.out.2.2.2 J.out.2⟩
set_option maxHeartbeats 2000000 in
theorem containsP_any (a : Option Addr) (n c : Nat) (l : List (Int × Int)) (y : Int × Int) (w : World) (hs : SlAt eP w a n c l) :
    Calls Try.prog 47 #[.slice a n c, .agg (prt y)] w fun r w' => r = .returned (.bool (l.any (fun z => sameP y z))) ∧ Below w.heap.size w w' := by
  obtain ⟨W, hW⟩ : ∃ W, w.alloc (.cells (prt y) 98) = W := ⟨_, rfl⟩
  have bW : Below w.heap.size w W := by rw [← hW]; exact (Below.refl _ _).alloc (Nat.le_refl _) _
  have r0 : RvAt W w.heap.size 98 (prt y) := by rw [← hW]; exact RvAt.new w _ _
  have l0 := r0.ld rtP rfl
  have H : Hid (SlAt eP W a n c l ∧ Below w.heap.size w W) := ⟨hs.below bW, bW⟩
  clear hs bW r0
  go_enter Try.func47, Try.ntmps47
  go_wp2_with fail
  refine (indexP_any a n c l y W H.out.1).mono ?_
  rintro _ W1 ⟨⟨k, rfl, hk⟩, b1⟩
  have K : Hid (decide (0 ≤ k) = l.any (fun z => sameP y z)) := hk
  clear hk
  go_wp2
  go_ret
  exact ⟨by rw [← K.out]; rfl, below_over H.out.2 b1⟩
end Go.Proofs.Ytcagdfdhpbeolaa
