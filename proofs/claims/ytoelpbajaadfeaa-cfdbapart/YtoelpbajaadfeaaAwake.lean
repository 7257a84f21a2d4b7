/-
  The page's example: its walk.
-/
import Derived.Test.YtoelpbajaadfeaaOps
namespace Go.Proofs.Ytoelpbajaadfeaa
set_option linter.unusedVariables false
set_option maxRecDepth 4000
set_option linter.unusedSimpArgs false
open Go.RowKit

attribute [local go_sem ↓] ldK stK ldM stM ldP stP ldE stE
def cX : Cf := ⟨2, 5⟩
def eX (i : Int) : En := ⟨kyOf 5 (stA i), stA 9, i⟩
theorem x0 : okC cX = true := by decide
/-- What the base holds ahead of round i. -/
def Xs (i : Nat) (l : List En) : Prop := (i = 1 ∧ l = []) ∨ (i = 2 ∧ l = [eX 1]) ∨ (i = 3 ∧ l = [eX 1, eX 2]) ∨ (i = 4 ∧ l = [eX 2, eX 3])
theorem eldX : eld [eX 1, eX 2] = some (eX 1) := by
  refine eld_some (by refine List.pairwise_cons.2 ⟨fun y hy => ?_, List.pairwise_singleton _ _⟩; rw [List.mem_singleton] at hy; subst hy; decide) ⟨by simp, fun y hy => ?_⟩
  simp only [List.mem_cons, List.not_mem_nil, or_false] at hy
  rcases hy with rfl | rfl
  · right; exact ⟨rfl, Int.le_refl _⟩
  · left; decide
theorem Xs.step {i : Nat} {l : List En} (h : Xs i l) (hi : i ≤ 3) : ∃ l', learnS cX l (eX i) = (l', 0) ∧ Xs (i + 1) l' := by
  rcases h with ⟨rfl, rfl⟩ | ⟨rfl, rfl⟩ | ⟨rfl, rfl⟩ | ⟨rfl, _⟩
  · refine ⟨[eX 1], ?_, .inr (.inl ⟨rfl, rfl⟩)⟩
    unfold learnS putS
    rw [if_pos (by decide), if_pos (.inr (by decide))]
    rfl
  · refine ⟨[eX 1, eX 2], ?_, .inr (.inr (.inl ⟨rfl, rfl⟩))⟩
    unfold learnS putS
    rw [if_pos (by decide), if_pos (.inr (by decide))]
    rfl
  · refine ⟨[eX 2, eX 3], ?_, .inr (.inr (.inr ⟨rfl, rfl⟩))⟩
    unfold learnS putS
    rw [if_pos (by decide), if_neg (by decide), eldX]
    rfl
  · omega
theorem Xs.le {i : Nat} {l : List En} (h : Xs i l) : 1 ≤ i ∧ i ≤ 4 := by
  rcases h with ⟨rfl, _⟩ | ⟨rfl, _⟩ | ⟨rfl, _⟩ | ⟨rfl, _⟩ <;> omega
theorem x8 : (look [eX 2, eX 3] (kyOf 5 (stA 1)).rk).isSome = false := rfl
theorem x9 : plA [eX 2, eX 3] (kyOf 5 (stA 3)).rk = stA 9 ∧ (look [eX 2, eX 3] (kyOf 5 (stA 3)).rk).isSome = true := ⟨rfl, rfl⟩
set_option maxHeartbeats 4000000 in
theorem awake_any (w : World) : Calls Try.prog 10 #[] w fun r w' => r = .returned (.bool true) ∧ Below w.heap.size w w' := by
  go_enter Try.func10, Try.ntmps10
  go_wp2_with fail
  refine (new_yes cX _ x0).mono ?_
  rintro _ W1 ⟨p, b, rfl, d1, hp, hb, b1⟩
  have G1 : Hid (Db W1 p b cX [] ∧ Below w.heap.size w W1 ∧ w.heap.size ≤ p ∧ w.heap.size ≤ b) := ⟨d1, b1, hp, hb⟩
  clear d1 hp hb b1
  go_wp2_with fail
  go_loopw [3] (fun v3 wr => ∃ (i : Nat) (l : List En), v3 = .int .i64 i ∧ Xs i l ∧ Db wr p b cX l ∧ Below w.heap.size w wr) (fun v3 _ => 4 - (intOf v3).toNat)
  case atStart => exact ⟨1, [], rfl, .inl ⟨rfl, rfl⟩, G1.out.1, G1.out.2.1⟩
  case round =>
    obtain ⟨i, l, rfl, hX, hD, hB⟩ := hrel
    have hle := hX.le
    have hb := G1.out.2.2.2
    have hi0 : (0 : Int) ≤ (i : Int) := by omega
    have GR : Hid (Db wr p b cX l ∧ Below w.heap.size w wr) := ⟨hD, hB⟩
    clear hD hB
    by_cases h3 : i ≤ 3
    · have h3' : (i : Int) ≤ 3 := by omega
      obtain ⟨l', hl', hX'⟩ := hX.step h3
      have HE : Hid (learnS cX l (eX i) = (l', 0) ∧ Xs (i + 1) l') := ⟨hl', hX'⟩
      have hst : Hid ((stA i).wf ∧ (stA 9).wf) := ⟨stA_wf (by omega), stA_wf (by omega)⟩
      clear hX hl' hX'
      go_wp2_with fail
      refine (station_any i _ (by omega)).mono ?_
      rintro _ U ⟨rfl, bU⟩
      have GU : Hid (Db U p b cX l ∧ Below w.heap.size w U) := ⟨GR.out.1.below bU, below_over GR.out.2 bU⟩
      clear bU
      go_wp2_with fail
      refine (station_any 9 _ (by omega)).mono ?_
      rintro _ V ⟨rfl, bV⟩
      have GV : Hid (Db V p b cX l ∧ Below w.heap.size w V) := ⟨GU.out.1.below bV, below_over GU.out.2 bV⟩
      clear bV GU
      go_wp2_with fail
      refine (learn_any p b cX l (eX i) _ GV.out.1 (kyOf_wf (by omega) hst.out.1) hst.out.2).mono ?_
      rintro _ X ⟨rfl, dX, gX⟩
      rw [HE.out.1] at dX ⊢
      have GX : Hid (Db X p b cX l' ∧ Below w.heap.size w X) := ⟨dX, GV.out.2.trans (below_of_grown gX GV.out.2.size (fun j e => by cases e; exact hb))⟩
      clear dX gX GV
      go_wp2
      go_roundw
      case rel => exact ⟨i + 1, l', by go_num, HE.out.2, GX.out.1, GX.out.2⟩
      case measure => simp [intOf]; omega
    · have hi4 : i = 4 := by omega
      subst hi4
      have hl : l = [eX 2, eX 3] := by
        rcases hX with ⟨h, _⟩ | ⟨h, _⟩ | ⟨h, _⟩ | ⟨_, h⟩
        · omega
        · omega
        · omega
        · exact h
      subst hl
      clear hX
      have M : Hid ((kyOf 5 (stA 1)).wf ∧ (kyOf 5 (stA 3)).wf) := ⟨kyOf_wf (by omega) (stA_wf (by omega)), kyOf_wf (by omega) (stA_wf (by omega))⟩
      go_wp2_with fail
      refine (station_any 1 _ (by omega)).mono ?_
      rintro _ U ⟨rfl, bU⟩
      have GU : Hid (Db U p b cX [eX 2, eX 3] ∧ Below w.heap.size w U) := ⟨GR.out.1.below bU, below_over GR.out.2 bU⟩
      clear bU GR
      go_wp2_with fail
      refine (find_any p b cX [eX 2, eX 3] (kyOf 5 (stA 1)) _ GU.out.1 M.out.1).mono ?_
      rintro _ V5 ⟨rfl, g⟩
      rw [x8]
      obtain ⟨V6, s6, r6, b6, z6⟩ := row_new rtM V5 #[.int .u8 0, .int .u8 0, .int .u8 0, .int .u8 0, .int .u8 0, .int .u8 0] (plA [eX 2, eX 3] (kyOf 5 (stA 1)).rk).cs rfl rfl (Ad.one _)
      have G6 : Hid (Db V6 p b cX [eX 2, eX 3] ∧ Below w.heap.size w V6) := ⟨(GU.out.1.below g).below b6, below_over (below_over GU.out.2 g) b6⟩
      clear g GU r6 b6 z6
      go_wp2_with fail
      refine (station_any 3 _ (by omega)).mono ?_
      rintro _ U ⟨rfl, bU⟩
      have GU : Hid (Db U p b cX [eX 2, eX 3] ∧ Below w.heap.size w U) := ⟨G6.out.1.below bU, below_over G6.out.2 bU⟩
      clear bU G6 s6
      go_wp2_with fail
      refine (find_any p b cX [eX 2, eX 3] (kyOf 5 (stA 3)) _ GU.out.1 M.out.2).mono ?_
      rintro _ V7 ⟨rfl, g⟩
      rw [x9.1, x9.2]
      obtain ⟨V8, s8, r8, b8, z8⟩ := row_new rtM V7 #[.int .u8 0, .int .u8 0, .int .u8 0, .int .u8 0, .int .u8 0, .int .u8 0] (stA 9).cs rfl rfl (Ad.one _)
      have G8 : Hid (Db V8 p b cX [eX 2, eX 3] ∧ Below w.heap.size w V8) := ⟨(GU.out.1.below g).below b8, below_over (below_over GU.out.2 g) b8⟩
      have lm := fun z : Later V8 => (r8.below z.below).ld rtM (Ad.size _)
      have CS : Hid (∀ z : Later V8, Calls Try.prog 14 #[.int .i64 9] z.val fun r w' => r = .returned (.agg (stA 9).cs) ∧ Below z.val.heap.size z.val w') := fun z => station_any 9 _ (by omega)
      have CL : Hid (∀ z : Later V8, Calls Try.prog 15 #[.pointer (some ⟨p, 0, none⟩)] z.val fun r w' => r = .returned (.int .i64 2) ∧ Below z.val.heap.size z.val w') := fun z =>
        (len_any p b cX [eX 2, eX 3] _ (G8.out.1.below z.below)).mono fun r w' h => ⟨h.1, by rw [h.2]; exact Below.refl _ _⟩
      have ee := eqA (stA 9) (stA 9)
      simp only [decide_true] at ee
      clear g GU r8 b8 z8
      go_wp2_with fail
      refine wp_region_later (by kernel_rfl) (by kernel_rfl) ?_
      repeat (go_big_quiet_step (first | exact rfl | (go_at_call 14; with_reducible exact Calls.later_of (CS.out _)) | (go_at_call 15; with_reducible exact Calls.later_of (CL.out _))))
      refine wpQuiet_nil ?_
      intro _ hw'
      obtain ⟨z, rfl⟩ := hw'
      clear lm ee s8
      go_wp2
      go_ret
      exact ⟨rfl, below_over G8.out.2 z.below⟩
end Go.Proofs.Ytoelpbajaadfeaa
