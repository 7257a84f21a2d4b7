/-
  The page's example: its walk.
-/
import Derived.Test.YtpbpofmlpbobmaaFork
namespace Go.Proofs.Ytpbpofmlpbobmaa
set_option linter.unusedVariables false
set_option maxRecDepth 4000
set_option linter.unusedSimpArgs false
open Go.RowKit

attribute [local go_sem ↓] ldK stK ldM stM ldP stP ldE stE
/-- The example's stations, in VLAN 1. -/
def kN (n : Int) : Ky := ⟨1, 2, 0, 0, 0, 0, n⟩
theorem kN_wf {n : Int} (h : 0 ≤ n ∧ n ≤ 255) : (kN n).wf := ⟨by simp [kN], by simp [kN], by simp [kN], by simp [kN], by simp [kN], by simp [kN], h⟩
set_option maxHeartbeats 800000 in
theorem mac_any (n : Int) (w : World) (h : 0 ≤ n ∧ n ≤ 255) : Calls Try.prog 31 #[.int .i64 n] w fun r w' => r = .returned (.agg (kN n).mc) ∧ Below w.heap.size w w' := by
  obtain ⟨W', st, rv, bb, _⟩ := row_new rtM w #[.int .u8 0, .int .u8 0, .int .u8 0, .int .u8 0, .int .u8 0, .int .u8 0] (kN n).mc rfl rfl (Ky.mone _)
  change (stS 34 (.pointer (some ⟨w.heap.size, 0, none⟩)) (.agg #[.int .u8 2, .int .u8 0, .int .u8 0, .int .u8 0, .int .u8 0, .int .u8 n])).run Try.prog _ = _ at st
  have hn : IntKind.u8.wrap n = n := IntWalk.u8_in _ h
  have H : Hid (RvAt W' w.heap.size 34 (kN n).mc ∧ Below w.heap.size w W') := ⟨rv, bb⟩
  clear rv bb
  go_enter Try.func31, Try.ntmps31
  go_wp2
  refine bodyPost_ret (results_row rtM Try.results31 _ _ _ _ rfl H.out.1 rfl) rfl ?_
  exact ⟨rfl, H.out.2⟩
def cX : Cf := ⟨2, 2, 10⟩
def e1 : En := ⟨kN 1, 0, false, 5⟩
def e2 : En := ⟨kN 2, 1, false, 6⟩
def e3 : En := ⟨kN 3, 0, false, 7⟩
def s2 : En := ⟨kN 2, 0, true, 0⟩
theorem x0 : okC cX = true := by decide
theorem x1 : learnS cX [] (kN 1) 0 5 = ([e1], 0) := by
  unfold learnS putS
  rw [if_neg (by decide), if_neg (by decide), if_pos (.inr (by decide))]
  rfl
theorem x2 : learnS cX [e1] (kN 2) 1 6 = ([e1, e2], 0) := by
  unfold learnS putS
  rw [if_neg (by decide), if_neg (by decide), if_pos (.inr (by decide))]
  rfl
theorem eldX : eld [e1, e2] = some e1 := by
  refine eld_some (by refine List.pairwise_cons.2 ⟨fun y hy => ?_, List.pairwise_singleton _ _⟩; rw [List.mem_singleton] at hy; subst hy; decide) ⟨by simp, rfl, fun y hy _ => ?_⟩
  simp only [List.mem_cons, List.not_mem_nil, or_false] at hy
  rcases hy with rfl | rfl
  · right; exact ⟨rfl, Int.le_refl _⟩
  · left; decide
theorem x3 : learnS cX [e1, e2] (kN 3) 0 7 = ([e2, e3], 0) := by
  unfold learnS putS
  rw [if_neg (by decide), if_neg (by decide), if_neg (by decide), eldX]
  rfl
theorem x4 : remS [e2, e3] (ageSh cX.age 16) = ([e3], 1) := rfl
theorem x5 : staticS cX [e3] (kN 2) 0 = ([s2, e3], 0) := by
  unfold staticS putS
  rw [if_pos (by decide), if_pos (.inr (by decide))]
  rfl
theorem x6 : remS [s2, e3] (flushSh 0) = ([s2], 1) := rfl
theorem x7 : unstaticS [s2] (kN 3) = ([s2], 72) := rfl
theorem x8 : plP [e2, e3] (kN 1).rk = 0 ∧ (look [e2, e3] (kN 1).rk).isSome = false := ⟨rfl, rfl⟩
theorem x9 : plP [e2, e3] (kN 2).rk = 1 ∧ (look [e2, e3] (kN 2).rk).isSome = true := ⟨rfl, rfl⟩
set_option maxHeartbeats 4000000 in
theorem awake_any (w : World) : Calls Try.prog 10 #[] w fun r w' => r = .returned (.bool true) ∧ Below w.heap.size w w' := by
  have m1 := kN_wf (n := 1) (by omega)
  have m2 := kN_wf (n := 2) (by omega)
  have m3 := kN_wf (n := 3) (by omega)
  have M : Hid ((kN 1).wf ∧ (kN 2).wf ∧ (kN 3).wf) := ⟨m1, m2, m3⟩
  clear m1 m2 m3
  go_enter Try.func10, Try.ntmps10
  go_wp2_with fail
  refine (new_yes cX _ x0).mono ?_
  rintro _ W1 ⟨p, b, rfl, d1, hp, hb, b1⟩
  have G1 : Hid (Db W1 p b cX [] ∧ Below w.heap.size w W1 ∧ w.heap.size ≤ p ∧ w.heap.size ≤ b) := ⟨d1, b1, hp, hb⟩
  clear d1 hp hb b1
  go_wp2_with fail
  refine (mac_any 1 _ (by omega)).mono ?_
  rintro _ U ⟨rfl, bU⟩
  have GU : Hid (Db U p b cX [] ∧ Below w.heap.size w U ∧ w.heap.size ≤ p ∧ w.heap.size ≤ b) := ⟨G1.out.1.below bU, below_over G1.out.2.1 bU, G1.out.2.2⟩
  clear bU G1
  go_wp2_with fail
  refine (learn_any p b cX [] (kN 1) 0 5 _ GU.out.1 M.out.1).mono ?_
  rintro _ V2 ⟨rfl, d, g⟩
  rw [x1] at d ⊢
  have G2 : Hid (Db V2 p b cX [e1] ∧ Below w.heap.size w V2 ∧ w.heap.size ≤ p ∧ w.heap.size ≤ b) := ⟨d, GU.out.2.1.trans (below_of_grown g GU.out.2.1.size (fun j e => by cases e; exact GU.out.2.2.2)), GU.out.2.2⟩
  clear d g GU
  go_wp2_with fail
  refine (mac_any 2 _ (by omega)).mono ?_
  rintro _ U ⟨rfl, bU⟩
  have GU : Hid (Db U p b cX [e1] ∧ Below w.heap.size w U ∧ w.heap.size ≤ p ∧ w.heap.size ≤ b) := ⟨G2.out.1.below bU, below_over G2.out.2.1 bU, G2.out.2.2⟩
  clear bU G2
  go_wp2_with fail
  refine (learn_any p b cX [e1] (kN 2) 1 6 _ GU.out.1 M.out.2.1).mono ?_
  rintro _ V3 ⟨rfl, d, g⟩
  rw [x2] at d ⊢
  have G3 : Hid (Db V3 p b cX [e1,e2] ∧ Below w.heap.size w V3 ∧ w.heap.size ≤ p ∧ w.heap.size ≤ b) := ⟨d, GU.out.2.1.trans (below_of_grown g GU.out.2.1.size (fun j e => by cases e; exact GU.out.2.2.2)), GU.out.2.2⟩
  clear d g GU
  go_wp2_with fail
  refine (mac_any 3 _ (by omega)).mono ?_
  rintro _ U ⟨rfl, bU⟩
  have GU : Hid (Db U p b cX [e1,e2] ∧ Below w.heap.size w U ∧ w.heap.size ≤ p ∧ w.heap.size ≤ b) := ⟨G3.out.1.below bU, below_over G3.out.2.1 bU, G3.out.2.2⟩
  clear bU G3
  go_wp2_with fail
  refine (learn_any p b cX [e1,e2] (kN 3) 0 7 _ GU.out.1 M.out.2.2).mono ?_
  rintro _ V4 ⟨rfl, d, g⟩
  rw [x3] at d ⊢
  have G4 : Hid (Db V4 p b cX [e2,e3] ∧ Below w.heap.size w V4 ∧ w.heap.size ≤ p ∧ w.heap.size ≤ b) := ⟨d, GU.out.2.1.trans (below_of_grown g GU.out.2.1.size (fun j e => by cases e; exact GU.out.2.2.2)), GU.out.2.2⟩
  clear d g GU
  go_wp2_with fail
  refine (mac_any 1 _ (by omega)).mono ?_
  rintro _ U ⟨rfl, bU⟩
  have GU : Hid (Db U p b cX [e2,e3] ∧ Below w.heap.size w U ∧ w.heap.size ≤ p ∧ w.heap.size ≤ b) := ⟨G4.out.1.below bU, below_over G4.out.2.1 bU, G4.out.2.2⟩
  clear bU G4
  go_wp2_with fail
  refine (find_any p b cX [e2,e3] (kN 1) _ GU.out.1 M.out.1).mono ?_
  rintro _ V5 ⟨rfl, g⟩
  rw [x8.1, x8.2]
  have G5 : Hid (Db V5 p b cX [e2,e3] ∧ Below w.heap.size w V5 ∧ w.heap.size ≤ p ∧ w.heap.size ≤ b) := ⟨GU.out.1.below g, below_over GU.out.2.1 g, GU.out.2.2⟩
  clear g GU
  go_wp2_with fail
  refine (mac_any 2 _ (by omega)).mono ?_
  rintro _ U ⟨rfl, bU⟩
  have GU : Hid (Db U p b cX [e2,e3] ∧ Below w.heap.size w U ∧ w.heap.size ≤ p ∧ w.heap.size ≤ b) := ⟨G5.out.1.below bU, below_over G5.out.2.1 bU, G5.out.2.2⟩
  clear bU G5
  go_wp2_with fail
  refine (find_any p b cX [e2,e3] (kN 2) _ GU.out.1 M.out.2.1).mono ?_
  rintro _ V6 ⟨rfl, g⟩
  rw [x9.1, x9.2]
  have G6 : Hid (Db V6 p b cX [e2,e3] ∧ Below w.heap.size w V6 ∧ w.heap.size ≤ p ∧ w.heap.size ≤ b) := ⟨GU.out.1.below g, below_over GU.out.2.1 g, GU.out.2.2⟩
  clear g GU
  go_wp2_with fail
  refine (len_any p b cX [e2, e3] _ G6.out.1).mono ?_
  rintro _ Y ⟨rfl, hY⟩
  rw [hY]
  clear hY Y
  have hL : (([e2, e3] : List En).length : Int) = 2 := rfl
  rw [hL]
  go_wp2_with fail
  refine (age_any p b cX [e2, e3] 16 _ G6.out.1).mono ?_
  rintro _ V ⟨rfl, d, g⟩
  rw [x4] at d ⊢
  have G7 : Hid (Db V p b cX [e3] ∧ Below w.heap.size w V ∧ w.heap.size ≤ p ∧ w.heap.size ≤ b) := ⟨d, G6.out.2.1.trans (below_of_grown g G6.out.2.1.size (fun j e => by cases e; exact G6.out.2.2.2)), G6.out.2.2⟩
  clear d g G6
  go_wp2_with fail
  refine (mac_any 2 _ (by omega)).mono ?_
  rintro _ U ⟨rfl, bU⟩
  have GU : Hid (Db U p b cX [e3] ∧ Below w.heap.size w U ∧ w.heap.size ≤ p ∧ w.heap.size ≤ b) := ⟨G7.out.1.below bU, below_over G7.out.2.1 bU, G7.out.2.2⟩
  clear bU G7
  go_wp2_with fail
  refine (static_any p b cX [e3] (kN 2) 0 _ GU.out.1 M.out.2.1).mono ?_
  rintro _ V ⟨rfl, d, g⟩
  rw [x5] at d ⊢
  have G8 : Hid (Db V p b cX [s2, e3] ∧ Below w.heap.size w V ∧ w.heap.size ≤ p ∧ w.heap.size ≤ b) := ⟨d, GU.out.2.1.trans (below_of_grown g GU.out.2.1.size (fun j e => by cases e; exact GU.out.2.2.2)), GU.out.2.2⟩
  clear d g GU
  go_wp2_with fail
  refine (flush_any p b cX [s2, e3] 0 _ G8.out.1).mono ?_
  rintro _ V ⟨rfl, d, g⟩
  rw [x6] at d ⊢
  have G9 : Hid (Db V p b cX [s2] ∧ Below w.heap.size w V ∧ w.heap.size ≤ p ∧ w.heap.size ≤ b) := ⟨d, G8.out.2.1.trans (below_of_grown g G8.out.2.1.size (fun j e => by cases e; exact G8.out.2.2.2)), G8.out.2.2⟩
  clear d g G8
  go_wp2_with fail
  refine (mac_any 3 _ (by omega)).mono ?_
  rintro _ U ⟨rfl, bU⟩
  have GU : Hid (Db U p b cX [s2] ∧ Below w.heap.size w U ∧ w.heap.size ≤ p ∧ w.heap.size ≤ b) := ⟨G9.out.1.below bU, below_over G9.out.2.1 bU, G9.out.2.2⟩
  clear bU G9
  go_wp2_with fail
  refine (unstatic_any p b cX [s2] (kN 3) _ GU.out.1 M.out.2.2).mono ?_
  rintro _ V ⟨rfl, d, g⟩
  rw [x7]
  have GE : Hid (Below w.heap.size w V) := GU.out.2.1.trans (below_of_grown g GU.out.2.1.size (fun j e => by cases e; exact GU.out.2.2.2))
  clear d g GU
  go_wp2
  go_ret
  exact ⟨rfl, GE.out⟩
end Go.Proofs.Ytpbpofmlpbobmaa
