/-
  MacBack: for every address, text and number, what package mac prints is parsed again, what it parses prints as it was, numbers and groups lead back. No condition.
-/
import Derived.Test.YticbihnnemojbaaOpen
import Derived.Test.YticbihnnemojbaaAwake
import Derived.Test.YticbihnnemojbaaBack
namespace Go.Proofs.Yticbihnnemojbaa
open Go.ChangeShapes Go.WideShapes Go.ChangeAt Go.RowKit
open Go.ChangeMaps (open_string shut_string)
set_option linter.unusedVariables false

theorem ext_le (s : ByteArray) : (s.extract 0 100).size ≤ maxLen := by
  rw [ByteArray.size_extract]; unfold maxLen; omega

set_option maxHeartbeats 1000000 in
theorem MacBack_walk (x00 x01 x02 x03 x04 x05 : Int) (s : ByteArray) (x2 : Int) (w : World) (b00 : 0 ≤ x00 ∧ x00 ≤ 255) (b01 : 0 ≤ x01 ∧ x01 ≤ 255) (b02 : 0 ≤ x02 ∧ x02 ≤ 255) (b03 : 0 ≤ x03 ∧ x03 ≤ 255) (b04 : 0 ≤ x04 ∧ x04 ≤ 255) (b05 : 0 ≤ x05 ∧ x05 ≤ 255) (hs : s.size ≤ maxLen) (w2 : (Lit.int .i64 x2).wf = true) :
    Calls Try.prog 7 #[.agg #[.int .u8 x00, .int .u8 x01, .int .u8 x02, .int .u8 x03, .int .u8 x04, .int .u8 x05], .string s, .int .i64 x2] w fun r w' => r = .returned (.bool true) ∧ Below w.heap.size w w' := by
  have hs' := hs
  unfold maxLen at hs'
  have hx := @Later.cell
  have hq := eq6_self
  go_enter Try.func7, Try.ntmps7
  go_wp2_with fail
  all_goals
    refine Calls.on_later (text_any _ _ _ _ _ _ _ b00 b01 b02 b03 b04 b05) ?_
    intro y1
    go_wp2_with fail
    refine Calls.on_later2 (parse_text _ _ _ _ _ _ _ b00 b01 b02 b03 b04 b05) ?_
    intro y2
    have hz := y2.below.size
    simp only [World.size_alloc] at hz
    have z1 := Nat.lt_of_succ_le hz
    have z1' := Nat.lt_succ_of_lt z1
    clear hz
    go_wp2
    refine wp_region_later (by kernel_rfl) (by kernel_rfl) ?_
    repeat (go_big_quiet_step (first
      | exact rfl
      | (go_at_call 21; exact Calls.later_of (number_any _ _ _ _ _ _ _ b00 b01 b02 b03 b04 b05))
      | (go_at_call 23; exact Calls.later_of (from_num _ _ _ _ _ _ _ b00 b01 b02 b03 b04 b05))))
    refine wpQuiet_nil ?_
    intro _ hw'
    obtain ⟨y3, rfl⟩ := hw'
    go_wp2_with fail
  · by_cases ho : okT (s.extract 0 100) = true
    · refine Calls.on_later2 (parse_yes _ _ (ext_le s) ho) ?_
      intro y4
      have hz := y4.below.size
      simp only [World.size_alloc] at hz
      have z2 := Nat.lt_of_succ_le hz
      have z2' := Nat.lt_succ_of_lt z2
      clear hz
      go_wp2_with fail
      refine Calls.on_later (text_back _ _ ho) ?_
      intro y5
      go_wp2_with fail
      by_cases hi : 1 ≤ x2 ∧ x2 ≤ 16777215
      · refine Calls.on_later2 (group_yes _ _ hi) ?_
        intro y6
        go_wp2_with fail
        refine Calls.on_later (isid_group _ _ hi) ?_
        intro y7
        go_wp2_with fail
        refine Calls.on_later2 (awake_any _) ?_
        intro y8
        go_wp2
        go_ret
        refine ⟨rfl, ?_⟩
        have c1 := below_later (w := w) (by go_grown) y2
        have c2 := below_over c1 (below_later ((Below.refl _ _).alloc (Nat.le_refl _) _) y4)
        have c3 := below_over c2 (below_later ((Below.refl _ _).alloc (Nat.le_refl _) _) y6)
        exact below_over c3 (below_later ((Below.refl _ _).alloc (Nat.le_refl _) _) y8)
      · have hi' : x2 < 1 ∨ 16777215 < x2 := by omega
        clear hi
        refine Calls.on_later2 (group_no _ _ hi') ?_
        intro y6
        go_wp2_with fail
        refine Calls.on_later (awake_any _) ?_
        intro y8
        go_wp2
        go_ret
        refine ⟨rfl, ?_⟩
        have c1 := below_later (w := w) (by go_grown) y2
        have c2 := below_over c1 (below_later ((Below.refl _ _).alloc (Nat.le_refl _) _) y4)
        have c3 := below_over c2 (below_later ((Below.refl _ _).alloc (Nat.le_refl _) _) y6)
        exact below_over c3 (below_later ((Below.refl _ _).alloc (Nat.le_refl _) _) y8)
    · have ho' : okT (s.extract 0 100) = false := by simpa using ho
      clear ho
      refine Calls.on_later2 (parse_bad _ _ (ext_le s) ho') ?_
      intro y4
      have hz := y4.below.size
      simp only [World.size_alloc] at hz
      have z2 := Nat.lt_of_succ_le hz
      have z2' := Nat.lt_succ_of_lt z2
      clear hz
      go_wp2_with fail
      by_cases hi : 1 ≤ x2 ∧ x2 ≤ 16777215
      · refine Calls.on_later (group_yes _ _ hi) ?_
        intro y6
        go_wp2_with fail
        refine Calls.on_later (isid_group _ _ hi) ?_
        intro y7
        go_wp2_with fail
        refine Calls.on_later2 (awake_any _) ?_
        intro y8
        go_wp2
        go_ret
        refine ⟨rfl, ?_⟩
        have c1 := below_later (w := w) (by go_grown) y2
        have c2 := below_over c1 (below_later ((Below.refl _ _).alloc (Nat.le_refl _) _) y4)
        have c3 := below_over c2 (below_later ((Below.refl _ _).alloc (Nat.le_refl _) _) y6)
        exact below_over c3 (below_later ((Below.refl _ _).alloc (Nat.le_refl _) _) y8)
      · have hi' : x2 < 1 ∨ 16777215 < x2 := by omega
        clear hi
        refine Calls.on_later (group_no _ _ hi') ?_
        intro y6
        go_wp2_with fail
        refine Calls.on_later (awake_any _) ?_
        intro y8
        go_wp2
        go_ret
        refine ⟨rfl, ?_⟩
        have c1 := below_later (w := w) (by go_grown) y2
        have c2 := below_over c1 (below_later ((Below.refl _ _).alloc (Nat.le_refl _) _) y4)
        have c3 := below_over c2 (below_later ((Below.refl _ _).alloc (Nat.le_refl _) _) y6)
        exact below_over c3 (below_later ((Below.refl _ _).alloc (Nat.le_refl _) _) y8)
  · by_cases ho : okT s = true
    · refine Calls.on_later2 (parse_yes _ _ hs ho) ?_
      intro y4
      have hz := y4.below.size
      simp only [World.size_alloc] at hz
      have z2 := Nat.lt_of_succ_le hz
      have z2' := Nat.lt_succ_of_lt z2
      clear hz
      go_wp2_with fail
      refine Calls.on_later (text_back _ _ ho) ?_
      intro y5
      go_wp2_with fail
      by_cases hi : 1 ≤ x2 ∧ x2 ≤ 16777215
      · refine Calls.on_later2 (group_yes _ _ hi) ?_
        intro y6
        go_wp2_with fail
        refine Calls.on_later (isid_group _ _ hi) ?_
        intro y7
        go_wp2_with fail
        refine Calls.on_later2 (awake_any _) ?_
        intro y8
        go_wp2
        go_ret
        refine ⟨rfl, ?_⟩
        have c1 := below_later (w := w) (by go_grown) y2
        have c2 := below_over c1 (below_later ((Below.refl _ _).alloc (Nat.le_refl _) _) y4)
        have c3 := below_over c2 (below_later ((Below.refl _ _).alloc (Nat.le_refl _) _) y6)
        exact below_over c3 (below_later ((Below.refl _ _).alloc (Nat.le_refl _) _) y8)
      · have hi' : x2 < 1 ∨ 16777215 < x2 := by omega
        clear hi
        refine Calls.on_later2 (group_no _ _ hi') ?_
        intro y6
        go_wp2_with fail
        refine Calls.on_later (awake_any _) ?_
        intro y8
        go_wp2
        go_ret
        refine ⟨rfl, ?_⟩
        have c1 := below_later (w := w) (by go_grown) y2
        have c2 := below_over c1 (below_later ((Below.refl _ _).alloc (Nat.le_refl _) _) y4)
        have c3 := below_over c2 (below_later ((Below.refl _ _).alloc (Nat.le_refl _) _) y6)
        exact below_over c3 (below_later ((Below.refl _ _).alloc (Nat.le_refl _) _) y8)
    · have ho' : okT s = false := by simpa using ho
      clear ho
      refine Calls.on_later2 (parse_bad _ _ hs ho') ?_
      intro y4
      have hz := y4.below.size
      simp only [World.size_alloc] at hz
      have z2 := Nat.lt_of_succ_le hz
      have z2' := Nat.lt_succ_of_lt z2
      clear hz
      go_wp2_with fail
      by_cases hi : 1 ≤ x2 ∧ x2 ≤ 16777215
      · refine Calls.on_later (group_yes _ _ hi) ?_
        intro y6
        go_wp2_with fail
        refine Calls.on_later (isid_group _ _ hi) ?_
        intro y7
        go_wp2_with fail
        refine Calls.on_later2 (awake_any _) ?_
        intro y8
        go_wp2
        go_ret
        refine ⟨rfl, ?_⟩
        have c1 := below_later (w := w) (by go_grown) y2
        have c2 := below_over c1 (below_later ((Below.refl _ _).alloc (Nat.le_refl _) _) y4)
        have c3 := below_over c2 (below_later ((Below.refl _ _).alloc (Nat.le_refl _) _) y6)
        exact below_over c3 (below_later ((Below.refl _ _).alloc (Nat.le_refl _) _) y8)
      · have hi' : x2 < 1 ∨ 16777215 < x2 := by omega
        clear hi
        refine Calls.on_later (group_no _ _ hi') ?_
        intro y6
        go_wp2_with fail
        refine Calls.on_later (awake_any _) ?_
        intro y8
        go_wp2
        go_ret
        refine ⟨rfl, ?_⟩
        have c1 := below_later (w := w) (by go_grown) y2
        have c2 := below_over c1 (below_later ((Below.refl _ _).alloc (Nat.le_refl _) _) y4)
        have c3 := below_over c2 (below_later ((Below.refl _ _).alloc (Nat.le_refl _) _) y6)
        exact below_over c3 (below_later ((Below.refl _ _).alloc (Nat.le_refl _) _) y8)

set_option maxRecDepth 100000 in
theorem MacBack_lifted (os : Os) (started : os.Started) (H : Type) (enc : TypeId × Value → H) :
    ReturnsInHanded {} Try.checked os 7 .any (Rows.macBackSpec.pre6 enc Try.prog Try.f7 Rows.macBackRow.domain false) (Rows.macBackSpec.post enc Try.prog Try.f7 false true false false) := by
  refine returnsInHanded_of_change (C := Try.checked) own started (by kernel_rfl) Try.func7
    (ChangeSpec.witness6 (enc := enc) (C := Try.checked) false ⟨#[], #[.agg #[.int .u8 0, .int .u8 0, .int .u8 0, .int .u8 0, .int .u8 0, .int .u8 0], .string .empty, .int .i64 0], []⟩ 8 (by kernel_rfl) (by kernel_rfl) (by kernel_rfl) (by kernel_rfl)) ?_
  intro W base args ds gs before hval0 hW hcnd _
  have hval : ∀ (j : Nat) t v, Try.f7.params[j]? = some t → args[j]? = some v → Value.okWide Try.prog W .any base t v := hval0
  have hW' := hW
  obtain ⟨p, q, hA0, hV, rfl, hfz, hnd⟩ := hW
  have hA : DataW.TrodAll enc Try.prog W 0 (fun _ => true) true Try.f7.params.toList args.toList ds p := hA0
  rw [Try.params7] at hA hval
  obtain ⟨v0, vs0, d0, ds0, p0, q0, hargs, rfl, rfl, h0, r0⟩ := trodAll_cons hA
  obtain ⟨v1, vs1, d1, ds1, p1, q1, rfl, rfl, rfl, h1, r1⟩ := trodAll_cons r0
  obtain ⟨v2, vs2, d2, ds2, p2, q2, rfl, rfl, rfl, h2, r2⟩ := trodAll_cons r1
  obtain ⟨rfl, rfl, rfl⟩ := trodAll_nil r2
  obtain rfl : args = #[v0, v1, v2] := by cases args; simp_all
  obtain ⟨rfl, rfl⟩ := trodVars_none hV
  have k0 := h0
  have lt0 : ∀ x ∈ p0, x.block < W.heap.size := by obtain ⟨m, hm⟩ := k0; exact DataW.trod_lt m _ _ _ hm
  obtain ⟨x00, x01, x02, x03, x04, x05, rfl, b00, b01, b02, b03, b04, b05⟩ := open_mac (hval 0 23 v0 rfl rfl) h0
  have k1 := h1
  have lt1 : ∀ x ∈ p1, x.block < W.heap.size := by obtain ⟨m, hm⟩ := k1; exact DataW.trod_lt m _ _ _ hm
  obtain ⟨x1, rfl, rfl, rfl, w1⟩ := open_string Try.underlying9 (hval 1 9 v1 rfl rfl) h1
  have k2 := h2
  have lt2 : ∀ x ∈ p2, x.block < W.heap.size := by obtain ⟨m, hm⟩ := k2; exact DataW.trod_lt m _ _ _ hm
  obtain ⟨x2, rfl, rfl, rfl, w2⟩ := open_int Try.underlying3 (hval 2 3 v2 rfl rfl) h2
  clear hA0 hval0
  refine (MacBack_walk x00 x01 x02 x03 x04 x05 x1 x2 W b00 b01 b02 b03 b04 b05 w1 w2).mono fun e W' ⟨he, bel⟩ => ?_
  subst he
  exact ⟨_, rfl, _, _, _, [], _, [], hW', trodAll_mk1 (shut_bool Try.underlying4 _), (trodAll_cons_mk (Below.trod laidOut (by kernel_rfl) (of_decide_eq_true (by kernel_rfl)) k0 bel lt0) (trodAll_cons_mk (Below.trod laidOut (by kernel_rfl) (of_decide_eq_true (by kernel_rfl)) k1 bel lt1) (trodAll_cons_mk (Below.trod laidOut (by kernel_rfl) (of_decide_eq_true (by kernel_rfl)) k2 bel lt2) trodAll_mk0))), rfl, bel.frame _, fun h => by cases h⟩

theorem MacBack_holds : Rows.MacBackSaid :=
  OpenClaim.holds_of_wide 7 Try.f7 rfl rfl rfl rfl rfl rfl rfl ⟨rfl, rfl, rfl, rfl, rfl⟩ rfl rfl rfl rfl rfl (by kernel_rfl) Try.func7 (by kernel_rfl)
    (of_decide_eq_true (by kernel_rfl)) (by unfold Func.isWrapper; first | (rw [if_pos (by decide +kernel)]; kernel_rfl) | (rw [if_neg (by decide +kernel)]; exact ⟨rfl, rfl⟩))
    (fun os started H enc _ => MacBack_lifted os started H enc)

#print axioms MacBack_holds

end Go.Proofs.Yticbihnnemojbaa
