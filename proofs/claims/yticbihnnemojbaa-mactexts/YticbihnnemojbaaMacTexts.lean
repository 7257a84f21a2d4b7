/-
  MacTexts: for every address and every text, what package mac prints and parses is the document's. No condition.
-/
import Derived.Test.YticbihnnemojbaaOpen
import Derived.Test.YticbihnnemojbaaAwake
import Derived.Test.YticbihnnemojbaaParseAll
namespace Go.Proofs.Yticbihnnemojbaa
open Go.ChangeShapes Go.WideShapes Go.ChangeAt Go.RowKit
open Go.ChangeMaps (open_string shut_string)
set_option linter.unusedVariables false

theorem ext_le (s : ByteArray) : (s.extract 0 100).size ≤ maxLen := by
  rw [ByteArray.size_extract]; unfold maxLen; omega

set_option maxHeartbeats 1000000 in
theorem MacTexts_walk (x00 x01 x02 x03 x04 x05 : Int) (s : ByteArray) (w : World) (b00 : 0 ≤ x00 ∧ x00 ≤ 255) (b01 : 0 ≤ x01 ∧ x01 ≤ 255) (b02 : 0 ≤ x02 ∧ x02 ≤ 255) (b03 : 0 ≤ x03 ∧ x03 ≤ 255) (b04 : 0 ≤ x04 ∧ x04 ≤ 255) (b05 : 0 ≤ x05 ∧ x05 ≤ 255) (hs : s.size ≤ maxLen) :
    Calls Try.prog 4 #[.agg #[.int .u8 x00, .int .u8 x01, .int .u8 x02, .int .u8 x03, .int .u8 x04, .int .u8 x05], .string s] w fun r w' => r = .returned (.bool true) ∧ Below w.heap.size w w' := by
  have hs' := hs
  unfold maxLen at hs'
  have hx := @Later.cell
  have hq := eq6_self
  go_enter Try.func4, Try.ntmps4
  go_wp2_with fail
  all_goals
    refine Calls.on_later (parse_all _ _ (by first | exact hs | exact ext_le s)) ?_
    intro x1
    have hz := x1.below.size
    simp only [World.size_alloc] at hz
    have z1 := Nat.lt_of_succ_le hz
    have z1' := Nat.lt_succ_of_lt z1
    clear hz
    go_wp2_with fail
    refine Calls.on_later (parse_ref_all _ _ (by first | exact hs | exact ext_le s)) ?_
    intro x2
    have hz := x2.below.size
    simp only [World.size_alloc] at hz
    have z2 := Nat.lt_of_succ_le hz
    have z2' := Nat.lt_succ_of_lt z2
    have z3 := Nat.lt_trans z1 z2
    have z3' := Nat.lt_succ_of_lt z3
    clear hz
    go_wp2
    refine wp_region_later (by kernel_rfl) (by kernel_rfl) ?_
    repeat (go_big_quiet_step (first
      | exact rfl
      | (go_at_call 15; exact Calls.later_of (text_any _ _ _ _ _ _ _ b00 b01 b02 b03 b04 b05))
      | (go_at_call 16; exact Calls.later_of (text_ref _ _ _ _ _ _ _ b00 b01 b02 b03 b04 b05))
      | (go_at_call 12; exact Calls.later_of (awake_any _))))
    refine wpQuiet_nil ?_
    intro _ hw'
    obtain ⟨x, rfl⟩ := hw'
    go_wp2
    go_ret
    refine ⟨rfl, ?_⟩
    have c1 := below_later (w := w) (by go_grown) x1
    have c2 := below_over c1 (below_later ((Below.refl _ _).alloc (Nat.le_refl _) _) x2)
    exact below_over c2 (below_later ((Below.refl _ _).alloc (Nat.le_refl _) _) x)

set_option maxRecDepth 100000 in
theorem MacTexts_lifted (os : Os) (started : os.Started) (H : Type) (enc : TypeId × Value → H) :
    ReturnsInHanded {} Try.checked os 4 .any (Rows.macTextsSpec.pre6 enc Try.prog Try.f4 Rows.macTextsRow.domain false) (Rows.macTextsSpec.post enc Try.prog Try.f4 false true false false) := by
  refine returnsInHanded_of_change (C := Try.checked) own started (by kernel_rfl) Try.func4
    (ChangeSpec.witness6 (enc := enc) (C := Try.checked) false ⟨#[], #[.agg #[.int .u8 0, .int .u8 0, .int .u8 0, .int .u8 0, .int .u8 0, .int .u8 0], .string .empty], []⟩ 8 (by kernel_rfl) (by kernel_rfl) (by kernel_rfl) (by kernel_rfl)) ?_
  intro W base args ds gs before hval0 hW hcnd _
  have hval : ∀ (j : Nat) t v, Try.f4.params[j]? = some t → args[j]? = some v → Value.okWide Try.prog W .any base t v := hval0
  have hW' := hW
  obtain ⟨p, q, hA0, hV, rfl, hfz, hnd⟩ := hW
  have hA : DataW.TrodAll enc Try.prog W 0 (fun _ => true) true Try.f4.params.toList args.toList ds p := hA0
  rw [Try.params4] at hA hval
  obtain ⟨v0, vs0, d0, ds0, p0, q0, hargs, rfl, rfl, h0, r0⟩ := trodAll_cons hA
  obtain ⟨v1, vs1, d1, ds1, p1, q1, rfl, rfl, rfl, h1, r1⟩ := trodAll_cons r0
  obtain ⟨rfl, rfl, rfl⟩ := trodAll_nil r1
  obtain rfl : args = #[v0, v1] := by cases args; simp_all
  obtain ⟨rfl, rfl⟩ := trodVars_none hV
  have k0 := h0
  have lt0 : ∀ x ∈ p0, x.block < W.heap.size := by obtain ⟨m, hm⟩ := k0; exact DataW.trod_lt m _ _ _ hm
  obtain ⟨x00, x01, x02, x03, x04, x05, rfl, b00, b01, b02, b03, b04, b05⟩ := open_mac (hval 0 23 v0 rfl rfl) h0
  have k1 := h1
  have lt1 : ∀ x ∈ p1, x.block < W.heap.size := by obtain ⟨m, hm⟩ := k1; exact DataW.trod_lt m _ _ _ hm
  obtain ⟨x1, rfl, rfl, rfl, w1⟩ := open_string Try.underlying9 (hval 1 9 v1 rfl rfl) h1
  clear hA0 hval0
  refine (MacTexts_walk x00 x01 x02 x03 x04 x05 x1 W b00 b01 b02 b03 b04 b05 w1).mono fun e W' ⟨he, bel⟩ => ?_
  subst he
  exact ⟨_, rfl, _, _, _, [], _, [], hW', trodAll_mk1 (shut_bool Try.underlying4 _), (trodAll_cons_mk (Below.trod laidOut (by kernel_rfl) (of_decide_eq_true (by kernel_rfl)) k0 bel lt0) (trodAll_cons_mk (Below.trod laidOut (by kernel_rfl) (of_decide_eq_true (by kernel_rfl)) k1 bel lt1) trodAll_mk0)), rfl, bel.frame _, fun h => by cases h⟩

theorem MacTexts_holds : Rows.MacTextsSaid :=
  OpenClaim.holds_of_wide 4 Try.f4 rfl rfl rfl rfl rfl rfl rfl ⟨rfl, rfl, rfl, rfl, rfl⟩ rfl rfl rfl rfl rfl (by kernel_rfl) Try.func4 (by kernel_rfl)
    (of_decide_eq_true (by kernel_rfl)) (by unfold Func.isWrapper; first | (rw [if_pos (by decide +kernel)]; kernel_rfl) | (rw [if_neg (by decide +kernel)]; exact ⟨rfl, rfl⟩))
    (fun os started H enc _ => MacTexts_lifted os started H enc)

#print axioms MacTexts_holds

end Go.Proofs.Yticbihnnemojbaa
