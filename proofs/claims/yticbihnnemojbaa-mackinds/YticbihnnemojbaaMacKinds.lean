/-
  MacKinds: for every address the class that package mac tells is the document's, and so is whether it is to more than one. No condition.
-/
import Derived.Test.YticbihnnemojbaaOpen
import Derived.Test.YticbihnnemojbaaAwake
namespace Go.Proofs.Yticbihnnemojbaa
open Go.ChangeShapes Go.WideShapes Go.ChangeAt Go.RowKit
open Go.ChangeMaps (open_string shut_string)
set_option linter.unusedVariables false

set_option maxHeartbeats 1000000 in
theorem MacKinds_walk (x00 x01 x02 x03 x04 x05 : Int) (w : World) (b00 : 0 ≤ x00 ∧ x00 ≤ 255) (b01 : 0 ≤ x01 ∧ x01 ≤ 255) (b02 : 0 ≤ x02 ∧ x02 ≤ 255) (b03 : 0 ≤ x03 ∧ x03 ≤ 255) (b04 : 0 ≤ x04 ∧ x04 ≤ 255) (b05 : 0 ≤ x05 ∧ x05 ≤ 255) :
    Calls Try.prog 3 #[.agg #[.int .u8 x00, .int .u8 x01, .int .u8 x02, .int .u8 x03, .int .u8 x04, .int .u8 x05]] w fun r w' => r = .returned (.bool true) ∧ Below w.heap.size w w' := by
  have hx := @Later.cell
  have hz : ∀ x, (isMany x == (x % 2 == 1)) = true := fun x => by simp [isMany]
  go_enter Try.func3, Try.ntmps3
  go_wp2
  refine wp_region_later (by kernel_rfl) (by kernel_rfl) ?_
  repeat (go_big_quiet_step (first
    | exact rfl
    | (go_at_call 9; exact Calls.later_of (kind_any _ _ _ _ _ _ _ b00))
    | (go_at_call 10; exact Calls.later_of (kind_ref _ _ _ _ _ _ _ b00))
    | (go_at_call 11; exact Calls.later_of (many_any _ _ _ _ _ _ _ b00))
    | (go_at_call 12; exact Calls.later_of (awake_any _))))
  refine wpQuiet_nil ?_
  intro _ hw'
  obtain ⟨x, rfl⟩ := hw'
  go_wp2
  go_ret
  exact ⟨rfl, below_later (by go_grown) x⟩

set_option maxRecDepth 100000 in
theorem MacKinds_lifted (os : Os) (started : os.Started) (H : Type) (enc : TypeId × Value → H) :
    ReturnsInHanded {} Try.checked os 3 .any (Rows.macKindsSpec.pre6 enc Try.prog Try.f3 Rows.macKindsRow.domain false) (Rows.macKindsSpec.post enc Try.prog Try.f3 false true false false) := by
  refine returnsInHanded_of_change (C := Try.checked) own started (by kernel_rfl) Try.func3
    (ChangeSpec.witness6 (enc := enc) (C := Try.checked) false ⟨#[], #[.agg #[.int .u8 0, .int .u8 0, .int .u8 0, .int .u8 0, .int .u8 0, .int .u8 0]], []⟩ 8 (by kernel_rfl) (by kernel_rfl) (by kernel_rfl) (by kernel_rfl)) ?_
  intro W base args ds gs before hval0 hW hcnd _
  have hval : ∀ (j : Nat) t v, Try.f3.params[j]? = some t → args[j]? = some v → Value.okWide Try.prog W .any base t v := hval0
  have hW' := hW
  obtain ⟨p, q, hA0, hV, rfl, hfz, hnd⟩ := hW
  have hA : DataW.TrodAll enc Try.prog W 0 (fun _ => true) true Try.f3.params.toList args.toList ds p := hA0
  rw [Try.params3] at hA hval
  obtain ⟨v0, vs0, d0, ds0, p0, q0, hargs, rfl, rfl, h0, r0⟩ := trodAll_cons hA
  obtain ⟨rfl, rfl, rfl⟩ := trodAll_nil r0
  obtain rfl : args = #[v0] := by cases args; simp_all
  obtain ⟨rfl, rfl⟩ := trodVars_none hV
  have k0 := h0
  have lt0 : ∀ x ∈ p0, x.block < W.heap.size := by obtain ⟨m, hm⟩ := k0; exact DataW.trod_lt m _ _ _ hm
  obtain ⟨x00, x01, x02, x03, x04, x05, rfl, b00, b01, b02, b03, b04, b05⟩ := open_mac (hval 0 23 v0 rfl rfl) h0
  clear hA0 hval0
  refine (MacKinds_walk x00 x01 x02 x03 x04 x05 W b00 b01 b02 b03 b04 b05).mono fun e W' ⟨he, bel⟩ => ?_
  subst he
  exact ⟨_, rfl, _, _, _, [], _, [], hW', trodAll_mk1 (shut_bool Try.underlying4 _), (trodAll_cons_mk (Below.trod laidOut (by kernel_rfl) (of_decide_eq_true (by kernel_rfl)) k0 bel lt0) trodAll_mk0), rfl, bel.frame _, fun h => by cases h⟩

theorem MacKinds_holds : Rows.MacKindsSaid :=
  OpenClaim.holds_of_wide 3 Try.f3 rfl rfl rfl rfl rfl rfl rfl ⟨rfl, rfl, rfl, rfl, rfl⟩ rfl rfl rfl rfl rfl (by kernel_rfl) Try.func3 (by kernel_rfl)
    (of_decide_eq_true (by kernel_rfl)) (by unfold Func.isWrapper; first | (rw [if_pos (by decide +kernel)]; kernel_rfl) | (rw [if_neg (by decide +kernel)]; exact ⟨rfl, rfl⟩))
    (fun os started H enc _ => MacKinds_lifted os started H enc)

#print axioms MacKinds_holds

end Go.Proofs.Yticbihnnemojbaa
