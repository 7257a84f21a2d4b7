/-
  MacNumbers: for every two addresses and every number, package mac's numbers, addresses and order are the document's. No condition.
-/
import Derived.Test.YticbihnnemojbaaOpen
import Derived.Test.YticbihnnemojbaaAwake
namespace Go.Proofs.Yticbihnnemojbaa
open Go.ChangeShapes Go.WideShapes Go.ChangeAt Go.RowKit
open Go.ChangeMaps (open_string shut_string)
set_option linter.unusedVariables false

set_option maxHeartbeats 2000000 in
theorem MacNumbers_walk (x00 x01 x02 x03 x04 x05 x10 x11 x12 x13 x14 x15 x2 : Int) (w : World) (b00 : 0 ≤ x00 ∧ x00 ≤ 255) (b01 : 0 ≤ x01 ∧ x01 ≤ 255) (b02 : 0 ≤ x02 ∧ x02 ≤ 255) (b03 : 0 ≤ x03 ∧ x03 ≤ 255) (b04 : 0 ≤ x04 ∧ x04 ≤ 255) (b05 : 0 ≤ x05 ∧ x05 ≤ 255) (b10 : 0 ≤ x10 ∧ x10 ≤ 255) (b11 : 0 ≤ x11 ∧ x11 ≤ 255) (b12 : 0 ≤ x12 ∧ x12 ≤ 255) (b13 : 0 ≤ x13 ∧ x13 ≤ 255) (b14 : 0 ≤ x14 ∧ x14 ≤ 255) (b15 : 0 ≤ x15 ∧ x15 ≤ 255) (w2 : (Lit.int .u64 x2).wf = true) :
    Calls Try.prog 6 #[.agg #[.int .u8 x00, .int .u8 x01, .int .u8 x02, .int .u8 x03, .int .u8 x04, .int .u8 x05], .agg #[.int .u8 x10, .int .u8 x11, .int .u8 x12, .int .u8 x13, .int .u8 x14, .int .u8 x15], .int .u64 x2] w fun r w' => r = .returned (.bool true) ∧ Below w.heap.size w w' := by
  have hx := @Later.cell
  have hq := eq6_self
  have hn := bounds_u64 w2
  have hn' : 0 ≤ x2 ∧ x2 ≤ 18446744073709551615 := by omega
  clear w2
  go_enter Try.func6, Try.ntmps6
  go_wp2
  refine wp_region_later (by kernel_rfl) (by kernel_rfl) ?_
  repeat (go_big_quiet_step (first
    | exact rfl
    | (go_at_call 21; exact Calls.later_of (number_any _ _ _ _ _ _ _ b00 b01 b02 b03 b04 b05))
    | (go_at_call 22; exact Calls.later_of (number_ref _ _ _ _ _ _ _ b00 b01 b02 b03 b04 b05))
    | (go_at_call 22; exact Calls.later_of (number_ref _ _ _ _ _ _ _ b10 b11 b12 b13 b14 b15))
    | (go_at_call 23; exact Calls.later_of (from_any _ _ hn'))
    | (go_at_call 24; exact Calls.later_of (from_ref _ _ hn'))
    | (go_at_call 25; exact Calls.later_of (less_any _ _ _ _ _ _ _ _ _ _ _ _ _ b00 b01 b02 b03 b04 b05 b10 b11 b12 b13 b14 b15))
    | (go_at_call 12; exact Calls.later_of (awake_any _))))
  refine wpQuiet_nil ?_
  intro _ hw'
  obtain ⟨x, rfl⟩ := hw'
  go_wp2
  go_ret
  exact ⟨rfl, below_later (by go_grown) x⟩

set_option maxRecDepth 100000 in
theorem MacNumbers_lifted (os : Os) (started : os.Started) (H : Type) (enc : TypeId × Value → H) :
    ReturnsInHanded {} Try.checked os 6 .any (Rows.macNumbersSpec.pre6 enc Try.prog Try.f6 Rows.macNumbersRow.domain false) (Rows.macNumbersSpec.post enc Try.prog Try.f6 false true false false) := by
  refine returnsInHanded_of_change (C := Try.checked) own started (by kernel_rfl) Try.func6
    (ChangeSpec.witness6 (enc := enc) (C := Try.checked) false ⟨#[], #[.agg #[.int .u8 0, .int .u8 0, .int .u8 0, .int .u8 0, .int .u8 0, .int .u8 0], .agg #[.int .u8 0, .int .u8 0, .int .u8 0, .int .u8 0, .int .u8 0, .int .u8 0], .int .u64 0], []⟩ 8 (by kernel_rfl) (by kernel_rfl) (by kernel_rfl) (by kernel_rfl)) ?_
  intro W base args ds gs before hval0 hW hcnd _
  have hval : ∀ (j : Nat) t v, Try.f6.params[j]? = some t → args[j]? = some v → Value.okWide Try.prog W .any base t v := hval0
  have hW' := hW
  obtain ⟨p, q, hA0, hV, rfl, hfz, hnd⟩ := hW
  have hA : DataW.TrodAll enc Try.prog W 0 (fun _ => true) true Try.f6.params.toList args.toList ds p := hA0
  rw [Try.params6] at hA hval
  obtain ⟨v0, vs0, d0, ds0, p0, q0, hargs, rfl, rfl, h0, r0⟩ := trodAll_cons hA
  obtain ⟨v1, vs1, d1, ds1, p1, q1, rfl, rfl, rfl, h1, r1⟩ := trodAll_cons r0
  obtain ⟨v2, vs2, d2, ds2, p2, q2, rfl, rfl, rfl, h2, r2⟩ := trodAll_cons r1
  obtain ⟨rfl, rfl, rfl⟩ := trodAll_nil r2
  obtain rfl : args = #[v0, v1, v2] := by cases args; simp_all
  obtain ⟨rfl, rfl⟩ := trodVars_none hV
  have k0 := h0
  have lt0 : ∀ x ∈ p0, x.block < W.heap.size := by obtain ⟨m, hm⟩ := k0; exact DataW.trod_lt m _ _ _ hm
  obtain ⟨x00, x01, x02, x03, x04, x05, rfl, b00, b01, b02, b03, b04, b05⟩ := open_mac (hval 0 23 v0 rfl rfl) h0
  have k1 := h1
  have lt1 : ∀ x ∈ p1, x.block < W.heap.size := by obtain ⟨m, hm⟩ := k1; exact DataW.trod_lt m _ _ _ hm
  obtain ⟨x10, x11, x12, x13, x14, x15, rfl, b10, b11, b12, b13, b14, b15⟩ := open_mac (hval 1 23 v1 rfl rfl) h1
  have k2 := h2
  have lt2 : ∀ x ∈ p2, x.block < W.heap.size := by obtain ⟨m, hm⟩ := k2; exact DataW.trod_lt m _ _ _ hm
  obtain ⟨x2, rfl, rfl, rfl, w2⟩ := open_int Try.underlying40 (hval 2 40 v2 rfl rfl) h2
  clear hA0 hval0
  refine (MacNumbers_walk x00 x01 x02 x03 x04 x05 x10 x11 x12 x13 x14 x15 x2 W b00 b01 b02 b03 b04 b05 b10 b11 b12 b13 b14 b15 w2).mono fun e W' ⟨he, bel⟩ => ?_
  subst he
  exact ⟨_, rfl, _, _, _, [], _, [], hW', trodAll_mk1 (shut_bool Try.underlying4 _), (trodAll_cons_mk (Below.trod laidOut (by kernel_rfl) (of_decide_eq_true (by kernel_rfl)) k0 bel lt0) (trodAll_cons_mk (Below.trod laidOut (by kernel_rfl) (of_decide_eq_true (by kernel_rfl)) k1 bel lt1) (trodAll_cons_mk (Below.trod laidOut (by kernel_rfl) (of_decide_eq_true (by kernel_rfl)) k2 bel lt2) trodAll_mk0))), rfl, bel.frame _, fun h => by cases h⟩

theorem MacNumbers_holds : Rows.MacNumbersSaid :=
  OpenClaim.holds_of_wide 6 Try.f6 rfl rfl rfl rfl rfl rfl rfl ⟨rfl, rfl, rfl, rfl, rfl⟩ rfl rfl rfl rfl rfl (by kernel_rfl) Try.func6 (by kernel_rfl)
    (of_decide_eq_true (by kernel_rfl)) (by unfold Func.isWrapper; first | (rw [if_pos (by decide +kernel)]; kernel_rfl) | (rw [if_neg (by decide +kernel)]; exact ⟨rfl, rfl⟩))
    (fun os started H enc _ => MacNumbers_lifted os started H enc)

#print axioms MacNumbers_holds

end Go.Proofs.Yticbihnnemojbaa
