/-
  MacGroups: for every number and every address, the group that package mac tells, and whose group an address is, are the document's. No condition.
-/
import Derived.Test.YticbihnnemojbaaOpen
import Derived.Test.YticbihnnemojbaaAwake
namespace Go.Proofs.Yticbihnnemojbaa
open Go.ChangeShapes Go.WideShapes Go.ChangeAt Go.RowKit
open Go.ChangeMaps (open_string shut_string)
set_option linter.unusedVariables false

set_option maxHeartbeats 1000000 in
theorem MacGroups_walk (x0 x10 x11 x12 x13 x14 x15 : Int) (w : World) (w0 : (Lit.int .i64 x0).wf = true) (b10 : 0 ≤ x10 ∧ x10 ≤ 255) (b11 : 0 ≤ x11 ∧ x11 ≤ 255) (b12 : 0 ≤ x12 ∧ x12 ≤ 255) (b13 : 0 ≤ x13 ∧ x13 ≤ 255) (b14 : 0 ≤ x14 ∧ x14 ≤ 255) (b15 : 0 ≤ x15 ∧ x15 ≤ 255) :
    Calls Try.prog 5 #[.int .i64 x0, .agg #[.int .u8 x10, .int .u8 x11, .int .u8 x12, .int .u8 x13, .int .u8 x14, .int .u8 x15]] w fun r w' => r = .returned (.bool true) ∧ Below w.heap.size w w' := by
  have hx := @Later.cell
  have hq := eq6_self
  by_cases h : 1 ≤ x0 ∧ x0 ≤ 16777215
  · go_enter Try.func5, Try.ntmps5
    go_wp2_with fail
    refine Calls.on_later (group_yes _ _ h) ?_
    intro x1
    have hz := x1.below.size
    simp only [World.size_alloc] at hz
    have z1 := Nat.lt_of_succ_le hz
    have z1' := Nat.lt_succ_of_lt z1
    clear hz
    go_wp2_with fail
    refine Calls.on_later (group_ref_yes _ _ h) ?_
    intro x2
    have hz := x2.below.size
    simp only [World.size_alloc] at hz
    have z2 := Nat.lt_of_succ_le hz
    have z2' := Nat.lt_succ_of_lt z2
    have z3 := Nat.lt_trans z1 z2
    have z3' := Nat.lt_succ_of_lt z3
    clear hz
    go_wp2_with fail
    refine Calls.on_later (isid_any _ _ _ _ _ _ _ b10 b11 b12 b13 b14 b15) ?_
    intro x3
    go_wp2_with fail
    refine Calls.on_later2 (isid_ref _ _ _ _ _ _ _ b10 b11 b12 b13 b14 b15) ?_
    intro x4
    go_wp2_with fail
    refine Calls.on_later2 (awake_any _) ?_
    intro x5
    go_wp2
    go_ret
    refine ⟨rfl, ?_⟩
    have c1 := below_later (w := w) (by go_grown) x1
    have c2 := below_over c1 (below_later ((Below.refl _ _).alloc (Nat.le_refl _) _) x2)
    exact below_over c2 (below_later ((Below.refl _ _).alloc (Nat.le_refl _) _) x5)
  · have h' : x0 < 1 ∨ 16777215 < x0 := by omega
    clear h
    go_enter Try.func5, Try.ntmps5
    go_wp2_with fail
    refine Calls.on_later (group_no _ _ h') ?_
    intro x1
    have hz := x1.below.size
    simp only [World.size_alloc] at hz
    have z1 := Nat.lt_of_succ_le hz
    have z1' := Nat.lt_succ_of_lt z1
    clear hz
    go_wp2_with fail
    refine Calls.on_later (group_ref_no _ _ h') ?_
    intro x2
    have hz := x2.below.size
    simp only [World.size_alloc] at hz
    have z2 := Nat.lt_of_succ_le hz
    have z2' := Nat.lt_succ_of_lt z2
    have z3 := Nat.lt_trans z1 z2
    have z3' := Nat.lt_succ_of_lt z3
    clear hz
    go_wp2_with fail
    refine Calls.on_later (isid_any _ _ _ _ _ _ _ b10 b11 b12 b13 b14 b15) ?_
    intro x3
    go_wp2_with fail
    refine Calls.on_later2 (isid_ref _ _ _ _ _ _ _ b10 b11 b12 b13 b14 b15) ?_
    intro x4
    go_wp2_with fail
    refine Calls.on_later2 (awake_any _) ?_
    intro x5
    go_wp2
    go_ret
    refine ⟨rfl, ?_⟩
    have c1 := below_later (w := w) (by go_grown) x1
    have c2 := below_over c1 (below_later ((Below.refl _ _).alloc (Nat.le_refl _) _) x2)
    exact below_over c2 (below_later ((Below.refl _ _).alloc (Nat.le_refl _) _) x5)

set_option maxRecDepth 100000 in
theorem MacGroups_lifted (os : Os) (started : os.Started) (H : Type) (enc : TypeId × Value → H) :
    ReturnsInHanded {} Try.checked os 5 .any (Rows.macGroupsSpec.pre6 enc Try.prog Try.f5 Rows.macGroupsRow.domain false) (Rows.macGroupsSpec.post enc Try.prog Try.f5 false true false false) := by
  refine returnsInHanded_of_change (C := Try.checked) own started (by kernel_rfl) Try.func5
    (ChangeSpec.witness6 (enc := enc) (C := Try.checked) false ⟨#[], #[.int .i64 0, .agg #[.int .u8 0, .int .u8 0, .int .u8 0, .int .u8 0, .int .u8 0, .int .u8 0]], []⟩ 8 (by kernel_rfl) (by kernel_rfl) (by kernel_rfl) (by kernel_rfl)) ?_
  intro W base args ds gs before hval0 hW hcnd _
  have hval : ∀ (j : Nat) t v, Try.f5.params[j]? = some t → args[j]? = some v → Value.okWide Try.prog W .any base t v := hval0
  have hW' := hW
  obtain ⟨p, q, hA0, hV, rfl, hfz, hnd⟩ := hW
  have hA : DataW.TrodAll enc Try.prog W 0 (fun _ => true) true Try.f5.params.toList args.toList ds p := hA0
  rw [Try.params5] at hA hval
  obtain ⟨v0, vs0, d0, ds0, p0, q0, hargs, rfl, rfl, h0, r0⟩ := trodAll_cons hA
  obtain ⟨v1, vs1, d1, ds1, p1, q1, rfl, rfl, rfl, h1, r1⟩ := trodAll_cons r0
  obtain ⟨rfl, rfl, rfl⟩ := trodAll_nil r1
  obtain rfl : args = #[v0, v1] := by cases args; simp_all
  obtain ⟨rfl, rfl⟩ := trodVars_none hV
  have k0 := h0
  have lt0 : ∀ x ∈ p0, x.block < W.heap.size := by obtain ⟨m, hm⟩ := k0; exact DataW.trod_lt m _ _ _ hm
  obtain ⟨x0, rfl, rfl, rfl, w0⟩ := open_int Try.underlying3 (hval 0 3 v0 rfl rfl) h0
  have k1 := h1
  have lt1 : ∀ x ∈ p1, x.block < W.heap.size := by obtain ⟨m, hm⟩ := k1; exact DataW.trod_lt m _ _ _ hm
  obtain ⟨x10, x11, x12, x13, x14, x15, rfl, b10, b11, b12, b13, b14, b15⟩ := open_mac (hval 1 23 v1 rfl rfl) h1
  clear hA0 hval0
  refine (MacGroups_walk x0 x10 x11 x12 x13 x14 x15 W w0 b10 b11 b12 b13 b14 b15).mono fun e W' ⟨he, bel⟩ => ?_
  subst he
  exact ⟨_, rfl, _, _, _, [], _, [], hW', trodAll_mk1 (shut_bool Try.underlying4 _), (trodAll_cons_mk (Below.trod laidOut (by kernel_rfl) (of_decide_eq_true (by kernel_rfl)) k0 bel lt0) (trodAll_cons_mk (Below.trod laidOut (by kernel_rfl) (of_decide_eq_true (by kernel_rfl)) k1 bel lt1) trodAll_mk0)), rfl, bel.frame _, fun h => by cases h⟩

theorem MacGroups_holds : Rows.MacGroupsSaid :=
  OpenClaim.holds_of_wide 5 Try.f5 rfl rfl rfl rfl rfl rfl rfl ⟨rfl, rfl, rfl, rfl, rfl⟩ rfl rfl rfl rfl rfl (by kernel_rfl) Try.func5 (by kernel_rfl)
    (of_decide_eq_true (by kernel_rfl)) (by unfold Func.isWrapper; first | (rw [if_pos (by decide +kernel)]; kernel_rfl) | (rw [if_neg (by decide +kernel)]; exact ⟨rfl, rfl⟩))
    (fun os started H enc _ => MacGroups_lifted os started H enc)

#print axioms MacGroups_holds

end Go.Proofs.Yticbihnnemojbaa
