/-
  The walks of two more statements, each for every input.
-/
import Derived.Test.YtdpaclfnjiegbaaLaws
namespace Go.Proofs.Ytdpaclfnjiegbaa
set_option linter.unusedVariables false
set_option maxRecDepth 4000
set_option linter.unusedSimpArgs false
open Go.RowKit

theorem bet_iff (a b : Vc) : betV a b = true ↔ a.r < b.r ∨ (a.r = b.r ∧ (a.c < b.c ∨ (a.c = b.c ∧ (a.b < b.b ∨ (a.b = b.b ∧ a.p < b.p))))) := by
  unfold betV cmpV
  simp only [decide_eq_true_eq]
  (repeat' split) <;> omega
theorem bet_trans {a b c : Vc} (h1 : betV a b = true) (h2 : betV b c = true) : betV a c = true := by
  rw [bet_iff] at *
  omega
theorem eqB_iff (a b : Vc) : eqB a b = true ↔ a.r = b.r ∧ a.c = b.c ∧ a.b = b.b ∧ a.p = b.p := by simp [eqB, eq4]
theorem order_three (a b : Vc) : (betV a b = true ∧ betV b a = false ∧ eqB a b = false ∧ cmpV a b = -1 ∧ cmpV b a = 1) ∨ (betV a b = false ∧ betV b a = true ∧ eqB a b = false ∧ cmpV a b = 1 ∧ cmpV b a = -1) ∨ (betV a b = false ∧ betV b a = false ∧ eqB a b = true ∧ cmpV a b = 0 ∧ cmpV b a = 0) := by
  have e1 := cmp_bet a b
  have e2 := cmp_bet b a
  have h1 := bet_iff a b
  have h2 := bet_iff b a
  have h3 := eqB_iff a b
  cases c1 : betV a b <;> cases c2 : betV b a <;> cases c3 : eqB a b <;> simp only [c1, c2, c3, true_iff, false_iff, Bool.false_eq_true] at h1 h2 h3 e1 e2 <;> simp [e1, e2] <;> omega
/-- One cost more changes nothing. -/
theorem bet_add (a b : Vc) (k : Int) (hr : b.r = a.r) (hc : b.c = a.c) : betV (addV a k) (addV b k) = betV a b := by
  have h1 := bet_iff a b
  have h2 := bet_iff (addV a k) (addV b k)
  simp only [addV, hc, hr] at h2
  rw [hr, hc] at h1
  rw [Bool.eq_iff_iff, h1]
  simpa [addV, hc, hr] using h2
attribute [local go_sem ↓] ldV stV nqV_eq
set_option maxHeartbeats 4000000 in
theorem VectorOrder_walk (a b c : Vc) (w : World) (ha : a.wf) (hb : b.wf) (hc : c.wf) :
    Calls Try.prog 7 #[.agg a.cs, .agg b.cs, .agg c.cs] w fun e w' => e = .returned (.bool true) ∧ Below w.heap.size w w' := by
  obtain ⟨W, hW, va, vb, vc, bW⟩ := three_new w a b c
  have H : Hid (Below w.heap.size w W) := bW
  have HV : Hid (VvAt W w.heap.size a ∧ VvAt W (w.heap.size + 1) b ∧ VvAt W (w.heap.size + 1 + 1) c) := ⟨va, vb, vc⟩
  have la := fun q : Later W => (va.below q.below).ld
  have lb := fun q : Later W => (vb.below q.below).ld
  have P1 : Hid (∀ W : World, _) := fun W : World => better_any a b W ha hb
  have P2 : Hid (∀ W : World, _) := fun W : World => better_any b a W hb ha
  have P3 : Hid (∀ W : World, _) := fun W : World => compare_any a b W ha hb
  have P4 : Hid (∀ W : World, _) := fun W : World => compare_any b a W hb ha
  have P5 : Hid (∀ W : World, _) := fun W : World => better_any b c W hb hc
  have P6 : Hid (∀ W : World, _) := fun W : World => better_any a c W ha hc
  have hne := nqV_any a b
  have gv := guard_v .neq
  have ht : Hid (betV a b = true → betV b c = true → betV a c = true) := fun h1 h2 => bet_trans h1 h2
  clear va vb vc bW ha hb hc
  rcases order_three a b with ⟨h1, h2, h3, h4, h5⟩ | ⟨h1, h2, h3, h4, h5⟩ | ⟨h1, h2, h3, h4, h5⟩
  all_goals
    rw [h1] at P1
    rw [h2] at P2
    rw [h3] at hne
    rw [h4] at P3
    rw [h5] at P4
    clear h2 h3 h4 h5
    go_enter Try.func7, Try.ntmps7
    go_wp2_with fail
    refine wp_region_later (by kernel_rfl) (by kernel_rfl) ?_
    repeat (go_big_quiet_step (first
      | exact rfl
      | (go_at_call 11; with_reducible exact Calls.later_of (P1.out _))
      | (go_at_call 11; with_reducible exact Calls.later_of (P2.out _))))
    refine wpQuiet_nil ?_
    intro _ hw'
    obtain ⟨x, hx⟩ := hw'
    rw [hx]
    have HX : Hid (Below w.heap.size w x.val) := below_later H.out x
    have BX : Hid (Below W.heap.size W x.val) := x.below
    clear hx
    obtain ⟨X, hX⟩ : ∃ X, x.val = X := ⟨_, rfl⟩
    rw [hX] at HX BX ⊢
    clear hX x la lb
    have la := fun q : Later X => ((HV.out.1.below BX.out).below q.below).ld
    have lb := fun q : Later X => ((HV.out.2.1.below BX.out).below q.below).ld
    go_wp2_with fail
    refine wp_region_later (by kernel_rfl) (by kernel_rfl) ?_
    repeat (go_big_quiet_step (first
      | exact rfl
      | (go_at_call 9; with_reducible exact Calls.later_of (P3.out _))
      | (go_at_call 9; with_reducible exact Calls.later_of (P4.out _))))
    refine wpQuiet_nil ?_
    intro _ hw'
    obtain ⟨x, hx⟩ := hw'
    rw [hx]
    have HY : Hid (Below w.heap.size w x.val) := below_later HX.out x
    have BY : Hid (Below W.heap.size W x.val) := below_later BX.out x
    clear hx
    obtain ⟨Y, hY⟩ : ∃ Y, x.val = Y := ⟨_, rfl⟩
    rw [hY] at HY BY ⊢
    clear hY x la lb HX BX X
    have la := (HV.out.1.below BY.out).ld
    have lb := (HV.out.2.1.below BY.out).ld
    go_wp2_with fail
    refine (P1.out _).mono ?_
    rintro _ Z ⟨rfl, bz⟩
    have HZ : Hid (Below w.heap.size w Z) := below_over HY.out bz
    have BZ : Hid (Below W.heap.size W Z) := below_over BY.out bz
    clear bz la lb HY BY Y
  · have lb := (HV.out.2.1.below BZ.out).ld
    have lc := (HV.out.2.2.below BZ.out).ld
    cases h7 : betV b c
    · rw [h7] at P5
      go_wp2_with fail
      refine (P5.out _).mono ?_
      rintro _ Y ⟨rfl, bz⟩
      have HY : Hid (Below w.heap.size w Y) := below_over HZ.out bz
      clear bz lb lc HZ BZ Z
      go_wp2_with fail
      refine (awake_any _).mono ?_
      rintro _ Z ⟨rfl, bz⟩
      have HZ : Hid (Below w.heap.size w Z) := below_over HY.out bz
      clear bz
      go_wp2
      go_ret
      exact ⟨rfl, HZ.out⟩
    · have h8 := ht.out h1 h7
      rw [h7] at P5
      rw [h8] at P6
      clear h8
      go_wp2_with fail
      refine (P5.out _).mono ?_
      rintro _ Y ⟨rfl, bz⟩
      have HY : Hid (Below w.heap.size w Y) := below_over HZ.out bz
      have BY : Hid (Below W.heap.size W Y) := below_over BZ.out bz
      clear bz lb lc HZ BZ Z
      have la := (HV.out.1.below BY.out).ld
      have lc := (HV.out.2.2.below BY.out).ld
      go_wp2_with fail
      refine (P6.out _).mono ?_
      rintro _ Z ⟨rfl, bz⟩
      have HZ : Hid (Below w.heap.size w Z) := below_over HY.out bz
      clear bz la lc HY BY Y
      go_wp2_with fail
      refine (awake_any _).mono ?_
      rintro _ Y ⟨rfl, bz⟩
      have HY : Hid (Below w.heap.size w Y) := below_over HZ.out bz
      clear bz
      go_wp2
      go_ret
      exact ⟨rfl, HY.out⟩
  all_goals
    go_wp2_with fail
    refine (awake_any _).mono ?_
    rintro _ Y ⟨rfl, bz⟩
    have HY : Hid (Below w.heap.size w Y) := below_over HZ.out bz
    clear bz
    go_wp2
    go_ret
    exact ⟨rfl, HY.out⟩
/-- What the calls of VectorCosts answer. -/
theorem costs_any (a b : Vc) (k : Int) (ha : a.wf) (hb : b.wf) (hk : 0 ≤ k ∧ k ≤ 4294967295) (hr : b.r = a.r) (hc : b.c = a.c) (W : World) :
    (Calls Try.prog 16 #[.agg a.cs, .int .u32 k] W fun e w' => e = .returned (.agg (addV a k).cs) ∧ Below W.heap.size W w') ∧
    (Calls Try.prog 16 #[.agg b.cs, .int .u32 k] W fun e w' => e = .returned (.agg (addV b k).cs) ∧ Below W.heap.size W w') ∧
    (Calls Try.prog 11 #[.agg (addV a k).cs, .agg (addV b k).cs] W fun e w' => e = .returned (.bool (betV a b)) ∧ Below W.heap.size W w') ∧
    (Calls Try.prog 11 #[.agg a.cs, .agg b.cs] W fun e w' => e = .returned (.bool (betV a b)) ∧ Below W.heap.size W w') := by
  refine ⟨add_any a k _ ha hk, add_any b k _ hb hk, ?_, better_any a b _ ha hb⟩
  have := better_any (addV a k) (addV b k) W (addV_wf ha k) (addV_wf hb k)
  rwa [bet_add a b k hr hc] at this
theorem costs_two (w : World) (a b : Vc) : ∃ W, ((w.alloc (.cells a.cs 26)).alloc (.cells #[.int .u64 a.r, .int .u32 a.c, .int .u64 b.b, .int .u16 b.p] 26)) = W ∧ VvAt W w.heap.size a ∧ VvAt W (w.heap.size + 1) ⟨a.r, a.c, b.b, b.p⟩ ∧ Below w.heap.size w W := two_new w a ⟨a.r, a.c, b.b, b.p⟩
set_option maxHeartbeats 4000000 in
theorem VectorCosts_walk (a b : Vc) (k : Int) (w : World) (ha : a.wf) (hb : b.wf) (hk : 0 ≤ k ∧ k ≤ 4294967295) :
    Calls Try.prog 8 #[.agg a.cs, .agg b.cs, .int .u32 k] w fun e w' => e = .returned (.bool true) ∧ Below w.heap.size w w' := by
  obtain ⟨d, hd⟩ : ∃ d : Vc, d = ⟨a.r, a.c, b.b, b.p⟩ := ⟨_, rfl⟩
  have P : Hid (∀ W : World, _) := costs_any a d k ha (by rw [hd]; exact ⟨ha.r, ha.c, hb.b, hb.p⟩) hk (by rw [hd]) (by rw [hd])
  obtain ⟨B, hB⟩ : ∃ B, betV a d = B := ⟨_, rfl⟩
  rw [hB] at P
  obtain ⟨W, hW, va, vb, bW⟩ := costs_two w a b
  rw [← hd] at vb
  have H : Hid (Below w.heap.size w W) := bW
  have la := fun q : Later W => (va.below q.below).ld
  have lb := fun q : Later W => (vb.below q.below).ld
  clear va vb bW ha hb hk hB hd
  have HW : Hid (((w.alloc (.cells #[.int .u64 a.r, .int .u32 a.c, .int .u64 a.b, .int .u16 a.p] 26)).alloc (.cells #[.int .u64 a.r, .int .u32 a.c, .int .u64 b.b, .int .u16 b.p] 26)) = W) := hW
  clear hW
  have e1 : a.cs = #[.int .u64 a.r, .int .u32 a.c, .int .u64 a.b, .int .u16 a.p] := rfl
  have e2 : b.cs = #[.int .u64 b.r, .int .u32 b.c, .int .u64 b.b, .int .u16 b.p] := rfl
  go_enter Try.func8, Try.ntmps8
  go_wp2_with fail
  rw [HW.out]
  clear HW e1 e2
  refine wp_region_later (by kernel_rfl) (by kernel_rfl) ?_
  repeat (go_big_quiet_step (first
    | exact rfl
    | (go_at_call 16; with_reducible exact Calls.later_of (P.out _).1)
    | (go_at_call 16; with_reducible exact Calls.later_of (P.out _).2.1)
    | (go_at_call 11; with_reducible exact Calls.later_of (P.out _).2.2.1)
    | (go_at_call 11; with_reducible exact Calls.later_of (P.out _).2.2.2)
    | (go_at_call 15; with_reducible exact Calls.later_of (awake_any _))))
  refine wpQuiet_nil ?_
  intro _ hw'
  obtain ⟨x, rfl⟩ := hw'
  go_wp2
  go_ret
  exact ⟨rfl, below_later H.out x⟩
end Go.Proofs.Ytdpaclfnjiegbaa
