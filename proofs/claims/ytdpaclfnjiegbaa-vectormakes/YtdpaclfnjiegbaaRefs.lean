/-
  The definitions of stage 6: the walks of Better, Compare, Number, SameAddress, Superior, each for every input.
-/
import Derived.Test.YtdpaclfnjiegbaaSup
import Derived.Test.YtdpaclfnjiegbaaBest
namespace Go.Proofs.Ytdpaclfnjiegbaa
set_option linter.unusedVariables false
set_option maxRecDepth 4000
set_option linter.unusedSimpArgs false
open Go.RowKit

attribute [local go_sem ↓] ldV stV
set_option maxHeartbeats 1000000 in
theorem betref_any (a b : Vc) (w : World) :
    Calls Try.prog 12 #[.agg a.cs, .agg b.cs] w fun e w' => e = .returned (.bool (betV a b)) ∧ Below w.heap.size w w' := by
  obtain ⟨W, hW, va, vb, bW⟩ := two_new w a b
  have H : Hid (Below w.heap.size w W) := bW
  have a0 := va.c0
  have a1 := va.c1
  have a2 := va.c2
  have a3 := va.c3
  have b0 := vb.c0
  have b1 := vb.c1
  have b2 := vb.c2
  have b3 := vb.c3
  clear va vb bW
  by_cases h1 : a.r = b.r
  · by_cases h2 : a.c = b.c
    · by_cases h3 : a.b = b.b
      · go_enter Try.func12, Try.ntmps12
        go_wp2
        go_ret
        refine ⟨ret_bool ?_, H.out⟩
        unfold betV cmpV
        apply decide_eq_decide.mpr
        (repeat' split) <;> omega
      · go_enter Try.func12, Try.ntmps12
        go_wp2
        go_ret
        refine ⟨ret_bool ?_, H.out⟩
        unfold betV cmpV
        apply decide_eq_decide.mpr
        (repeat' split) <;> omega
    · go_enter Try.func12, Try.ntmps12
      go_wp2
      go_ret
      refine ⟨ret_bool ?_, H.out⟩
      unfold betV cmpV
      apply decide_eq_decide.mpr
      (repeat' split) <;> omega
  · go_enter Try.func12, Try.ntmps12
    go_wp2
    go_ret
    refine ⟨ret_bool ?_, H.out⟩
    unfold betV cmpV
    apply decide_eq_decide.mpr
    (repeat' split) <;> omega
theorem cmp_bet (a b : Vc) : cmpV a b = if betV a b = true then -1 else if betV b a = true then 1 else 0 := by
  unfold betV cmpV
  (repeat' split) <;> simp_all <;> omega
set_option maxHeartbeats 1000000 in
theorem cmpref_any (a b : Vc) (w : World) :
    Calls Try.prog 10 #[.agg a.cs, .agg b.cs] w fun e w' => e = .returned (.int .i64 (cmpV a b)) ∧ Below w.heap.size w w' := by
  obtain ⟨W, hW, va, vb, bW⟩ := two_new w a b
  have H : Hid (VvAt W w.heap.size a ∧ VvAt W (w.heap.size + 1) b ∧ Below w.heap.size w W) := ⟨va, vb, bW⟩
  have la := va.ld
  have lb := vb.ld
  have HC : Hid (cmpV a b = _) := cmp_bet a b
  clear va vb bW
  cases h1 : betV a b
  · go_enter Try.func10, Try.ntmps10
    go_wp2_with fail
    refine (betref_any a b _).mono ?_
    rintro _ W1 ⟨rfl, b1⟩
    rw [h1]
    have H1 : Hid (Below w.heap.size w W1) := below_over H.out.2.2 b1
    have la1 := (H.out.1.below b1).ld
    have lb1 := (H.out.2.1.below b1).ld
    clear b1 H la lb hW
    go_wp2_with fail
    refine (betref_any b a _).mono ?_
    rintro _ W2 ⟨rfl, b2⟩
    have H2 : Hid (Below w.heap.size w W2) := below_over H1.out b2
    clear b2 H1 la1 lb1
    cases h2 : betV b a
    all_goals
      go_wp2
      go_ret
      refine ⟨ret_int ?_, H2.out⟩
      rw [HC.out, h1, h2]
      rfl
  · go_enter Try.func10, Try.ntmps10
    go_wp2_with fail
    refine (betref_any a b _).mono ?_
    rintro _ W1 ⟨rfl, b1⟩
    rw [h1]
    have H1 : Hid (Below w.heap.size w W1) := below_over H.out.2.2 b1
    clear b1 H la lb hW
    go_wp2
    go_ret
    refine ⟨ret_int ?_, H1.out⟩
    rw [HC.out, h1]
    rfl
set_option maxHeartbeats 400000 in
theorem numref_any (p : Int) (w : World) (hp : 0 ≤ p ∧ p ≤ 65535) :
    Calls Try.prog 29 #[.int .u16 p] w fun e w' => e = .returned (.int .u16 (p % 4096)) ∧ Below w.heap.size w w' := by
  go_enter Try.func29, Try.ntmps29
  go_wp2
  go_ret
  exact ⟨rfl, by go_grown⟩
set_option maxHeartbeats 400000 in
theorem samead_any (n m : Int) (w : World) (hn : 0 ≤ n ∧ n ≤ 18446744073709551615) (hm : 0 ≤ m ∧ m ≤ 18446744073709551615) :
    Calls Try.prog 35 #[.int .u64 n, .int .u64 m] w fun e w' => e = .returned (.bool (sameA n m)) ∧ Below w.heap.size w w' := by
  go_enter Try.func35, Try.ntmps35
  go_wp2
  go_ret
  exact ⟨ret_bool rfl, by go_grown⟩
set_option maxHeartbeats 2000000 in
theorem supref_any (a b : Vc) (w : World) (ha : a.wf) (hb : b.wf) :
    Calls Try.prog 14 #[.agg a.cs, .agg b.cs] w fun e w' => e = .returned (.bool (supV a b)) ∧ Below w.heap.size w w' := by
  obtain ⟨W, hW, va, vb, bW⟩ := two_new w a b
  have H : Hid (Below w.heap.size w W) := bW
  have la := fun q : Later W => (va.below q.below).ld
  have lb := fun q : Later W => (vb.below q.below).ld
  have a2 := fun q : Later W => (va.below q.below).c2
  have b2 := fun q : Later W => (vb.below q.below).c2
  have a3 := fun q : Later W => (va.below q.below).c3
  have b3 := fun q : Later W => (vb.below q.below).c3
  have P1 : Hid (∀ q : Later W, _) := fun q : Later W => betref_any a b q.val
  have P2 : Hid (∀ q : Later W, _) := fun q : Later W => samead_any a.b b.b q.val ha.b hb.b
  have P4 : Hid (∀ q : Later W, _) := fun q : Later W => numref_any a.p q.val ha.p
  have P5 : Hid (∀ q : Later W, _) := fun q : Later W => numref_any b.p q.val hb.p
  clear va vb bW ha hb
  cases h1 : betV a b <;> cases h2 : sameA a.b b.b
  all_goals
    rw [h1] at P1
    rw [h2] at P2
    go_enter Try.func14, Try.ntmps14
    go_wp2_with fail
    refine wp_region_later (by kernel_rfl) (by kernel_rfl) ?_
    repeat (go_big_quiet_step (first
      | exact rfl
      | (go_at_call 12; with_reducible exact Calls.later_of (P1.out _))
      | (go_at_call 35; with_reducible exact Calls.later_of (P2.out _))
      | (go_at_call 29; with_reducible exact Calls.later_of (P4.out _))
      | (go_at_call 29; with_reducible exact Calls.later_of (P5.out _))))
    refine wpQuiet_nil ?_
    intro _ hw'
    obtain ⟨x, rfl⟩ := hw'
    go_wp2
    go_ret
    refine ⟨ret_bool ?_, below_later H.out x⟩
    simp [supV, sameN, h1, h2]
    try rfl
set_option maxHeartbeats 2000000 in
theorem bestref_any (a : Option Addr) (n c : Nat) (l : List Vc) (w : World) (h : VsAt w a n c l) (hw : ∀ v ∈ l, v.wf) :
    Calls Try.prog 21 #[.slice a n c] w fun e w' => e = .returned (.int .i64 (bestAt l n)) ∧ Below w.heap.size w w' := by
  have hn : (n : Int) ≤ 9223372036854775807 := by have := h.2.1; have := h.2.2.1; unfold maxLen at this; omega
  have H : Hid (VsAt w a n c l ∧ ∀ v ∈ l, v.wf) := ⟨h, hw⟩
  clear h hw
  go_enter Try.func21, Try.ntmps21
  go_wp2_with fail
  go_loopw [3, 4] (fun v3 v4 wr => ∃ i : Nat, i ≤ n ∧ v4 = .int .i64 i ∧ v3 = .int .i64 (bestAt l i) ∧ Below w.heap.size w wr) (fun v3 v4 _ => n - (intOf v4).toNat)
  case atStart => exact ⟨0, by omega, rfl, rfl, by go_grown⟩
  case round =>
    obtain ⟨i, hi, rfl, rfl, hB⟩ := hrel
    by_cases hlt : i < n
    · obtain ⟨b, o, rfl⟩ := H.out.1.2.2.2.1 (by omega)
      have hi1 : (i : Int) < (n : Int) := by omega
      have hi0 : (0 : Int) ≤ (i : Int) := by omega
      have H2 : Hid (Below w.heap.size w wr) := hB
      clear hB
      go_wp2_with fail
      obtain ⟨k0, kn, kp⟩ := bestAt_in l i
      have hstep : Hid (bestAt l (i + 1) = if bestAt l i < 0 ∨ betV (gtV l i) (gtV l (bestAt l i).toNat) = true then (i : Int) else bestAt l i) := show bestAt l (i + 1) = _ from by rw [bestAt]
      by_cases hneg : bestAt l i < 0
      · refine wp_region_later (by kernel_rfl) (by kernel_rfl) ?_
        repeat (go_big_quiet_step (first | exact rfl))
        refine wpQuiet_nil ?_
        intro _ hw'
        obtain ⟨x, rfl⟩ := hw'
        go_wp2
        go_roundw
        case rel => exact ⟨i + 1, by omega, by go_num, by rw [hstep.out, if_pos (.inl hneg)], below_later H2.out x⟩
        case measure => simp [intOf]; omega
      · obtain ⟨k, hk⟩ := Int.eq_ofNat_of_zero_le (show 0 ≤ bestAt l i by omega)
        rw [hk] at hstep kn ⊢
        have hk0 : (0 : Int) ≤ (k : Int) := by omega
        have hk1 : (k : Int) < (n : Int) := by omega
        have hk2 : ¬ (k : Int) < 0 := by omega
        have P1 : Hid (∀ q : Later wr, _) := fun q : Later wr => betref_any (gtV l i) (gtV l k) q.val
        have l1 := fun q : Later wr => ((H.out.1.below H2.out).below q.below).ld i (by omega)
        have l2 := fun q : Later wr => ((H.out.1.below H2.out).below q.below).ld k (by omega)
        have hs2 : Hid (bestAt l (i + 1) = if betV (gtV l i) (gtV l k) = true then (i : Int) else (k : Int)) := by
          have := hstep.out
          show _ = _
          simpa [hk2] using this
        clear hstep k0 kn kp hneg hk
        cases hbt : betV (gtV l i) (gtV l k)
        all_goals
          rw [hbt] at P1 hs2
          refine wp_region_later (by kernel_rfl) (by kernel_rfl) ?_
          repeat (go_big_quiet_step (first | exact rfl | (go_at_call 12; with_reducible exact Calls.later_of (P1.out _))))
          refine wpQuiet_nil ?_
          intro _ hw'
          obtain ⟨x, rfl⟩ := hw'
          go_wp2
          go_roundw
          case rel => exact ⟨i + 1, by omega, by go_num, by rw [hs2.out]; rfl, below_later H2.out x⟩
          case measure => simp [intOf]; omega
    · have hin : i = n := by omega
      subst hin
      have hnn : ¬ (i : Int) < (i : Int) := by omega
      go_wp2
      go_ret
      exact ⟨rfl, hB⟩
end Go.Proofs.Ytdpaclfnjiegbaa
