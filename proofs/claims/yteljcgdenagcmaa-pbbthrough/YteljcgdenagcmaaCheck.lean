/-
  The walk of which frames may be: for every frame.
-/
import Derived.Test.YteljcgdenagcmaaFaults
import Derived.WalkMore
namespace Go.Proofs.Yteljcgdenagcmaa
set_option linter.unusedVariables false
set_option maxRecDepth 4000
set_option linter.unusedSimpArgs false
open Go.RowKit

attribute [local go_sem ↓] slS_eq ldS23 ldS25 ldS38 stS38 nqS_eq eqS_eq

theorem idx0 (w : World) : (Instr.index 58 (.agg #[.int .i64 2, .int .i64 30]) (.int .i64 0)).run Try.prog w = .ok (.int .i64 2) w := by kernel_rfl
theorem idx1 (w : World) : (Instr.index 58 (.agg #[.int .i64 2, .int .i64 30]) (.int .i64 1)).run Try.prog w = .ok (.int .i64 30) w := by kernel_rfl

set_option maxHeartbeats 1000000 in
theorem check_long (f : Fr) (a : Option Addr) (n c : Nat) (w : World) (hc : n ≤ c) (hm : c ≤ maxLen) (hL : (1502 : Int) < (n : Int)) :
    Calls Try.prog 44 #[.agg (fcs f (.slice a n c))] w fun r w' => r = .returned (.int .i64 2) ∧ Below w.heap.size w w' := by
  have i0 := idx0
  have ld := (FrAt.new w f (.slice a n c)).ld
  have HB : Hid (Below w.heap.size w (w.alloc (.cells (fcs f (.slice a n c)) 38))) := (Below.refl _ _).alloc (Nat.le_refl _) _
  have HQ : Hid (n ≤ c ∧ c ≤ maxLen ∧ decide ((1502 : Int) < (n : Int)) = true) := ⟨hc, hm, decide_eq_true hL⟩
  clear hc hm hL
  go_enter Try.func44, Try.ntmps44
  go_wp2_with fail
  go_step3
  go_wp2_with fail
  go_step3
  go_wp2_with fail
  refine wp_loop_rounds 1 ?_
  rw [rounds_succ]
  go_wp2_with fail
  refine (faults_long f a n c _ HQ.out.1 HQ.out.2.1).mono ?_
  rintro _ w1 ⟨g, rfl, c0, hb1⟩
  rw [HQ.out.2.2] at c0
  have HB1 : Hid (Below w.heap.size w w1) := below_over HB.out hb1
  clear hb1 HB HQ ld
  go_wp2_with fail
  refine wp_loop_rounds 1 ?_
  rw [rounds_succ]
  go_wp2
  rw [Exit.noGoto_ret]
  go_ret
  exact ⟨rfl, HB1.out⟩


set_option maxHeartbeats 2000000 in
theorem check_rest (f : Fr) (a : Option Addr) (n c : Nat) (w : World) (hc : n ≤ c) (hm : c ≤ maxLen) (hL : decide ((1502 : Int) < (n : Int)) = false) (b0 b1 b2 b3 b4 b5 : Bool)
    (h : ∀ W, Below w.heap.size w W → Calls Try.prog 62 #[.agg (fcs f (.slice a n c)), .int .i64 30] W fun r w' => ∃ g, r = .returned (.slice (some ⟨g, 0, none⟩) 6 6) ∧ w'.cell? ⟨g, 0, none⟩ = some (.bool b0) ∧ w'.cell? ⟨g, 1, none⟩ = some (.bool b1) ∧
      w'.cell? ⟨g, 2, none⟩ = some (.bool b2) ∧ w'.cell? ⟨g, 3, none⟩ = some (.bool b3) ∧ w'.cell? ⟨g, 4, none⟩ = some (.bool b4) ∧ w'.cell? ⟨g, 5, none⟩ = some (.bool b5) ∧ Below W.heap.size W w') :
    Calls Try.prog 44 #[.agg (fcs f (.slice a n c))] w fun r w' => r = .returned (.int .i64 (if b0 || (b1 || (b2 || (b3 || (b4 || b5)))) then 30 else 0)) ∧ Below w.heap.size w w' := by
  have hF := FrAt.new w f (.slice a n c)
  have i0 := idx0
  have i1 := idx1
  have ld := hF.ld
  have HF : Hid (FrAt (w.alloc (.cells (fcs f (.slice a n c)) 38)) w.heap.size f (.slice a n c)) := hF
  have HB : Hid (Below w.heap.size w (w.alloc (.cells (fcs f (.slice a n c)) 38))) := (Below.refl _ _).alloc (Nat.le_refl _) _
  have HQ : Hid (n ≤ c ∧ c ≤ maxLen ∧ decide ((1502 : Int) < (n : Int)) = false) := ⟨hc, hm, hL⟩
  have HH : Hid (∀ W, Below w.heap.size w W → Calls Try.prog 62 #[.agg (fcs f (.slice a n c)), .int .i64 30] W fun r w' => ∃ g, r = .returned (.slice (some ⟨g, 0, none⟩) 6 6) ∧ w'.cell? ⟨g, 0, none⟩ = some (.bool b0) ∧ w'.cell? ⟨g, 1, none⟩ = some (.bool b1) ∧
      w'.cell? ⟨g, 2, none⟩ = some (.bool b2) ∧ w'.cell? ⟨g, 3, none⟩ = some (.bool b3) ∧ w'.cell? ⟨g, 4, none⟩ = some (.bool b4) ∧ w'.cell? ⟨g, 5, none⟩ = some (.bool b5) ∧ Below W.heap.size W w') := h
  clear hc hm hL hF h
  go_enter Try.func44, Try.ntmps44
  go_wp2_with fail
  go_step3
  go_wp2_with fail
  go_step3
  go_wp2_with fail
  refine wp_loop_rounds 3 ?_
  rw [rounds_succ]
  go_wp2_with fail
  refine (faults_long f a n c _ HQ.out.1 HQ.out.2.1).mono ?_
  rintro _ w1 ⟨g, rfl, c0, hb1⟩
  rw [HQ.out.2.2] at c0
  have HB1 : Hid (Below w.heap.size w w1) := below_over HB.out hb1
  have ld1 := (HF.out.below hb1).ld
  clear hb1 HB HQ ld HF
  go_wp2_with fail
  refine wp_loop_rounds 2 ?_
  rw [rounds_succ]
  go_wp2_with fail
  rw [rounds_succ]
  go_wp2_with fail
  clear c0
  rw [rounds_succ]
  go_wp2_with fail
  refine (HH.out _ HB1.out).mono ?_
  rintro _ w2 ⟨g, rfl, c0, c1, c2, c3, c4, c5, hb2⟩
  have HB2 : Hid (Below w.heap.size w w2) := below_over HB1.out hb2
  clear hb2 HB1 ld1 HH
  go_wp2_with fail
  refine wp_loop_rounds 7 ?_
  rw [rounds_succ]
  cases b0
  rotate_left
  · go_wp2
    rw [Exit.noGoto_ret]
    go_ret
    exact ⟨rfl, HB2.out⟩
  go_wp2_with fail
  rw [rounds_succ]
  cases b1
  rotate_left
  · go_wp2
    rw [Exit.noGoto_ret]
    go_ret
    exact ⟨rfl, HB2.out⟩
  go_wp2_with fail
  rw [rounds_succ]
  cases b2
  rotate_left
  · go_wp2
    rw [Exit.noGoto_ret]
    go_ret
    exact ⟨rfl, HB2.out⟩
  go_wp2_with fail
  rw [rounds_succ]
  cases b3
  rotate_left
  · go_wp2
    rw [Exit.noGoto_ret]
    go_ret
    exact ⟨rfl, HB2.out⟩
  go_wp2_with fail
  rw [rounds_succ]
  cases b4
  rotate_left
  · go_wp2
    rw [Exit.noGoto_ret]
    go_ret
    exact ⟨rfl, HB2.out⟩
  go_wp2_with fail
  rw [rounds_succ]
  cases b5
  rotate_left
  · go_wp2
    rw [Exit.noGoto_ret]
    go_ret
    exact ⟨rfl, HB2.out⟩
  go_wp2_with fail
  rw [rounds_succ]
  go_wp2_with fail
  rw [rounds_succ]
  go_wp2
  rw [Exit.noGoto_ret]
  go_ret
  exact ⟨rfl, HB2.out⟩

theorem check_fr (f : Fr) (x : Value) (l : List Int) (w : World) (h : Src w x l) (hb : ∀ x ∈ l, 0 ≤ x ∧ x ≤ 255) (hf : f.ok) :
    Calls Try.prog 44 #[.agg (fcs f x)] w fun r w' => r = .returned (.int .i64 (chkF f l)) ∧ Below w.heap.size w w' := by
  obtain ⟨a, n, c, rfl⟩ := src_form h
  obtain ⟨hn, hc, hm⟩ := src_short h
  by_cases hL : (1502 : Int) < (n : Int)
  · have e : chkF f l = 2 := by unfold chkF; rw [if_pos (by omega)]
    rw [e]
    exact check_long f a n c w hc hm hL
  · have := check_rest f a n c w hc hm (decide_eq_false hL) _ _ _ _ _ _ (fun W hW => faults_all f a n c l W (h.below hW) hb hf)
    refine this.mono ?_
    rintro r w' ⟨hr, hB⟩
    refine ⟨?_, hB⟩
    have e1 : chkF f l = if badF f l then 30 else 0 := by unfold chkF; rw [if_neg (by omega)]
    rw [hr, e1]
    apply ret_int
    unfold badF
    have e3 : (((l.length : Nat) : Int) < 2) ↔ l.length < 2 := by omega
    rw [hn]
    simp only [e3]
    generalize (f.s.kd != 1) = b0
    generalize (f.d.kd == 6) = b1
    generalize tagOk f.p f.v = b2
    generalize fz f = b3
    generalize decide (l.length < 2) = b4
    generalize (tyN l == 34984) = b5
    cases f.t <;> revert b0 b1 b2 b3 b4 b5 <;> decide
end Go.Proofs.Yteljcgdenagcmaa
