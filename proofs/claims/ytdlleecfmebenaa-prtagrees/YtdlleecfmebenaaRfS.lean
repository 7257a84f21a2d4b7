/-
  The definition's step: its walk, for every tree; it is the code's.
-/
import Derived.Test.YtdlleecfmebenaaRfT
namespace Go.Proofs.Ytdlleecfmebenaa
set_option linter.unusedVariables false
set_option maxRecDepth 4000
set_option linter.unusedSimpArgs false
open Go.RowKit

/-- What becomes of the ports by the state of one, if anything. -/
def stO (l : List Pt) (k : Nat) : Option (List Pt) :=
  if (gtP l k).nm 73 = 1 then (if stopB (gtP l k) = true then some (l.set k (disP (gtP l k))) else none) else if (gtP l k).nm 73 = 2 then (if looB (gtP l k) 41 = true then some (l.set k (disP (gtP l k))) else none) else if (gtP l k).nm 73 = 3 then orO (agrO l k) (rotO l k) else if (gtP l k).nm 73 = 4 then (dsgO (gtP l k)).map (fun q => l.set k q) else if (gtP l k).nm 73 = 5 then (if stopB (gtP l k) = true then some (l.set k (blkP (gtP l k))) else none) else if (gtP l k).nm 73 = 6 then orO (agrO l k) (altO l k) else none
/-- The definition's step. -/
def refO (l : List Pt) (k : Nat) : Option (List Pt) :=
  if (decide ((gtP l k).nm 73 < 1) || decide (6 < (gtP l k).nm 73)) = true then some (l.set k (begP (gtP l k))) else if (!(gtP l k).bt 22 || (gtP l k).bt 28) = true then none else if ((gtP l k).nm 31 != (gtP l k).nm 30) = true then some (l.set k (rolP (gtP l k))) else stO l k
theorem first_cons (b : Bool) (F : Nat) (r : List (Bool × Nat)) (k : Nat) (l : List Pt) : ((firstF ((b, F) :: r)).map fun F => fnOf F k l) = if b = true then some (fnOf F k l) else ((firstF r).map fun F => fnOf F k l) := by
  cases b <;> rfl
theorem first_nil (k : Nat) (l : List Pt) : ((firstF []).map fun F => fnOf F k l) = none := rfl
theorem fn_begin (k : Nat) (l : List Pt) : fnOf 29 k l = l.set k (begP (gtP l k)) := rfl
theorem fn_takeRole (k : Nat) (l : List Pt) : fnOf 30 k l = l.set k (rolP (gtP l k)) := rfl
theorem fn_disabled (k : Nat) (l : List Pt) : fnOf 43 k l = l.set k (disP (gtP l k)) := rfl
theorem fn_blocked (k : Nat) (l : List Pt) : fnOf 47 k l = l.set k (blkP (gtP l k)) := rfl
theorem fn_agreeAsRoot (k : Nat) (l : List Pt) : fnOf 55 k l = l.set k (agrRP (gtP l k)) := rfl
theorem fn_agree (k : Nat) (l : List Pt) : fnOf 66 k l = l.set k (agrP (gtP l k)) := rfl
theorem fn_reRooted (k : Nat) (l : List Pt) : fnOf 57 k l = l.set k (rrdP (gtP l k)) := rfl
theorem fn_learn (k : Nat) (l : List Pt) : fnOf 58 k l = l.set k (lrnP (gtP l k)) := rfl
theorem fn_forward (k : Nat) (l : List Pt) : fnOf 59 k l = l.set k (fwdP (gtP l k)) := rfl
theorem fn_recent (k : Nat) (l : List Pt) : fnOf 60 k l = l.set k (rcnP (gtP l k)) := rfl
theorem fn_propose (k : Nat) (l : List Pt) : fnOf 62 k l = l.set k (prsP (gtP l k)) := rfl
theorem fn_synced (k : Nat) (l : List Pt) : fnOf 63 k l = l.set k (synP (gtP l k)) := rfl
theorem fn_stop (k : Nat) (l : List Pt) : fnOf 64 k l = l.set k (stpP (gtP l k)) := rfl
theorem fn_forwardAsDesignated (k : Nat) (l : List Pt) : fnOf 65 k l = l.set k (fwdDP (gtP l k)) := rfl
theorem fn_backup (k : Nat) (l : List Pt) : fnOf 68 k l = l.set k (bkuP (gtP l k)) := rfl
theorem fn_bringInStep (k : Nat) (l : List Pt) : fnOf 71 k l = (l.set k (prdP (gtP l k))).map syncP := rfl
theorem fn_askReRoot (k : Nat) (l : List Pt) : fnOf 56 k l = l.map rerP := rfl
theorem dsg_eq (l : List Pt) (k : Nat) : ((firstF (dsgR (gtP l k))).map fun F => fnOf F k l) = (dsgO (gtP l k)).map (fun q => l.set k q) := by
  unfold dsgR dsgO
  simp only [first_cons, first_nil, fn_begin, fn_takeRole, fn_disabled, fn_blocked, fn_agreeAsRoot, fn_agree, fn_reRooted, fn_learn, fn_forward, fn_recent, fn_propose, fn_synced, fn_stop, fn_forwardAsDesignated, fn_backup, fn_bringInStep, fn_askReRoot]
  (repeat' split) <;> rfl
theorem root_eq {l : List Pt} {k : Nat} (h : (gtP l k).nm 73 = 3) : ((firstF (rootR l k)).map fun F => fnOf F k l) = orO (agrO l k) (rotO l k) := by
  unfold rootR agrO rotO
  rw [if_pos h]
  simp only [List.cons_append, List.nil_append, first_cons, first_nil, fn_begin, fn_takeRole, fn_disabled, fn_blocked, fn_agreeAsRoot, fn_agree, fn_reRooted, fn_learn, fn_forward, fn_recent, fn_propose, fn_synced, fn_stop, fn_forwardAsDesignated, fn_backup, fn_bringInStep, fn_askReRoot]
  by_cases h1 : prpB (gtP l k) = true
  · rw [if_pos h1, if_pos h1]; rfl
  · rw [if_neg h1, if_neg h1]
    by_cases h2 : ansB l k = true
    · rw [if_pos h2, if_pos h2]; rfl
    · rw [if_neg h2, if_neg h2]; rfl
theorem alt_eq {l : List Pt} {k : Nat} (h : (gtP l k).nm 73 = 6) : ((firstF (altR l k)).map fun F => fnOf F k l) = orO (agrO l k) (altO l k) := by
  unfold altR agrO altO
  rw [if_neg (c := (gtP l k).nm 73 = 3) (by omega)]
  simp only [List.cons_append, List.nil_append, first_cons, first_nil, fn_begin, fn_takeRole, fn_disabled, fn_blocked, fn_agreeAsRoot, fn_agree, fn_reRooted, fn_learn, fn_forward, fn_recent, fn_propose, fn_synced, fn_stop, fn_forwardAsDesignated, fn_backup, fn_bringInStep, fn_askReRoot]
  by_cases h1 : prpB (gtP l k) = true
  · rw [if_pos h1, if_pos h1]; rfl
  · rw [if_neg h1, if_neg h1]
    by_cases h2 : ansB l k = true
    · rw [if_pos h2, if_pos h2]; rfl
    · rw [if_neg h2, if_neg h2]; rfl
theorem st_eq (l : List Pt) (k : Nat) : ((firstF (stR l k)).map fun F => fnOf F k l) = stO l k := by
  unfold stR stO
  by_cases h1 : (gtP l k).nm 73 = 1
  · rw [if_pos h1, if_pos h1, first_cons, first_nil, fn_disabled]
  · rw [if_neg h1, if_neg h1]
    by_cases h2 : (gtP l k).nm 73 = 2
    · rw [if_pos h2, if_pos h2, first_cons, first_nil, fn_disabled]
    · rw [if_neg h2, if_neg h2]
      by_cases h3 : (gtP l k).nm 73 = 3
      · rw [if_pos h3, if_pos h3]; exact root_eq h3
      · rw [if_neg h3, if_neg h3]
        by_cases h4 : (gtP l k).nm 73 = 4
        · rw [if_pos h4, if_pos h4]; exact dsg_eq l k
        · rw [if_neg h4, if_neg h4]
          by_cases h5 : (gtP l k).nm 73 = 5
          · rw [if_pos h5, if_pos h5, first_cons, first_nil, fn_blocked]
          · rw [if_neg h5, if_neg h5]
            by_cases h6 : (gtP l k).nm 73 = 6
            · rw [if_pos h6, if_pos h6]; exact alt_eq h6
            · rw [if_neg h6, if_neg h6]; rfl
/-- THE SAME STEP. -/
theorem step_ref (l : List Pt) (k : Nat) : stepO l k = refO l k := by
  unfold stepO refO rulL
  have hb : begB (gtP l k) = !(decide ((gtP l k).nm 73 < 1) || decide (6 < (gtP l k).nm 73)) := by
    unfold begB
    by_cases h1 : (gtP l k).nm 73 < 1 <;> by_cases h2 : 6 < (gtP l k).nm 73
    · omega
    · simp [h1, h2]
    · simp [h1, h2]
    · simp [h1, h2]; omega
  rw [hb]
  cases hx : (decide ((gtP l k).nm 73 < 1) || decide (6 < (gtP l k).nm 73))
  · simp only [Bool.not_false, Bool.true_and, Bool.not_true, Bool.false_eq_true, if_false]
    by_cases h1 : (!(gtP l k).bt 22 || (gtP l k).bt 28) = true
    · rw [if_pos h1, if_pos h1]; rfl
    · rw [if_neg h1, if_neg h1, List.cons_append, List.cons_append, List.nil_append, first_cons, first_cons, fn_takeRole, st_eq]
      simp only [Bool.false_eq_true, if_false]
  · simp only [Bool.not_true, Bool.false_and, Bool.false_eq_true, if_false, Bool.not_false, if_true]
    rw [List.cons_append, first_cons, if_pos rfl, fn_begin]
attribute [local go_sem ↓] ldP stP stB stU stW ldT stT
attribute [local go_sem ↓] alP
attribute [local go_sem] alP_run
set_option maxHeartbeats 16000000 in
theorem rst_in (h : Hd) (g o n c : Nat) (l : List Pt) (k : Nat) (w : World) (hs : SlAt w (some ⟨g, o, none⟩) n c l) (hn : n ≤ 1000) (hk : k < n) :
    Calls Try.prog 10 #[.agg (trc h (.slice (some ⟨g, o, none⟩) n c)), .int .i64 (k : Int)] w fun r w' => ∃ a' c', r = .returned (.tuple #[.agg (trc h (.slice a' n c')), .bool (refO l k).isSome]) ∧ SlAt w' a' n c' ((refO l k).getD l) ∧ Below w.heap.size w w' := by
  obtain ⟨OO, hOO⟩ : ∃ z, refO l k = z := ⟨_, rfl⟩
  rw [hOO]
  have EO : Hid (refO l k = OO) := hOO
  clear hOO
  have HL : Hid (l.length = n) := hs.len
  have hkl : k < l.length := by rw [HL.out]; exact hk
  have hin0 : (0 : Int) ≤ (k : Int) := by omega
  have hin1 : (k : Int) < (n : Int) := by omega
  obtain ⟨W, hW, r0, r1, bW, zW⟩ := two_t w h (.slice (some ⟨g, o, none⟩) n c)
  have l0 := r0.tld
  have c16 := r0.t16
  have H : Hid (TS w W w.heap.size (w.heap.size + 1) h (.slice (some ⟨g, o, none⟩) n c) ∧ SlAt W (some ⟨g, o, none⟩) n c l ∧ W.heap.size = w.heap.size + 2) := ⟨⟨r0, r1, bW, by omega⟩, hs.below bW, zW⟩
  have GL : Hid (g < w.heap.size) := hs.low (by omega)
  obtain ⟨p, hp⟩ : ∃ p, gtP l k = p := ⟨_, rfl⟩
  have HP : Hid (gtP l k = p) := hp
  obtain ⟨N, hN⟩ : ∃ N, p.nm 73 = N := ⟨_, rfl⟩
  have EN : Hid (p.nm 73 = N) := hN
  obtain ⟨C0, hC0⟩ : ∃ z, (decide (p.nm 73 < 1) || decide (6 < p.nm 73)) = z := ⟨_, rfl⟩
  have EC0 : Hid ((decide (p.nm 73 < 1) || decide (6 < p.nm 73)) = C0) := hC0
  obtain ⟨C1, hC1⟩ : ∃ z, (!p.bt 22 || p.bt 28) = z := ⟨_, rfl⟩
  have EC1 : Hid ((!p.bt 22 || p.bt 28) = C1) := hC1
  obtain ⟨C2, hC2⟩ : ∃ z, (p.nm 31 != p.nm 30) = z := ⟨_, rfl⟩
  have EC2 : Hid ((p.nm 31 != p.nm 30) = C2) := hC2
  obtain ⟨CS_, hCS⟩ : ∃ z, (!p.bt 10 && !p.bt 8) = z := ⟨_, rfl⟩
  have ECS : Hid (stopB p = CS_) := hCS
  have HCS : Hid ((!p.bt 10 && !p.bt 8) = CS_) := hCS
  clear hs r0 r1 bW zW hC0 hC1 hC2 hCS c16 hN hp
  go_enter Try.func10, Try.ntmps10
  go_wp2_with fail
  refine (has_any h (some ⟨g, o, none⟩) n c (k : Int) W hn).mono ?_
  rintro _ V1 ⟨rfl, b1⟩
  have eb : (decide (0 ≤ (k : Int)) && decide ((k : Int) < (n : Int))) = true := by simp; omega
  rw [eb]
  clear eb
  have T0 : Hid (TS w V1 w.heap.size (w.heap.size + 1) h (.slice (some ⟨g, o, none⟩) n c) ∧ SlAt V1 (some ⟨g, o, none⟩) n c l ∧ w.heap.size ≤ V1.heap.size) := ⟨H.out.1.below b1, H.out.2.1.below b1, by have := H.out.2.2; have := b1.size; omega⟩
  clear b1 l0 H
  have c16 := T0.out.1.var.t16
  have lp := T0.out.2.1.ld (gtP_at hkl)
  rw [HP.out] at lp
  obtain ⟨W0, s0, r0, b0, z0⟩ := var_p V1 p
  obtain ⟨Z, hZ⟩ : ∃ Z, V1.heap.size = Z := ⟨_, rfl⟩
  rw [hZ] at s0 r0
  have P0 : Hid (TP w W0 w.heap.size (w.heap.size + 1) Z h g o n c l p) := ⟨T0.out.1.below b0, T0.out.2.1.below b0, r0, by have := T0.out.2.2; omega, GL.out⟩
  have R := r0.rdE
  clear r0 b0 z0 T0
  go_upto_region 4 with fail
  refine wp_plain (C := fun w' => w' = W0) rfl ?_
  refine q_put (v := .pointer (some ⟨Z, 0 + 73, none⟩)) (yq rfl (Rn.qt (qfield rfl rfl fp46))) ?_
  try simp only [Act.put, List.setIfInBounds_toArray, List.set_cons_zero, List.set_cons_succ]
  refine q_put (v := .int .i64 (p.nm 73)) (yq rfl (Rn.qt (qload rfl rfl (R.state rfl)))) ?_
  try simp only [Act.put, List.setIfInBounds_toArray, List.set_cons_zero, List.set_cons_succ]
  refine q_put (v := .bool (decide ((p.nm 73) < 1))) (yq rfl (Rn.qt (qbin rfl rfl rfl (eg_state _ _ _ _ _) (lt_state _ _)))) ?_
  try simp only [Act.put, List.setIfInBounds_toArray, List.set_cons_zero, List.set_cons_succ]
  refine q_put (v := .bool (decide ((p.nm 73) < 1))) (yq rfl (Rn.qt (qmove rfl rfl))) ?_
  try simp only [Act.put, List.setIfInBounds_toArray, List.set_cons_zero, List.set_cons_succ]
  refine q_put (v := gd (decide ((p.nm 73) < 1)) false (.pointer (some ⟨Z, 0 + 73, none⟩))) (yq1 rfl rfl (fun e => Rn.qt (qfield rfl rfl fp46))) ?_
  try simp only [Act.put, List.setIfInBounds_toArray, List.set_cons_zero, List.set_cons_succ]
  refine q_put (v := gd (decide ((p.nm 73) < 1)) false (.int .i64 (p.nm 73))) (yq1 rfl rfl (fun e => Rn.qt (qload rfl (on e rfl) (R.state rfl)))) ?_
  try simp only [Act.put, List.setIfInBounds_toArray, List.set_cons_zero, List.set_cons_succ]
  refine q_put (v := gd (decide ((p.nm 73) < 1)) false (.bool (decide (6 < (p.nm 73))))) (yq1 rfl rfl (fun e => Rn.qt (qbin rfl (on e rfl) rfl (eg_state _ _ _ _ _) (gt_state _ _)))) ?_
  try simp only [Act.put, List.setIfInBounds_toArray, List.set_cons_zero, List.set_cons_succ]
  refine q_put (v := .bool ((decide ((p.nm 73) < 1)) || (decide (6 < (p.nm 73))))) (yq rfl (Rn.qt (qpick rfl rfl (pkO rfl rfl)))) ?_
  try simp only [Act.put, List.setIfInBounds_toArray, List.set_cons_zero, List.set_cons_succ]
  refine q_put (v := .bool ((decide ((p.nm 73) < 1)) || (decide (6 < (p.nm 73))))) (yq rfl (Rn.qt (qassign rfl rfl))) ?_
  try simp only [Act.put, List.setIfInBounds_toArray, List.set_cons_zero, List.set_cons_succ]
  refine wpQuiet_nil ?_
  rintro y_ hy_
  rw [hy_]
  clear hy_ y_
  clear c16 lp s0 hZ
  rw [EC0.out]
  cases C0
  rotate_left
  · have E : OO = some (l.set k (rbegP p)) := by
      rw [← EO.out]
      unfold refO
      rw [HP.out, if_pos EC0.out, beg_ref]
    have ft := fun x : Later W0 => (P0.out.below x.below).tre.var.tld
    have fp := fun x : Later W0 => (P0.out.below x.below).pv.pld
    have P1 : Hid (∀ x : Later W0, _) := fun x : Later W0 => rbeg_any p x.val
    go_upto_region 5 with fail
    refine wp_region_later_tail 4 (by kernel_rfl) (by kernel_rfl) ?_
    simp only [List.take_succ_cons, List.take_zero]
    repeat (go_big_quiet_step (first | exact rfl | (go_at_call 18; with_reducible exact Calls.later_of (P1.out _))))
    refine wpQuiet_nil ?_
    intro z
    simp only [List.drop_succ_cons, List.drop_zero]
    have TZ : Hid (TP w z.val w.heap.size (w.heap.size + 1) Z h g o n c l p) := P0.out.below z.below
    clear ft fp P1
    go_wp2_with fail
    refine (with_any h (some ⟨g, o, none⟩) n c l k (rbegP p) _ TZ.out.sl hn hk).mono ?_
    rintro _ Y ⟨g2, c2, rfl, hg2, s2, b2⟩
    obtain ⟨U, sU, h1, h2, gU⟩ := (TZ.out.tre.below b2).tell (y := .slice (some ⟨g2, 0, none⟩) n c2) rfl
    have G : Hid (RvAt U (w.heap.size + 1) 31 (trc h (.slice (some ⟨g2, 0, none⟩) n c2)) ∧ SlAt U (some ⟨g2, 0, none⟩) n c2 (OO.getD l) ∧ Below w.heap.size w U ∧ OO.isSome = true) := by
      rw [E]
      exact ⟨h1, s2.keptT (TZ.out.tre.below b2).out gU, h2, rfl⟩
    clear h1 h2 gU s2 b2 hg2 TZ
    go_wp2
    refine bodyPost_ret (results_rowtmp rtT Try.results10 _ _ _ _ rfl G.out.1 (trc_size _ _)) rfl ?_
    exact ⟨some ⟨g2, 0, none⟩, c2, by rw [G.out.2.2.2]; rfl, G.out.2.1, G.out.2.2.1⟩
  go_upto_region 6 with fail
  refine wp_plain (C := fun w' => w' = W0) rfl ?_
  refine q_put (v := .pointer (some ⟨Z, 0 + 22, none⟩)) (yq rfl (Rn.qt (qfield rfl rfl fp22))) ?_
  try simp only [Act.put, List.setIfInBounds_toArray, List.set_cons_zero, List.set_cons_succ]
  refine q_put (v := .bool (p.bt 22)) (yq rfl (Rn.qt (qload rfl rfl (R.bit rfl)))) ?_
  try simp only [Act.put, List.setIfInBounds_toArray, List.set_cons_zero, List.set_cons_succ]
  refine q_put (v := .bool (!(p.bt 22))) (yq rfl (Rn.qt (qnot rfl rfl))) ?_
  try simp only [Act.put, List.setIfInBounds_toArray, List.set_cons_zero, List.set_cons_succ]
  refine q_put (v := .bool (!(p.bt 22))) (yq rfl (Rn.qt (qmove rfl rfl))) ?_
  try simp only [Act.put, List.setIfInBounds_toArray, List.set_cons_zero, List.set_cons_succ]
  refine q_put (v := gd (!(p.bt 22)) false (.pointer (some ⟨Z, 0 + 28, none⟩))) (yq1 rfl rfl (fun e => Rn.qt (qfield rfl rfl fp28))) ?_
  try simp only [Act.put, List.setIfInBounds_toArray, List.set_cons_zero, List.set_cons_succ]
  refine q_put (v := gd (!(p.bt 22)) false (.bool (p.bt 28))) (yq1 rfl rfl (fun e => Rn.qt (qload rfl (on e rfl) (R.bit rfl)))) ?_
  try simp only [Act.put, List.setIfInBounds_toArray, List.set_cons_zero, List.set_cons_succ]
  refine q_put (v := .bool ((!(p.bt 22)) || (p.bt 28))) (yq rfl (Rn.qt (qpick rfl rfl (pkO rfl rfl)))) ?_
  try simp only [Act.put, List.setIfInBounds_toArray, List.set_cons_zero, List.set_cons_succ]
  refine q_put (v := .bool ((!(p.bt 22)) || (p.bt 28))) (yq rfl (Rn.qt (qassign rfl rfl))) ?_
  try simp only [Act.put, List.setIfInBounds_toArray, List.set_cons_zero, List.set_cons_succ]
  refine wpQuiet_nil ?_
  rintro y_ hy_
  rw [hy_]
  clear hy_ y_
  rw [EC1.out]
  cases C1
  rotate_left
  · have E : OO = none := by
      rw [← EO.out]
      unfold refO
      rw [HP.out, if_neg (by rw [EC0.out]; decide), if_pos EC1.out]
    have lt_ := (P0.out).tre.var.tld
    obtain ⟨U, sU, h1, h2, gU⟩ := (P0.out).tre.tell (y := .slice (some ⟨g, o, none⟩) n c) rfl
    have G : Hid (RvAt U (w.heap.size + 1) 31 (trc h (.slice (some ⟨g, o, none⟩) n c)) ∧ SlAt U (some ⟨g, o, none⟩) n c (OO.getD l) ∧ Below w.heap.size w U ∧ OO.isSome = false) := by
      rw [E]
      exact ⟨h1, (P0.out).sl.keptT (P0.out).tre.out gU, h2, rfl⟩
    clear h1 h2 gU E R
    go_wp2
    refine bodyPost_ret (results_rowtmp rtT Try.results10 _ _ _ _ rfl G.out.1 (trc_size _ _)) rfl ?_
    exact ⟨some ⟨g, o, none⟩, c, by rw [G.out.2.2.2]; rfl, G.out.2.1, G.out.2.2.1⟩
  go_upto_region 8 with fail
  refine wp_plain (C := fun w' => w' = W0) rfl ?_
  refine q_put (v := .pointer (some ⟨Z, 0 + 31, none⟩)) (yq rfl (Rn.qt (qfield rfl rfl fp31))) ?_
  try simp only [Act.put, List.setIfInBounds_toArray, List.set_cons_zero, List.set_cons_succ]
  refine q_put (v := .int .i64 (p.nm 31)) (yq rfl (Rn.qt (qload rfl rfl (R.role rfl)))) ?_
  try simp only [Act.put, List.setIfInBounds_toArray, List.set_cons_zero, List.set_cons_succ]
  refine q_put (v := .pointer (some ⟨Z, 0 + 30, none⟩)) (yq rfl (Rn.qt (qfield rfl rfl fp30))) ?_
  try simp only [Act.put, List.setIfInBounds_toArray, List.set_cons_zero, List.set_cons_succ]
  refine q_put (v := .int .i64 (p.nm 30)) (yq rfl (Rn.qt (qload rfl rfl (R.role rfl)))) ?_
  try simp only [Act.put, List.setIfInBounds_toArray, List.set_cons_zero, List.set_cons_succ]
  refine q_put (v := .bool ((p.nm 31) != (p.nm 30))) (yq rfl (Rn.qt (qbin rfl rfl rfl (eg_role _ _ _ _ _) (ne_role _ _)))) ?_
  try simp only [Act.put, List.setIfInBounds_toArray, List.set_cons_zero, List.set_cons_succ]
  refine q_put (v := .bool ((p.nm 31) != (p.nm 30))) (yq rfl (Rn.qt (qassign rfl rfl))) ?_
  try simp only [Act.put, List.setIfInBounds_toArray, List.set_cons_zero, List.set_cons_succ]
  refine wpQuiet_nil ?_
  rintro y_ hy_
  rw [hy_]
  clear hy_ y_
  rw [EC2.out]
  cases C2
  rotate_left
  · have E : OO = some (l.set k (rolP p)) := by
      rw [← EO.out]
      unfold refO
      rw [HP.out, if_neg (by rw [EC0.out]; decide), if_neg (by rw [EC1.out]; decide), if_pos EC2.out]
    have ft := fun x : Later W0 => (P0.out.below x.below).tre.var.tld
    have fp := fun x : Later W0 => (P0.out.below x.below).pv.pld
    have P1 : Hid (∀ x : Later W0, _) := fun x : Later W0 => rrol_any p x.val
    go_upto_region 9 with fail
    refine wp_region_later_tail 4 (by kernel_rfl) (by kernel_rfl) ?_
    simp only [List.take_succ_cons, List.take_zero]
    repeat (go_big_quiet_step (first | exact rfl | (go_at_call 19; with_reducible exact Calls.later_of (P1.out _))))
    refine wpQuiet_nil ?_
    intro z
    simp only [List.drop_succ_cons, List.drop_zero]
    have TZ : Hid (TP w z.val w.heap.size (w.heap.size + 1) Z h g o n c l p) := P0.out.below z.below
    clear ft fp P1
    go_wp2_with fail
    refine (with_any h (some ⟨g, o, none⟩) n c l k (rolP p) _ TZ.out.sl hn hk).mono ?_
    rintro _ Y ⟨g2, c2, rfl, hg2, s2, b2⟩
    obtain ⟨U, sU, h1, h2, gU⟩ := (TZ.out.tre.below b2).tell (y := .slice (some ⟨g2, 0, none⟩) n c2) rfl
    have G : Hid (RvAt U (w.heap.size + 1) 31 (trc h (.slice (some ⟨g2, 0, none⟩) n c2)) ∧ SlAt U (some ⟨g2, 0, none⟩) n c2 (OO.getD l) ∧ Below w.heap.size w U ∧ OO.isSome = true) := by
      rw [E]
      exact ⟨h1, s2.keptT (TZ.out.tre.below b2).out gU, h2, rfl⟩
    clear h1 h2 gU s2 b2 hg2 TZ
    go_wp2
    refine bodyPost_ret (results_rowtmp rtT Try.results10 _ _ _ _ rfl G.out.1 (trc_size _ _)) rfl ?_
    exact ⟨some ⟨g2, 0, none⟩, c2, by rw [G.out.2.2.2]; rfl, G.out.2.1, G.out.2.2.1⟩
  have ES0 : OO = stO l k := by
    rw [← EO.out]
    unfold refO
    rw [HP.out, if_neg (by rw [EC0.out]; decide), if_neg (by rw [EC1.out]; decide), if_neg (by rw [EC2.out]; decide)]
  have ES : Hid (OO = stO l k) := ES0
  clear ES0
  have hN16 : 1 ≤ N ∧ N ≤ 6 := by
    have := EC0.out
    rw [EN.out] at this
    simp only [Bool.or_eq_false_iff, decide_eq_false_iff_not] at this
    omega
  have l73 := P0.out.pv.pnum (j := 73) (k := .i64) rfl
  rw [EN.out] at l73
  clear EO EC0 EC1 EC2
  by_cases h1 : N = 1
  · have ESN : OO = (if stopB p = true then some (l.set k (disP p)) else none) := by
      rw [ES.out]
      unfold stO
      rw [HP.out, EN.out, h1]
      rfl
    subst h1
    go_upto_region 12 with fail
    refine wp_plain (C := fun w' => w' = W0) rfl ?_
    refine q_put (v := .pointer (some ⟨Z, 0 + 10, none⟩)) (yq rfl (Rn.qt (qfield rfl rfl fp10))) ?_
    try simp only [Act.put, List.setIfInBounds_toArray, List.set_cons_zero, List.set_cons_succ]
    refine q_put (v := .bool (p.bt 10)) (yq rfl (Rn.qt (qload rfl rfl (R.bit rfl)))) ?_
    try simp only [Act.put, List.setIfInBounds_toArray, List.set_cons_zero, List.set_cons_succ]
    refine q_put (v := .bool (!(p.bt 10))) (yq rfl (Rn.qt (qnot rfl rfl))) ?_
    try simp only [Act.put, List.setIfInBounds_toArray, List.set_cons_zero, List.set_cons_succ]
    refine q_put (v := .bool (!(p.bt 10))) (yq rfl (Rn.qt (qmove rfl rfl))) ?_
    try simp only [Act.put, List.setIfInBounds_toArray, List.set_cons_zero, List.set_cons_succ]
    refine q_put (v := gd (!(p.bt 10)) true (.pointer (some ⟨Z, 0 + 8, none⟩))) (yq1 rfl rfl (fun e => Rn.qt (qfield rfl rfl fp8))) ?_
    try simp only [Act.put, List.setIfInBounds_toArray, List.set_cons_zero, List.set_cons_succ]
    refine q_put (v := gd (!(p.bt 10)) true (.bool (p.bt 8))) (yq1 rfl rfl (fun e => Rn.qt (qload rfl (on e rfl) (R.bit rfl)))) ?_
    try simp only [Act.put, List.setIfInBounds_toArray, List.set_cons_zero, List.set_cons_succ]
    refine q_put (v := gd (!(p.bt 10)) true (.bool (!(p.bt 8)))) (yq1 rfl rfl (fun e => Rn.qt (qnot rfl (on e rfl)))) ?_
    try simp only [Act.put, List.setIfInBounds_toArray, List.set_cons_zero, List.set_cons_succ]
    refine q_put (v := .bool ((!(p.bt 10)) && (!(p.bt 8)))) (yq rfl (Rn.qt (qpick rfl rfl (pkA rfl rfl)))) ?_
    try simp only [Act.put, List.setIfInBounds_toArray, List.set_cons_zero, List.set_cons_succ]
    refine wpQuiet_nil ?_
    rintro y_ hy_
    rw [hy_]
    clear hy_ y_
    rw [HCS.out]
    clear R
    cases CS_
    · have E : OO = none := by rw [ESN, if_neg (by rw [ECS.out]; decide)]
      clear ESN
      have lt_ := (P0.out).tre.var.tld
      obtain ⟨U, sU, h1, h2, gU⟩ := (P0.out).tre.tell (y := .slice (some ⟨g, o, none⟩) n c) rfl
      have G : Hid (RvAt U (w.heap.size + 1) 31 (trc h (.slice (some ⟨g, o, none⟩) n c)) ∧ SlAt U (some ⟨g, o, none⟩) n c (OO.getD l) ∧ Below w.heap.size w U ∧ OO.isSome = false) := by
        rw [E]
        exact ⟨h1, (P0.out).sl.keptT (P0.out).tre.out gU, h2, rfl⟩
      clear h1 h2 gU E
      go_wp2
      refine bodyPost_ret (results_rowtmp rtT Try.results10 _ _ _ _ rfl G.out.1 (trc_size _ _)) rfl ?_
      exact ⟨some ⟨g, o, none⟩, c, by rw [G.out.2.2.2]; rfl, G.out.2.1, G.out.2.2.1⟩
    · have E : OO = some (l.set k (rstP p (p.nm 41) 2 wi2)) := by rw [ESN, if_pos ECS.out, dis_ref]
      clear ESN
      have ft := fun x : Later W0 => (P0.out.below x.below).tre.var.tld
      have fp := fun x : Later W0 => (P0.out.below x.below).pv.pld
      have fm := fun x : Later W0 => (P0.out.below x.below).pv.pnum (j := 41) (k := .u8) rfl
      have P1 : Hid (∀ x : Later W0, _) := fun x : Later W0 => rrst_any p (p.nm 41) 2 x.val (p.u8 rfl) wi2
      go_upto_region 13 with fail
      refine wp_region_later_tail 7 (by kernel_rfl) (by kernel_rfl) ?_
      simp only [List.take_succ_cons, List.take_zero]
      repeat (go_big_quiet_step (first | exact rfl | (go_at_call 20; with_reducible exact Calls.later_of (P1.out _))))
      refine wpQuiet_nil ?_
      intro z
      simp only [List.drop_succ_cons, List.drop_zero]
      have TZ : Hid (TP w z.val w.heap.size (w.heap.size + 1) Z h g o n c l p) := P0.out.below z.below
      clear ft fp P1 fm
      go_wp2_with fail
      refine (with_any h (some ⟨g, o, none⟩) n c l k (rstP p (p.nm 41) 2 wi2) _ TZ.out.sl hn hk).mono ?_
      rintro _ Y ⟨g2, c2, rfl, hg2, s2, b2⟩
      obtain ⟨U, sU, h1, h2, gU⟩ := (TZ.out.tre.below b2).tell (y := .slice (some ⟨g2, 0, none⟩) n c2) rfl
      have G : Hid (RvAt U (w.heap.size + 1) 31 (trc h (.slice (some ⟨g2, 0, none⟩) n c2)) ∧ SlAt U (some ⟨g2, 0, none⟩) n c2 (OO.getD l) ∧ Below w.heap.size w U ∧ OO.isSome = true) := by
        rw [E]
        exact ⟨h1, s2.keptT (TZ.out.tre.below b2).out gU, h2, rfl⟩
      clear h1 h2 gU s2 b2 hg2 TZ
      go_wp2
      refine bodyPost_ret (results_rowtmp rtT Try.results10 _ _ _ _ rfl G.out.1 (trc_size _ _)) rfl ?_
      exact ⟨some ⟨g2, 0, none⟩, c2, by rw [G.out.2.2.2]; rfl, G.out.2.1, G.out.2.2.1⟩
  by_cases h5 : N = 5
  · have ESN : OO = (if stopB p = true then some (l.set k (blkP p)) else none) := by
      rw [ES.out]
      unfold stO
      rw [HP.out, EN.out, h5]
      rfl
    subst h5
    go_upto_region 24 with fail
    refine wp_plain (C := fun w' => w' = W0) rfl ?_
    refine q_put (v := .pointer (some ⟨Z, 0 + 10, none⟩)) (yq rfl (Rn.qt (qfield rfl rfl fp10))) ?_
    try simp only [Act.put, List.setIfInBounds_toArray, List.set_cons_zero, List.set_cons_succ]
    refine q_put (v := .bool (p.bt 10)) (yq rfl (Rn.qt (qload rfl rfl (R.bit rfl)))) ?_
    try simp only [Act.put, List.setIfInBounds_toArray, List.set_cons_zero, List.set_cons_succ]
    refine q_put (v := .bool (!(p.bt 10))) (yq rfl (Rn.qt (qnot rfl rfl))) ?_
    try simp only [Act.put, List.setIfInBounds_toArray, List.set_cons_zero, List.set_cons_succ]
    refine q_put (v := .bool (!(p.bt 10))) (yq rfl (Rn.qt (qmove rfl rfl))) ?_
    try simp only [Act.put, List.setIfInBounds_toArray, List.set_cons_zero, List.set_cons_succ]
    refine q_put (v := gd (!(p.bt 10)) true (.pointer (some ⟨Z, 0 + 8, none⟩))) (yq1 rfl rfl (fun e => Rn.qt (qfield rfl rfl fp8))) ?_
    try simp only [Act.put, List.setIfInBounds_toArray, List.set_cons_zero, List.set_cons_succ]
    refine q_put (v := gd (!(p.bt 10)) true (.bool (p.bt 8))) (yq1 rfl rfl (fun e => Rn.qt (qload rfl (on e rfl) (R.bit rfl)))) ?_
    try simp only [Act.put, List.setIfInBounds_toArray, List.set_cons_zero, List.set_cons_succ]
    refine q_put (v := gd (!(p.bt 10)) true (.bool (!(p.bt 8)))) (yq1 rfl rfl (fun e => Rn.qt (qnot rfl (on e rfl)))) ?_
    try simp only [Act.put, List.setIfInBounds_toArray, List.set_cons_zero, List.set_cons_succ]
    refine q_put (v := .bool ((!(p.bt 10)) && (!(p.bt 8)))) (yq rfl (Rn.qt (qpick rfl rfl (pkA rfl rfl)))) ?_
    try simp only [Act.put, List.setIfInBounds_toArray, List.set_cons_zero, List.set_cons_succ]
    refine wpQuiet_nil ?_
    rintro y_ hy_
    rw [hy_]
    clear hy_ y_
    rw [HCS.out]
    clear R
    cases CS_
    · have E : OO = none := by rw [ESN, if_neg (by rw [ECS.out]; decide)]
      clear ESN
      have lt_ := (P0.out).tre.var.tld
      obtain ⟨U, sU, h1, h2, gU⟩ := (P0.out).tre.tell (y := .slice (some ⟨g, o, none⟩) n c) rfl
      have G : Hid (RvAt U (w.heap.size + 1) 31 (trc h (.slice (some ⟨g, o, none⟩) n c)) ∧ SlAt U (some ⟨g, o, none⟩) n c (OO.getD l) ∧ Below w.heap.size w U ∧ OO.isSome = false) := by
        rw [E]
        exact ⟨h1, (P0.out).sl.keptT (P0.out).tre.out gU, h2, rfl⟩
      clear h1 h2 gU E
      go_wp2
      refine bodyPost_ret (results_rowtmp rtT Try.results10 _ _ _ _ rfl G.out.1 (trc_size _ _)) rfl ?_
      exact ⟨some ⟨g, o, none⟩, c, by rw [G.out.2.2.2]; rfl, G.out.2.1, G.out.2.2.1⟩
    · have E : OO = some (l.set k (rstP p (p.nm 43) 6 wi6)) := by rw [ESN, if_pos ECS.out, blk_ref]
      clear ESN
      have ft := fun x : Later W0 => (P0.out.below x.below).tre.var.tld
      have fp := fun x : Later W0 => (P0.out.below x.below).pv.pld
      have fm := fun x : Later W0 => (P0.out.below x.below).pv.pnum (j := 43) (k := .u8) rfl
      have P1 : Hid (∀ x : Later W0, _) := fun x : Later W0 => rrst_any p (p.nm 43) 6 x.val (p.u8 rfl) wi6
      go_upto_region 25 with fail
      refine wp_region_later_tail 7 (by kernel_rfl) (by kernel_rfl) ?_
      simp only [List.take_succ_cons, List.take_zero]
      repeat (go_big_quiet_step (first | exact rfl | (go_at_call 20; with_reducible exact Calls.later_of (P1.out _))))
      refine wpQuiet_nil ?_
      intro z
      simp only [List.drop_succ_cons, List.drop_zero]
      have TZ : Hid (TP w z.val w.heap.size (w.heap.size + 1) Z h g o n c l p) := P0.out.below z.below
      clear ft fp P1 fm
      go_wp2_with fail
      refine (with_any h (some ⟨g, o, none⟩) n c l k (rstP p (p.nm 43) 6 wi6) _ TZ.out.sl hn hk).mono ?_
      rintro _ Y ⟨g2, c2, rfl, hg2, s2, b2⟩
      obtain ⟨U, sU, h1, h2, gU⟩ := (TZ.out.tre.below b2).tell (y := .slice (some ⟨g2, 0, none⟩) n c2) rfl
      have G : Hid (RvAt U (w.heap.size + 1) 31 (trc h (.slice (some ⟨g2, 0, none⟩) n c2)) ∧ SlAt U (some ⟨g2, 0, none⟩) n c2 (OO.getD l) ∧ Below w.heap.size w U ∧ OO.isSome = true) := by
        rw [E]
        exact ⟨h1, s2.keptT (TZ.out.tre.below b2).out gU, h2, rfl⟩
      clear h1 h2 gU s2 b2 hg2 TZ
      go_wp2
      refine bodyPost_ret (results_rowtmp rtT Try.results10 _ _ _ _ rfl G.out.1 (trc_size _ _)) rfl ?_
      exact ⟨some ⟨g2, 0, none⟩, c2, by rw [G.out.2.2.2]; rfl, G.out.2.1, G.out.2.2.1⟩
  by_cases h2 : N = 2
  · have ESN : OO = (if looB p 41 = true then some (l.set k (disP p)) else none) := by
      rw [ES.out]
      unfold stO
      rw [HP.out, EN.out, h2]
      rfl
    subst h2
    have lq := P0.out.pv.pld
    have l41 := P0.out.pv.pnum (j := 41) (k := .u8) rfl
    obtain ⟨CL, hCL⟩ : ∃ z, ((p.nm 65 != p.nm 41) || askP p) = z := ⟨_, rfl⟩
    have ECL : Hid (looB p 41 = CL) := hCL
    clear R
    go_wp2_with fail
    refine (rloo_any p (p.nm 41) W0).mono ?_
    rw [hCL]
    rintro _ X2 ⟨rfl, bx⟩
    have T1 : Hid (TP w X2 w.heap.size (w.heap.size + 1) Z h g o n c l p) := P0.out.below bx
    clear bx lq l41 hCL l73
    cases CL
    · have E : OO = none := by rw [ESN, if_neg (by rw [ECL.out]; decide)]
      clear ESN
      have lt_ := (T1.out).tre.var.tld
      obtain ⟨U, sU, h1, h2, gU⟩ := (T1.out).tre.tell (y := .slice (some ⟨g, o, none⟩) n c) rfl
      have G : Hid (RvAt U (w.heap.size + 1) 31 (trc h (.slice (some ⟨g, o, none⟩) n c)) ∧ SlAt U (some ⟨g, o, none⟩) n c (OO.getD l) ∧ Below w.heap.size w U ∧ OO.isSome = false) := by
        rw [E]
        exact ⟨h1, (T1.out).sl.keptT (T1.out).tre.out gU, h2, rfl⟩
      clear h1 h2 gU E
      go_wp2
      refine bodyPost_ret (results_rowtmp rtT Try.results10 _ _ _ _ rfl G.out.1 (trc_size _ _)) rfl ?_
      exact ⟨some ⟨g, o, none⟩, c, by rw [G.out.2.2.2]; rfl, G.out.2.1, G.out.2.2.1⟩
    · have E : OO = some (l.set k (rstP p (p.nm 41) 2 wi2)) := by rw [ESN, if_pos ECL.out, dis_ref]
      clear ESN
      have ft := fun x : Later X2 => (T1.out.below x.below).tre.var.tld
      have fp := fun x : Later X2 => (T1.out.below x.below).pv.pld
      have fm := fun x : Later X2 => (T1.out.below x.below).pv.pnum (j := 41) (k := .u8) rfl
      have P1 : Hid (∀ x : Later X2, _) := fun x : Later X2 => rrst_any p (p.nm 41) 2 x.val (p.u8 rfl) wi2
      go_upto_region 16 with fail
      refine wp_region_later_tail 7 (by kernel_rfl) (by kernel_rfl) ?_
      simp only [List.take_succ_cons, List.take_zero]
      repeat (go_big_quiet_step (first | exact rfl | (go_at_call 20; with_reducible exact Calls.later_of (P1.out _))))
      refine wpQuiet_nil ?_
      intro z
      simp only [List.drop_succ_cons, List.drop_zero]
      have TZ : Hid (TP w z.val w.heap.size (w.heap.size + 1) Z h g o n c l p) := T1.out.below z.below
      clear ft fp P1 fm
      go_wp2_with fail
      refine (with_any h (some ⟨g, o, none⟩) n c l k (rstP p (p.nm 41) 2 wi2) _ TZ.out.sl hn hk).mono ?_
      rintro _ Y ⟨g2, c2, rfl, hg2, s2, b2⟩
      obtain ⟨U, sU, h1, h2, gU⟩ := (TZ.out.tre.below b2).tell (y := .slice (some ⟨g2, 0, none⟩) n c2) rfl
      have G : Hid (RvAt U (w.heap.size + 1) 31 (trc h (.slice (some ⟨g2, 0, none⟩) n c2)) ∧ SlAt U (some ⟨g2, 0, none⟩) n c2 (OO.getD l) ∧ Below w.heap.size w U ∧ OO.isSome = true) := by
        rw [E]
        exact ⟨h1, s2.keptT (TZ.out.tre.below b2).out gU, h2, rfl⟩
      clear h1 h2 gU s2 b2 hg2 TZ
      go_wp2
      refine bodyPost_ret (results_rowtmp rtT Try.results10 _ _ _ _ rfl G.out.1 (trc_size _ _)) rfl ?_
      exact ⟨some ⟨g2, 0, none⟩, c2, by rw [G.out.2.2.2]; rfl, G.out.2.1, G.out.2.2.1⟩
  by_cases h3 : N = 3
  · have ESN : OO = orO (agrO l k) (rotO l k) := by
      rw [ES.out]
      unfold stO
      rw [HP.out, EN.out, h3]
      rfl
    subst h3
    have lt_ := P0.out.tre.var.tld
    obtain ⟨XO, hXO⟩ : ∃ z, orO (agrO l k) (rotO l k) = z := ⟨_, rfl⟩
    have EX : Hid (orO (agrO l k) (rotO l k) = XO) := hXO
    rw [hXO] at ESN
    have EE : Hid (OO = XO) := ESN
    clear R hXO ESN
    go_wp2_with fail
    refine (rroot_any h g o n c l k W0 P0.out.sl hn hk).mono ?_
    rw [EX.out]
    rintro _ X2 ⟨a2, c2, rfl, s2, b2⟩
    obtain ⟨U, sU, h1, h2, gU⟩ := (P0.out.tre.below b2).tell (y := .slice a2 n c2) rfl
    have G : Hid (RvAt U (w.heap.size + 1) 31 (trc h (.slice a2 n c2)) ∧ SlAt U a2 n c2 (OO.getD l) ∧ Below w.heap.size w U ∧ OO.isSome = XO.isSome) := by
      rw [EE.out]
      exact ⟨h1, s2.keptT (P0.out.tre.below b2).out gU, h2, rfl⟩
    clear h1 h2 gU s2 b2 lt_
    go_wp2
    refine bodyPost_ret (results_rowtmp rtT Try.results10 _ _ _ _ rfl G.out.1 (trc_size _ _)) rfl ?_
    exact ⟨a2, c2, by rw [G.out.2.2.2]; rfl, G.out.2.1, G.out.2.2.1⟩
  by_cases h6 : N = 6
  · have ESN : OO = orO (agrO l k) (altO l k) := by
      rw [ES.out]
      unfold stO
      rw [HP.out, EN.out, h6]
      rfl
    subst h6
    have lt_ := P0.out.tre.var.tld
    obtain ⟨XO, hXO⟩ : ∃ z, orO (agrO l k) (altO l k) = z := ⟨_, rfl⟩
    have EX : Hid (orO (agrO l k) (altO l k) = XO) := hXO
    rw [hXO] at ESN
    have EE : Hid (OO = XO) := ESN
    clear R hXO ESN
    go_wp2_with fail
    refine (ralt_any h g o n c l k W0 P0.out.sl hn hk).mono ?_
    rw [EX.out]
    rintro _ X2 ⟨a2, c2, rfl, s2, b2⟩
    obtain ⟨U, sU, h1, h2, gU⟩ := (P0.out.tre.below b2).tell (y := .slice a2 n c2) rfl
    have G : Hid (RvAt U (w.heap.size + 1) 31 (trc h (.slice a2 n c2)) ∧ SlAt U a2 n c2 (OO.getD l) ∧ Below w.heap.size w U ∧ OO.isSome = XO.isSome) := by
      rw [EE.out]
      exact ⟨h1, s2.keptT (P0.out.tre.below b2).out gU, h2, rfl⟩
    clear h1 h2 gU s2 b2 lt_
    go_wp2
    refine bodyPost_ret (results_rowtmp rtT Try.results10 _ _ _ _ rfl G.out.1 (trc_size _ _)) rfl ?_
    exact ⟨a2, c2, by rw [G.out.2.2.2]; rfl, G.out.2.1, G.out.2.2.1⟩
  by_cases h4 : N = 4
  · have ESN : OO = (dsgO p).map (fun q => l.set k q) := by
      rw [ES.out]
      unfold stO
      rw [HP.out, EN.out, h4]
      rfl
    subst h4
    have lq := P0.out.pv.pld
    obtain ⟨DO, hDO⟩ : ∃ z, dsgO p = z := ⟨_, rfl⟩
    have EDO : Hid (dsgO p = DO) := hDO
    rw [hDO] at ESN
    clear R hDO
    go_wp2_with fail
    refine (rdsg_any p W0).mono ?_
    rw [EDO.out]
    rintro _ X2 ⟨rfl, bx⟩
    obtain ⟨V2, s2, r2, bq, zq⟩ := var_p X2 (DO.getD p)
    obtain ⟨Z2, hZ2⟩ : ∃ Z, X2.heap.size = Z := ⟨_, rfl⟩
    rw [hZ2] at s2 r2
    have T1 : Hid (TP w V2 w.heap.size (w.heap.size + 1) Z h g o n c l p) := (P0.out.below bx).below bq
    have hz2 := P0.out.tre.bel.size
    have hz3 := bx.size
    have TQ_ : Hid (TP w V2 w.heap.size (w.heap.size + 1) Z2 h g o n c l (DO.getD p)) := ⟨T1.out.tre, T1.out.sl, r2, by omega, GL.out⟩
    clear bx r2 bq zq lq l73 hz2 hz3
    cases DO with
    | none =>
      have E : OO = none := ESN
      simp only [Option.isSome_none, Option.getD_none] at s2 ⊢
      clear ESN
      have lt_ := (T1.out).tre.var.tld
      obtain ⟨U, sU, h1, h2, gU⟩ := (T1.out).tre.tell (y := .slice (some ⟨g, o, none⟩) n c) rfl
      have G : Hid (RvAt U (w.heap.size + 1) 31 (trc h (.slice (some ⟨g, o, none⟩) n c)) ∧ SlAt U (some ⟨g, o, none⟩) n c (OO.getD l) ∧ Below w.heap.size w U ∧ OO.isSome = false) := by
        rw [E]
        exact ⟨h1, (T1.out).sl.keptT (T1.out).tre.out gU, h2, rfl⟩
      clear h1 h2 gU E
      go_wp2
      refine bodyPost_ret (results_rowtmp rtT Try.results10 _ _ _ _ rfl G.out.1 (trc_size _ _)) rfl ?_
      exact ⟨some ⟨g, o, none⟩, c, by rw [G.out.2.2.2]; rfl, G.out.2.1, G.out.2.2.1⟩
    | some q =>
      have E : OO = some (l.set k q) := ESN
      have SQ : Hid (TP w V2 w.heap.size (w.heap.size + 1) Z2 h g o n c l q) := TQ_.out
      simp only [Option.isSome_some, Option.getD_some] at s2 ⊢
      have lt_ := SQ.out.tre.var.tld
      have lp_ := SQ.out.pv.pld
      clear ESN TQ_
      go_wp2_with fail
      refine (with_any h (some ⟨g, o, none⟩) n c l k q _ SQ.out.sl hn hk).mono ?_
      rintro _ X3 ⟨g2, c2, rfl, hg2, s3, b3⟩
      obtain ⟨U, sU, h1, h2, gU⟩ := (SQ.out.tre.below b3).tell (y := .slice (some ⟨g2, 0, none⟩) n c2) rfl
      have G : Hid (RvAt U (w.heap.size + 1) 31 (trc h (.slice (some ⟨g2, 0, none⟩) n c2)) ∧ SlAt U (some ⟨g2, 0, none⟩) n c2 (OO.getD l) ∧ Below w.heap.size w U ∧ OO.isSome = true) := by
        rw [E]
        exact ⟨h1, s3.keptT (SQ.out.tre.below b3).out gU, h2, rfl⟩
      clear h1 h2 gU s3 b3 hg2 lt_ lp_ SQ
      go_wp2
      refine bodyPost_ret (results_rowtmp rtT Try.results10 _ _ _ _ rfl G.out.1 (trc_size _ _)) rfl ?_
      exact ⟨some ⟨g2, 0, none⟩, c2, by rw [G.out.2.2.2]; rfl, G.out.2.1, G.out.2.2.1⟩
  omega
set_option maxHeartbeats 4000000 in
theorem rstep_any (h : Hd) (a : Option Addr) (n c : Nat) (l : List Pt) (i : Int) (w : World) (hs : SlAt w a n c l) (hn : n ≤ 1000) :
    Calls Try.prog 10 #[.agg (trc h (.slice a n c)), .int .i64 i] w fun r w' => ∃ a' c', r = .returned (.tuple #[.agg (trc h (.slice a' n c')), .bool (stepB l i)]) ∧ SlAt w' a' n c' (stepL l i) ∧ Below w.heap.size w w' := by
  by_cases hi : 0 ≤ i ∧ i < (n : Int)
  · obtain ⟨k, hk⟩ : ∃ k : Nat, i = (k : Int) := ⟨i.toNat, by omega⟩
    subst hk
    have hkn : k < n := by omega
    obtain ⟨g, o, rfl⟩ := hs.some' (by omega)
    obtain ⟨e1, e2⟩ := step_in (l := l) (k := k) (by rw [hs.len]; exact hkn)
    rw [e1, e2, step_ref]
    exact rst_in h g o n c l k w hs hn hkn
  · obtain ⟨e1, e2⟩ := step_out (l := l) (i := i) (by rw [hs.len]; exact hi)
    rw [e1, e2]
    obtain ⟨W, hW, r0, r1, bW, zW⟩ := two_t w h (.slice a n c)
    have l0 := r0.tld
    have H : Hid (SlAt W a n c l ∧ TS w W w.heap.size (w.heap.size + 1) h (.slice a n c)) := ⟨hs.below bW, r0, r1, bW, by omega⟩
    clear hs r0 r1 bW zW e1 e2
    go_enter Try.func10, Try.ntmps10
    go_wp2_with fail
    refine (has_any h a n c i W hn).mono ?_
    rintro _ W1 ⟨rfl, b1⟩
    have eb : (decide (0 ≤ i) && decide (i < (n : Int))) = false := by simp; omega
    rw [eb]
    have H1 : Hid (SlAt W1 a n c l ∧ TS w W1 w.heap.size (w.heap.size + 1) h (.slice a n c)) := ⟨H.out.1.below b1, H.out.2.below b1⟩
    have l1 := H1.out.2.var.tld
    obtain ⟨U, sU, h1, h2, g⟩ := H1.out.2.tell (y := .slice a n c) rfl
    have G : Hid (RvAt U (w.heap.size + 1) 31 (trc h (.slice a n c)) ∧ SlAt U a n c l ∧ Below w.heap.size w U) := ⟨h1, H1.out.1.keptT H1.out.2.out g, h2⟩
    clear h1 h2 g H1 hi l0 eb b1 H hW
    go_wp2
    refine bodyPost_ret (results_rowtmp rtT Try.results10 _ _ _ _ rfl G.out.1 (trc_size _ _)) rfl ?_
    exact ⟨a, c, rfl, G.out.2.1, G.out.2.2⟩
end Go.Proofs.Ytdlleecfmebenaa
