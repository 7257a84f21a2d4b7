/-
  HeardOnly: its walk, for every port and message.
-/
import Derived.Test.YtlnammicialacabLAges
namespace Go.Proofs.Ytlnammicialacab
set_option linter.unusedVariables false
set_option maxRecDepth 4000
set_option linter.unusedSimpArgs false
open Go.RowKit

theorem two_pm (w : World) (p : Pt) (m : Mg) : ∃ W, (w.alloc (.cells p.cs 36)).alloc (.cells m.cs 33) = W ∧ RvAt W w.heap.size 36 p.cs ∧ RvAt W (w.heap.size + 1) 33 m.cs ∧ Below w.heap.size w W ∧ W.heap.size = w.heap.size + 2 := by
  obtain ⟨A, hA, rA, bA, zA⟩ := new_p w p
  obtain ⟨D, hD, rD, bD, zD⟩ := new_m A m
  rw [zA] at rD
  exact ⟨D, by rw [hA, hD], rA.below bD, rD, below_over bA bD, by omega⟩
/-! ### what stays -/
theorem setB_else {ks : List (Option IntKind)} (r : Row ks) {i j : Nat} (h : ks[j]? = some none) (b : Bool) (hn : i ≠ j) : (r.setB j h b).cl[i]? = r.cl[i]? := by rw [r.setB_get, if_neg hn]
theorem gotP_else (p : Pt) (m : Mg) {j : Nat} (h : kdP[j]? = some none) {i : Nat} (h1 : i ≠ 14) (h2 : i ≠ j) (h3 : ¬ (48 ≤ i ∧ i < 64)) : (gotP p m j h).cl[i]? = p.cl[i]? := by
  rw [gotP, setB_else _ _ _ h1, Row.put_get, if_neg (by rw [lenM]; exact h3), setB_else _ _ _ h2]
theorem take_else (p : Pt) (m : Mg) {i : Nat} (h1 : i ≠ 14) (h2 : i ≠ 15) (h3 : i ≠ 16) (h4 : ¬ (48 ≤ i ∧ i < 64)) : (takeP p m).cl[i]? = p.cl[i]? := by
  unfold takeP
  split
  · split
    · exact gotP_else p m kb15 h1 h2 h4
    · split
      · exact gotP_else p m kb16 h1 h3 h4
      · rfl
  · rfl
theorem prop_else (p : Pt) {i : Nat} (h : i ≠ 12) : (propP p).cl[i]? = p.cl[i]? := by
  unfold propP
  split
  · exact setB_else _ _ _ h
  · rfl
theorem agr_else (p : Pt) {i : Nat} (h1 : i ≠ 4) (h2 : i ≠ 13) : (agrP p).cl[i]? = p.cl[i]? := by
  unfold agrP
  split
  · rw [setB_else _ _ _ h2, setB_else _ _ _ h1]
  · exact setB_else _ _ _ h1
theorem disp_else (p : Pt) {i : Nat} (h1 : i ≠ 4) (h2 : i ≠ 5) : (dispP p).cl[i]? = p.cl[i]? := by
  unfold dispP
  split
  · rw [setB_else _ _ _ h1, setB_else _ _ _ h2]
  · rfl
theorem flag_else (p : Pt) {i : Nat} (h1 : i ≠ 17) (h2 : i ≠ 18) (h3 : i ≠ 19) : (flagP p).cl[i]? = p.cl[i]? := by
  unfold flagP
  split
  · exact setB_else _ _ _ h3
  · split
    · rw [tcP, setB_else _ _ _ h1, ackP, setB_else _ _ _ h2]
    · split
      · exact setB_else _ _ _ h1
      · rfl
theorem whi_else (p : Pt) {i : Nat} (h : i ≠ 69) : (whiP p).cl[i]? = p.cl[i]? := by
  rw [whiP, Row.setU_get _ ku69 (wf8 (whiN_in p)), if_neg h]
theorem tim_else (p : Pt) {i : Nat} (h : ¬ (44 ≤ i ∧ i < 48)) : (timP p).cl[i]? = p.cl[i]? := by
  rw [timP_get p (by omega), timQ_get, if_neg h]
theorem prio_else (p : Pt) {i : Nat} (h : ¬ (36 ≤ i ∧ i < 40)) : (prioP p).cl[i]? = p.cl[i]? := by
  rw [prioP_get, if_neg h]
/-! ### laid back -/
theorem backB (p q : Pt) {j : Nat} (h : kdP[j]? = some none) (i : Nat) : (q.setB j h (p.bt j)).cl[i]? = if i = j then p.cl[i]? else q.cl[i]? := by
  rw [Row.setB_get]
  by_cases e : i = j
  · subst e
    rw [if_pos rfl, if_pos rfl, p.bit h]
  · rw [if_neg e, if_neg e]
theorem backM (p q : Pt) (i : Nat) : (q.put 48 (msg p) kq48 kl48).cl[i]? = if 48 ≤ i ∧ i < 64 then p.cl[i]? else q.cl[i]? := by
  rw [Row.put_get, lenM]
  by_cases e : 48 ≤ i ∧ i < 64
  · rw [if_pos e, if_pos e, msg_get p (by omega), show 48 + (i - 48) = i by omega]
  · rw [if_neg e, if_neg e]
theorem backV (p q : Pt) (i : Nat) : (q.put 36 (pri p) kq36 kl36).cl[i]? = if 36 ≤ i ∧ i < 40 then p.cl[i]? else q.cl[i]? := by
  rw [Row.put_get, lenV]
  by_cases e : 36 ≤ i ∧ i < 40
  · rw [if_pos e, if_pos e, pri_get p (by omega), show 36 + (i - 36) = i by omega]
  · rw [if_neg e, if_neg e]
theorem backT (p q : Pt) (i : Nat) : (q.put 44 (priT p) kq44 kl44).cl[i]? = if 44 ≤ i ∧ i < 48 then p.cl[i]? else q.cl[i]? := by
  rw [Row.put_get, lenT]
  by_cases e : 44 ≤ i ∧ i < 48
  · rw [if_pos e, if_pos e, priT_get p (by omega), show 44 + (i - 44) = i by omega]
  · rw [if_neg e, if_neg e]
theorem backU (p q : Pt) (i : Nat) : (q.setU 69 (p.nm 69)).cl[i]? = if i = 69 then p.cl[i]? else q.cl[i]? := by
  rw [Row.setU_get _ ku69 (wf8 (p.u8 ku69))]
  by_cases e : i = 69
  · subst e
    rw [if_pos rfl, if_pos rfl, p.num ku69]
  · rw [if_neg e, if_neg e]
theorem back_take (p : Pt) (m : Mg) : ((((takeP p m).put 48 (msg p) kq48 kl48).setB 14 kb14 (p.bt 14)).setB 15 kb15 (p.bt 15)).setB 16 kb16 (p.bt 16) = p := by
  refine Row.same fun i _ => ?_
  rw [backB, backB, backB, backM]
  by_cases h1 : i = 16
  · rw [if_pos h1]
  · by_cases h2 : i = 15
    · rw [if_neg h1, if_pos h2]
    · by_cases h3 : i = 14
      · rw [if_neg h1, if_neg h2, if_pos h3]
      · by_cases h4 : 48 ≤ i ∧ i < 64
        · rw [if_neg h1, if_neg h2, if_neg h3, if_pos h4]
        · rw [if_neg h1, if_neg h2, if_neg h3, if_neg h4, take_else p m h3 h2 h1 h4]
theorem back_times (p : Pt) : (((whiP (timP (prioP p))).put 36 (pri p) kq36 kl36).put 44 (priT p) kq44 kl44).setU 69 (p.nm 69) = p := by
  refine Row.same fun i _ => ?_
  rw [backU, backT, backV]
  by_cases h1 : i = 69
  · rw [if_pos h1]
  · by_cases h2 : 44 ≤ i ∧ i < 48
    · rw [if_neg h1, if_pos h2]
    · by_cases h3 : 36 ≤ i ∧ i < 40
      · rw [if_neg h1, if_neg h2, if_pos h3]
      · rw [if_neg h1, if_neg h2, if_neg h3, whi_else _ h1, tim_else _ h2, prio_else _ h3]
theorem back_agrees (p : Pt) : ((((dispP (agrP (propP p))).setB 12 kb12 (p.bt 12)).setB 4 kb4 (p.bt 4)).setB 13 kb13 (p.bt 13)).setB 5 kb5 (p.bt 5) = p := by
  refine Row.same fun i _ => ?_
  rw [backB, backB, backB, backB]
  by_cases h1 : i = 5
  · rw [if_pos h1]
  · by_cases h2 : i = 13
    · rw [if_neg h1, if_pos h2]
    · by_cases h3 : i = 4
      · rw [if_neg h1, if_neg h2, if_pos h3]
      · by_cases h4 : i = 12
        · rw [if_neg h1, if_neg h2, if_neg h3, if_pos h4]
        · rw [if_neg h1, if_neg h2, if_neg h3, if_neg h4, disp_else _ h3 h1, agr_else _ h3 h2, prop_else _ h4]
theorem back_flags (p : Pt) : (((flagP p).setB 17 kb17 (p.bt 17)).setB 18 kb18 (p.bt 18)).setB 19 kb19 (p.bt 19) = p := by
  refine Row.same fun i _ => ?_
  rw [backB, backB, backB]
  by_cases h1 : i = 19
  · rw [if_pos h1]
  · by_cases h2 : i = 18
    · rw [if_neg h1, if_pos h2]
    · by_cases h3 : i = 17
      · rw [if_neg h1, if_neg h2, if_pos h3]
      · rw [if_neg h1, if_neg h2, if_neg h3, flag_else _ h3 h2 h1]
/-! ### the four variables, each made and laid back -/
def PV (W : World) (b : Nat) (p : Pt) : Prop := RvAt W b 36 p.cs
theorem sec_take (V : World) (n : Nat) (p : Pt) (m : Mg) (hp : PV V n p) : ∃ X0 X1 X2 X3 X4 : World, (stS 36 (.pointer (some ⟨V.heap.size, 0, none⟩)) (.agg (takeP p m).cs)).run Try.prog (V.alloc (.cells zeroP.cs 36)) = .ok () X0 ∧ (ldS 33 (.pointer (some ⟨n, 48, none⟩))).run Try.prog X0 = .ok (.agg (msg p).cs) X0 ∧ (stS 33 (.pointer (some ⟨V.heap.size, 48, none⟩)) (.agg (msg p).cs)).run Try.prog X0 = .ok () X1 ∧ X1.cell? ⟨n, 14, none⟩ = some (.bool (p.bt 14)) ∧ (stS 4 (.pointer (some ⟨V.heap.size, 14, none⟩)) (.bool (p.bt 14))).run Try.prog X1 = .ok () X2 ∧ X2.cell? ⟨n, 15, none⟩ = some (.bool (p.bt 15)) ∧ (stS 4 (.pointer (some ⟨V.heap.size, 15, none⟩)) (.bool (p.bt 15))).run Try.prog X2 = .ok () X3 ∧ X3.cell? ⟨n, 16, none⟩ = some (.bool (p.bt 16)) ∧ (stS 4 (.pointer (some ⟨V.heap.size, 16, none⟩)) (.bool (p.bt 16))).run Try.prog X3 = .ok () X4 ∧ PV X4 V.heap.size p ∧ Below V.heap.size V X4 := by
  have hn : n ≠ V.heap.size := by have := RvAt.lt hp; omega
  obtain ⟨X0, s0, r0, b0, _⟩ := var_p V (takeP p m)
  have q0 := RvAt.below hp b0
  have c0 := q0.pmsg
  obtain ⟨X1, s1, r1, g1⟩ := r0.putM (msg p)
  have q1 := q0.keptBut g1 (by simpa using hn)
  have b1 := gro b0 g1 (Nat.le_refl _) b0.size
  have c1 := q1.bit (j := 14) rfl
  obtain ⟨X2, s2, r2, g2⟩ := r1.setB kb14 (p.bt 14)
  have q2 := q1.keptBut g2 (by simpa using hn)
  have b2 := gro b1 g2 (Nat.le_refl _) b1.size
  have c2 := q2.bit (j := 15) rfl
  obtain ⟨X3, s3, r3, g3⟩ := r2.setB kb15 (p.bt 15)
  have q3 := q2.keptBut g3 (by simpa using hn)
  have b3 := gro b2 g3 (Nat.le_refl _) b2.size
  have c3 := q3.bit (j := 16) rfl
  obtain ⟨X4, s4, r4, g4⟩ := r3.setB kb16 (p.bt 16)
  have q4 := q3.keptBut g4 (by simpa using hn)
  have b4 := gro b3 g4 (Nat.le_refl _) b3.size
  rw [back_take] at r4
  exact ⟨X0, X1, X2, X3, X4, s0, c0, s1, c1, s2, c2, s3, c3, s4, r4, b4⟩
theorem sec_times (V : World) (n : Nat) (p : Pt) (hp : PV V n p) : ∃ X0 X1 X2 X3 : World, (stS 36 (.pointer (some ⟨V.heap.size, 0, none⟩)) (.agg (whiP (timP (prioP p))).cs)).run Try.prog (V.alloc (.cells zeroP.cs 36)) = .ok () X0 ∧ (ldS 28 (.pointer (some ⟨n, 36, none⟩))).run Try.prog X0 = .ok (.agg (pri p).cs) X0 ∧ (stS 28 (.pointer (some ⟨V.heap.size, 36, none⟩)) (.agg (pri p).cs)).run Try.prog X0 = .ok () X1 ∧ (ldS 30 (.pointer (some ⟨n, 44, none⟩))).run Try.prog X1 = .ok (.agg (priT p).cs) X1 ∧ (stS 30 (.pointer (some ⟨V.heap.size, 44, none⟩)) (.agg (priT p).cs)).run Try.prog X1 = .ok () X2 ∧ X2.cell? ⟨n, 69, none⟩ = some (.int .u8 (p.nm 69)) ∧ (stS 5 (.pointer (some ⟨V.heap.size, 69, none⟩)) (.int .u8 (p.nm 69))).run Try.prog X2 = .ok () X3 ∧ PV X3 V.heap.size p ∧ Below V.heap.size V X3 := by
  have hn : n ≠ V.heap.size := by have := RvAt.lt hp; omega
  obtain ⟨X0, s0, r0, b0, _⟩ := var_p V (whiP (timP (prioP p)))
  have q0 := RvAt.below hp b0
  have c0 := q0.ppri
  obtain ⟨X1, s1, r1, g1⟩ := r0.putV (pri p)
  have q1 := q0.keptBut g1 (by simpa using hn)
  have b1 := gro b0 g1 (Nat.le_refl _) b0.size
  have c1 := q1.ppriT
  obtain ⟨X2, s2, r2, g2⟩ := r1.putT (priT p)
  have q2 := q1.keptBut g2 (by simpa using hn)
  have b2 := gro b1 g2 (Nat.le_refl _) b1.size
  have c2 := q2.num (j := 69) (k := .u8) rfl
  obtain ⟨X3, s3, r3, g3⟩ := r2.setU ku69 (p.u8 ku69)
  have q3 := q2.keptBut g3 (by simpa using hn)
  have b3 := gro b2 g3 (Nat.le_refl _) b2.size
  rw [back_times] at r3
  exact ⟨X0, X1, X2, X3, s0, c0, s1, c1, s2, c2, s3, r3, b3⟩
theorem sec_agrees (V : World) (n : Nat) (p : Pt) (hp : PV V n p) : ∃ X0 X1 X2 X3 X4 : World, (stS 36 (.pointer (some ⟨V.heap.size, 0, none⟩)) (.agg (dispP (agrP (propP p))).cs)).run Try.prog (V.alloc (.cells zeroP.cs 36)) = .ok () X0 ∧ X0.cell? ⟨n, 12, none⟩ = some (.bool (p.bt 12)) ∧ (stS 4 (.pointer (some ⟨V.heap.size, 12, none⟩)) (.bool (p.bt 12))).run Try.prog X0 = .ok () X1 ∧ X1.cell? ⟨n, 4, none⟩ = some (.bool (p.bt 4)) ∧ (stS 4 (.pointer (some ⟨V.heap.size, 4, none⟩)) (.bool (p.bt 4))).run Try.prog X1 = .ok () X2 ∧ X2.cell? ⟨n, 13, none⟩ = some (.bool (p.bt 13)) ∧ (stS 4 (.pointer (some ⟨V.heap.size, 13, none⟩)) (.bool (p.bt 13))).run Try.prog X2 = .ok () X3 ∧ X3.cell? ⟨n, 5, none⟩ = some (.bool (p.bt 5)) ∧ (stS 4 (.pointer (some ⟨V.heap.size, 5, none⟩)) (.bool (p.bt 5))).run Try.prog X3 = .ok () X4 ∧ PV X4 V.heap.size p ∧ Below V.heap.size V X4 := by
  have hn : n ≠ V.heap.size := by have := RvAt.lt hp; omega
  obtain ⟨X0, s0, r0, b0, _⟩ := var_p V (dispP (agrP (propP p)))
  have q0 := RvAt.below hp b0
  have c0 := q0.bit (j := 12) rfl
  obtain ⟨X1, s1, r1, g1⟩ := r0.setB kb12 (p.bt 12)
  have q1 := q0.keptBut g1 (by simpa using hn)
  have b1 := gro b0 g1 (Nat.le_refl _) b0.size
  have c1 := q1.bit (j := 4) rfl
  obtain ⟨X2, s2, r2, g2⟩ := r1.setB kb4 (p.bt 4)
  have q2 := q1.keptBut g2 (by simpa using hn)
  have b2 := gro b1 g2 (Nat.le_refl _) b1.size
  have c2 := q2.bit (j := 13) rfl
  obtain ⟨X3, s3, r3, g3⟩ := r2.setB kb13 (p.bt 13)
  have q3 := q2.keptBut g3 (by simpa using hn)
  have b3 := gro b2 g3 (Nat.le_refl _) b2.size
  have c3 := q3.bit (j := 5) rfl
  obtain ⟨X4, s4, r4, g4⟩ := r3.setB kb5 (p.bt 5)
  have q4 := q3.keptBut g4 (by simpa using hn)
  have b4 := gro b3 g4 (Nat.le_refl _) b3.size
  rw [back_agrees] at r4
  exact ⟨X0, X1, X2, X3, X4, s0, c0, s1, c1, s2, c2, s3, c3, s4, r4, b4⟩
theorem sec_flags (V : World) (n : Nat) (p : Pt) (hp : PV V n p) : ∃ X0 X1 X2 X3 : World, (stS 36 (.pointer (some ⟨V.heap.size, 0, none⟩)) (.agg (flagP p).cs)).run Try.prog (V.alloc (.cells zeroP.cs 36)) = .ok () X0 ∧ X0.cell? ⟨n, 17, none⟩ = some (.bool (p.bt 17)) ∧ (stS 4 (.pointer (some ⟨V.heap.size, 17, none⟩)) (.bool (p.bt 17))).run Try.prog X0 = .ok () X1 ∧ X1.cell? ⟨n, 18, none⟩ = some (.bool (p.bt 18)) ∧ (stS 4 (.pointer (some ⟨V.heap.size, 18, none⟩)) (.bool (p.bt 18))).run Try.prog X1 = .ok () X2 ∧ X2.cell? ⟨n, 19, none⟩ = some (.bool (p.bt 19)) ∧ (stS 4 (.pointer (some ⟨V.heap.size, 19, none⟩)) (.bool (p.bt 19))).run Try.prog X2 = .ok () X3 ∧ PV X3 V.heap.size p ∧ Below V.heap.size V X3 := by
  have hn : n ≠ V.heap.size := by have := RvAt.lt hp; omega
  obtain ⟨X0, s0, r0, b0, _⟩ := var_p V (flagP p)
  have q0 := RvAt.below hp b0
  have c0 := q0.bit (j := 17) rfl
  obtain ⟨X1, s1, r1, g1⟩ := r0.setB kb17 (p.bt 17)
  have q1 := q0.keptBut g1 (by simpa using hn)
  have b1 := gro b0 g1 (Nat.le_refl _) b0.size
  have c1 := q1.bit (j := 18) rfl
  obtain ⟨X2, s2, r2, g2⟩ := r1.setB kb18 (p.bt 18)
  have q2 := q1.keptBut g2 (by simpa using hn)
  have b2 := gro b1 g2 (Nat.le_refl _) b1.size
  have c2 := q2.bit (j := 19) rfl
  obtain ⟨X3, s3, r3, g3⟩ := r2.setB kb19 (p.bt 19)
  have q3 := q2.keptBut g3 (by simpa using hn)
  have b3 := gro b2 g3 (Nat.le_refl _) b2.size
  rw [back_flags] at r3
  exact ⟨X0, X1, X2, X3, s0, c0, s1, c1, s2, c2, s3, r3, b3⟩
attribute [local go_sem ↓] ldP stP ldM stM ldTm stTm ldV stV stB stU eqgP eqlP
attribute [local go_sem ↓] alP alM
attribute [local go_sem] alP_run alM_run Row.eq_self
set_option maxHeartbeats 4000000 in
theorem HeardOnly_walk (p : Pt) (m : Mg) (w : World) :
    Calls Try.prog 4 #[.agg p.cs, .agg m.cs] w fun r w' => r = .returned (.bool true) ∧ Below w.heap.size w w' := by
  obtain ⟨W, hW, rp, rm, bW, zW⟩ := two_pm w p m
  have H : Hid (RvAt W w.heap.size 36 p.cs ∧ Below w.heap.size w W) := ⟨rp, bW⟩
  have lp := rp.pld
  have lm := rm.mld
  clear rp rm bW zW
  go_enter Try.func4, Try.ntmps4
  go_wp2_with fail
  refine (take_any p m W).mono ?_
  rintro _ V ⟨rfl, bV⟩
  have bw := below_over H.out.2 bV
  have hV := H.out.1.below bV
  clear bV hW lp lm H
  obtain ⟨A0, A1, A2, A3, A4, sA0, cA0, sA1, cA1, sA2, cA2, sA3, cA3, sA4, rA, bA⟩ := sec_take V w.heap.size p m hV
  obtain ⟨d1, hd1⟩ : ∃ d, V.heap.size = d := ⟨_, rfl⟩
  have rp := hV.below bA
  have bw1 := below_over bw bA
  have ne1 : Hid (PV A4 d1 p) := by
    show PV _ _ _
    rw [← hd1]
    exact rA
  rw [hd1] at sA0 sA1 sA2 sA3 sA4
  have lp := rp.pld
  have G1 : Hid (RvAt A4 w.heap.size 36 p.cs ∧ Below w.heap.size w A4) := ⟨rp, bw1⟩
  clear rp bw bw1 rA bA hV
  go_wp2_with fail
  clear sA0 cA0 sA1 cA1 sA2 cA2 sA3 cA3 sA4 hd1
  refine (prio_any p A4).mono ?_
  rintro _ Y1 ⟨rfl, by1⟩
  have By1 : Hid (Below A4.heap.size A4 Y1) := by1
  clear by1 lp
  go_wp2_with fail
  refine (tim_any (prioP p) Y1).mono ?_
  rintro _ Y2 ⟨rfl, by2⟩
  have By2 : Hid (Below A4.heap.size A4 Y2) := below_over By1.out by2
  clear by2
  go_wp2_with fail
  refine (whi_any (timP (prioP p)) Y2).mono ?_
  rintro _ V2 ⟨rfl, by3⟩
  have bV := below_over By2.out by3
  have bw := below_over G1.out.2 bV
  have hV := G1.out.1.below bV
  have r1 := RvAt.below ne1.out bV
  clear by3 bV
  obtain ⟨B0, B1, B2, B3, sB0, cB0, sB1, cB1, sB2, cB2, sB3, rB, bB⟩ := sec_times V2 w.heap.size p hV
  obtain ⟨d2, hd2⟩ : ∃ d, V2.heap.size = d := ⟨_, rfl⟩
  have rp := hV.below bB
  have r1' := r1.below bB
  have bw1 := below_over bw bB
  have ne2 : Hid (PV B3 d2 p) := by
    show PV _ _ _
    rw [← hd2]
    exact rB
  rw [hd2] at sB0 sB1 sB2 sB3
  have lp := rp.pld
  have G2 : Hid (RvAt B3 w.heap.size 36 p.cs ∧ Below w.heap.size w B3 ∧ RvAt B3 d1 36 p.cs) := ⟨rp, bw1, r1'⟩
  clear rp bw bw1 rB bB hV r1 r1' G1 ne1 By1 By2
  go_wp2_with fail
  clear sB0 cB0 sB1 cB1 sB2 cB2 sB3 hd2
  refine (prop_any p B3).mono ?_
  rintro _ Z1 ⟨rfl, by1⟩
  have By1 : Hid (Below B3.heap.size B3 Z1) := by1
  clear by1 lp
  go_wp2_with fail
  refine (agr_any (propP p) Z1).mono ?_
  rintro _ Z2 ⟨rfl, by2⟩
  have By2 : Hid (Below B3.heap.size B3 Z2) := below_over By1.out by2
  clear by2
  go_wp2_with fail
  refine (disp_any (agrP (propP p)) Z2).mono ?_
  rintro _ V3 ⟨rfl, by3⟩
  have bV := below_over By2.out by3
  have bw := below_over G2.out.2.1 bV
  have hV := G2.out.1.below bV
  have r1 := G2.out.2.2.below bV
  have r2 := RvAt.below ne2.out bV
  clear by3 bV
  obtain ⟨C0, C1, C2, C3, C4, sC0, cC0, sC1, cC1, sC2, cC2, sC3, cC3, sC4, rC, bC⟩ := sec_agrees V3 w.heap.size p hV
  obtain ⟨d3, hd3⟩ : ∃ d, V3.heap.size = d := ⟨_, rfl⟩
  have rp := hV.below bC
  have r1' := r1.below bC
  have r2' := r2.below bC
  have bw1 := below_over bw bC
  have ne3 : Hid (PV C4 d3 p) := by
    show PV _ _ _
    rw [← hd3]
    exact rC
  rw [hd3] at sC0 sC1 sC2 sC3 sC4
  have lp := rp.pld
  have G3 : Hid (RvAt C4 w.heap.size 36 p.cs ∧ Below w.heap.size w C4 ∧ RvAt C4 d1 36 p.cs ∧ RvAt C4 d2 36 p.cs) := ⟨rp, bw1, r1', r2'⟩
  clear rp bw bw1 rC bC hV r1 r1' r2 r2' G2 ne2 By1 By2
  go_wp2_with fail
  clear sC0 cC0 sC1 cC1 sC2 cC2 sC3 cC3 sC4 hd3
  refine (flag_any p C4).mono ?_
  rintro _ V4 ⟨rfl, bV⟩
  have bw := below_over G3.out.2.1 bV
  have hV := G3.out.1.below bV
  have r1 := G3.out.2.2.1.below bV
  have r2 := G3.out.2.2.2.below bV
  have r3 := RvAt.below ne3.out bV
  clear bV lp
  obtain ⟨D0, D1, D2, D3, sD0, cD0, sD1, cD1, sD2, cD2, sD3, rD, bD⟩ := sec_flags V4 w.heap.size p hV
  obtain ⟨d4, hd4⟩ : ∃ d, V4.heap.size = d := ⟨_, rfl⟩
  have lp := (hV.below bD).pld
  have l1 := (r1.below bD).pld
  have l2 := (r2.below bD).pld
  have l3 := (r3.below bD).pld
  have l4 := RvAt.pld rD
  have G4 : Hid (Below w.heap.size w D3) := below_over bw bD
  rw [hd4] at sD0 sD1 sD2 sD3 l4
  clear bw rD bD hV r1 r2 r3 G3 ne3
  go_wp2_with fail
  refine (awake_any D3).mono ?_
  rintro _ U ⟨rfl, bU⟩
  have G5 : Hid (Below w.heap.size w U) := below_over G4.out bU
  clear bU lp l1 l2 l3 l4 sD0 cD0 sD1 cD1 sD2 cD2 sD3 hd4
  go_wp2
  go_ret
  exact ⟨rfl, G5.out⟩
end Go.Proofs.Ytlnammicialacab
