/-
  The definition's designated port: its walk.
-/
import Derived.Test.YtdlleecfmebenaaRfA
namespace Go.Proofs.Ytdlleecfmebenaa
set_option linter.unusedVariables false
set_option maxRecDepth 4000
set_option linter.unusedSimpArgs false
open Go.RowKit

/-- What becomes of a designated port, if anything. -/
def dsgO (p : Pt) : Option Pt :=
  if ((!p.bt 7 && !p.bt 4) && !p.bt 13) = true then some (prsP p) else
  if ((stopB p && !p.bt 25) || (p.bt 4 && !p.bt 25) || (p.bt 24 && p.bt 25)) = true then some (synP p) else
  if ((p.nm 70 == 0) && p.bt 20) = true then some (rrdP p) else
  if (mustB p && (p.bt 9 || p.bt 7)) = true then some (stpP p) else
  if (mayP p && !p.bt 9) = true then some (lrnP p) else
  if ((mayP p && p.bt 9) && !p.bt 7) = true then some (fwdDP p) else
  none
theorem delay_of {p q : Pt} (h1 : q.bt 23 = p.bt 23) (h2 : q.nm 42 = p.nm 42) (h3 : q.nm 43 = p.nm 43) : delayP q = delayP p := by
  unfold delayP
  rw [h1, h2, h3]
theorem stp_ref (p : Pt) : (stpA p).setU 65 (delayP p) = stpP p := by
  unfold stpP
  rw [delay_of (p := p) (q := stpA p)]
  · exact bt_of (by simp only [stpA, Row.setB_get]; rfl)
  · exact nm_of (by simp only [stpA, Row.setB_get]; rfl)
  · exact nm_of (by simp only [stpA, Row.setB_get]; rfl)
theorem fwd_ref (p : Pt) : (fwdP p).setB 4 kb4 (p.bt 23) = fwdDP p := by
  unfold fwdDP
  have : (fwdP p).bt 23 = p.bt 23 := bt_of (by simp only [fwdP, Row.setB_get, Row.setU_get _ ku65 (wf8 (n := 0) (by omega))]; rfl)
  rw [this]
attribute [local go_sem ↓] ldP stP stB stU stW
attribute [local go_sem ↓] alP
attribute [local go_sem] alP_run
set_option maxHeartbeats 16000000 in
theorem rdsg_any (p : Pt) (w : World) :
    Calls Try.prog 23 #[.agg p.cs] w fun r w' => r = .returned (.tuple #[.agg ((dsgO p).getD p).cs, .bool (dsgO p).isSome]) ∧ Below w.heap.size w w' := by
  obtain ⟨OO, hOO⟩ : ∃ z, dsgO p = z := ⟨_, rfl⟩
  rw [hOO]
  have EO : Hid (dsgO p = OO) := hOO
  clear hOO
  obtain ⟨W0, hW, S0⟩ := PS.start w p
  have R := S0.var.rdE
  have lp := S0.ld
  have l23 := S0.var.pbit (j := 23) rfl
  have H : Hid (PS w W0 w.heap.size (w.heap.size + 1) p) := S0
  clear S0
  obtain ⟨C0, hC0⟩ : ∃ z, ((!p.bt 7 && !p.bt 4) && !p.bt 13) = z := ⟨_, rfl⟩
  have EC0 : Hid (((!p.bt 7 && !p.bt 4) && !p.bt 13) = C0) := hC0
  clear hC0
  obtain ⟨C1, hC1⟩ : ∃ z, ((stopB p && !p.bt 25) || (p.bt 4 && !p.bt 25) || (p.bt 24 && p.bt 25)) = z := ⟨_, rfl⟩
  have EC1 : Hid (((stopB p && !p.bt 25) || (p.bt 4 && !p.bt 25) || (p.bt 24 && p.bt 25)) = C1) := hC1
  clear hC1
  obtain ⟨C2, hC2⟩ : ∃ z, ((p.nm 70 == 0) && p.bt 20) = z := ⟨_, rfl⟩
  have EC2 : Hid (((p.nm 70 == 0) && p.bt 20) = C2) := hC2
  clear hC2
  obtain ⟨C3, hC3⟩ : ∃ z, (mustB p && (p.bt 9 || p.bt 7)) = z := ⟨_, rfl⟩
  have EC3 : Hid ((mustB p && (p.bt 9 || p.bt 7)) = C3) := hC3
  clear hC3
  obtain ⟨C4, hC4⟩ : ∃ z, (mayP p && !p.bt 9) = z := ⟨_, rfl⟩
  have EC4 : Hid ((mayP p && !p.bt 9) = C4) := hC4
  clear hC4
  obtain ⟨C5, hC5⟩ : ∃ z, ((mayP p && p.bt 9) && !p.bt 7) = z := ⟨_, rfl⟩
  have EC5 : Hid (((mayP p && p.bt 9) && !p.bt 7) = C5) := hC5
  clear hC5
  go_enter Try.func23, Try.ntmps23
  go_upto_region 1 with fail
  refine wp_plain (C := fun w' => w' = W0) rfl ?_
  refine q_put (v := .pointer (some ⟨w.heap.size, 0 + 65, none⟩)) (yq rfl (Rn.qt (qfield rfl rfl fp38))) ?_
  try simp only [Act.put, List.setIfInBounds_toArray, List.set_cons_zero, List.set_cons_succ]
  refine q_put (v := .int .u8 (p.nm 65)) (yq rfl (Rn.qt (qload rfl rfl (R.u8 rfl)))) ?_
  try simp only [Act.put, List.setIfInBounds_toArray, List.set_cons_zero, List.set_cons_succ]
  refine q_put (v := .bool ((p.nm 65) == 0)) (yq rfl (Rn.qt (qbin rfl rfl rfl (eg_u8 _ _ _ _ _) (eq_u8 _ _)))) ?_
  try simp only [Act.put, List.setIfInBounds_toArray, List.set_cons_zero, List.set_cons_succ]
  refine q_put (v := .bool ((p.nm 65) == 0)) (yq rfl (Rn.qt (qmove rfl rfl))) ?_
  try simp only [Act.put, List.setIfInBounds_toArray, List.set_cons_zero, List.set_cons_succ]
  refine q_put (v := gd ((p.nm 65) == 0) false (.pointer (some ⟨w.heap.size, 0 + 4, none⟩))) (yq1 rfl rfl (fun e => Rn.qt (qfield rfl rfl fp4))) ?_
  try simp only [Act.put, List.setIfInBounds_toArray, List.set_cons_zero, List.set_cons_succ]
  refine q_put (v := gd ((p.nm 65) == 0) false (.bool (p.bt 4))) (yq1 rfl rfl (fun e => Rn.qt (qload rfl (on e rfl) (R.bit rfl)))) ?_
  try simp only [Act.put, List.setIfInBounds_toArray, List.set_cons_zero, List.set_cons_succ]
  refine q_put (v := .bool (((p.nm 65) == 0) || (p.bt 4))) (yq rfl (Rn.qt (qpick rfl rfl (pkO rfl rfl)))) ?_
  try simp only [Act.put, List.setIfInBounds_toArray, List.set_cons_zero, List.set_cons_succ]
  refine q_put (v := .bool (((p.nm 65) == 0) || (p.bt 4))) (yq rfl (Rn.qt (qmove rfl rfl))) ?_
  try simp only [Act.put, List.setIfInBounds_toArray, List.set_cons_zero, List.set_cons_succ]
  refine q_put (v := gd (((p.nm 65) == 0) || (p.bt 4)) true (.pointer (some ⟨w.heap.size, 0 + 70, none⟩))) (yq1 rfl rfl (fun e => Rn.qt (qfield rfl rfl fp43))) ?_
  try simp only [Act.put, List.setIfInBounds_toArray, List.set_cons_zero, List.set_cons_succ]
  refine q_put (v := gd (((p.nm 65) == 0) || (p.bt 4)) true (.int .u8 (p.nm 70))) (yq1 rfl rfl (fun e => Rn.qt (qload rfl (on e rfl) (R.u8 rfl)))) ?_
  try simp only [Act.put, List.setIfInBounds_toArray, List.set_cons_zero, List.set_cons_succ]
  refine q_put (v := gd (((p.nm 65) == 0) || (p.bt 4)) true (.bool ((p.nm 70) == 0))) (yq1 rfl rfl (fun e => Rn.qt (qbin rfl (on e rfl) rfl (eg_u8 _ _ _ _ _) (eq_u8 _ _)))) ?_
  try simp only [Act.put, List.setIfInBounds_toArray, List.set_cons_zero, List.set_cons_succ]
  refine q_put (v := gd (((p.nm 65) == 0) || (p.bt 4)) true (.bool ((p.nm 70) == 0))) (yq1 rfl rfl (fun e => Rn.qt (qmove rfl (on e rfl)))) ?_
  try simp only [Act.put, List.setIfInBounds_toArray, List.set_cons_zero, List.set_cons_succ]
  refine q_put (v := gd (((p.nm 65) == 0) || (p.bt 4)) true (gd ((p.nm 70) == 0) false (.pointer (some ⟨w.heap.size, 0 + 20, none⟩)))) (yq2 rfl rfl (fun e1 e2 => Rn.qt (qfield rfl rfl fp20))) ?_
  try simp only [Act.put, List.setIfInBounds_toArray, List.set_cons_zero, List.set_cons_succ]
  refine q_put (v := gd (((p.nm 65) == 0) || (p.bt 4)) true (gd ((p.nm 70) == 0) false (.bool (p.bt 20)))) (yq2 rfl rfl (fun e1 e2 => Rn.qt (qload rfl (on e2 (on e1 rfl)) (R.bit rfl)))) ?_
  try simp only [Act.put, List.setIfInBounds_toArray, List.set_cons_zero, List.set_cons_succ]
  refine q_put (v := gd (((p.nm 65) == 0) || (p.bt 4)) true (gd ((p.nm 70) == 0) false (.bool (!(p.bt 20))))) (yq2 rfl rfl (fun e1 e2 => Rn.qt (qnot rfl (on e2 (on e1 rfl))))) ?_
  try simp only [Act.put, List.setIfInBounds_toArray, List.set_cons_zero, List.set_cons_succ]
  refine q_put (v := gd (((p.nm 65) == 0) || (p.bt 4)) true (.bool (((p.nm 70) == 0) || (!(p.bt 20))))) (yq1 rfl rfl (fun e => Rn.qt (qpick rfl (on e rfl) (pkO rfl (on e rfl))))) ?_
  try simp only [Act.put, List.setIfInBounds_toArray, List.set_cons_zero, List.set_cons_succ]
  refine q_put (v := .bool ((((p.nm 65) == 0) || (p.bt 4)) && (((p.nm 70) == 0) || (!(p.bt 20))))) (yq rfl (Rn.qt (qpick rfl rfl (pkA rfl rfl)))) ?_
  try simp only [Act.put, List.setIfInBounds_toArray, List.set_cons_zero, List.set_cons_succ]
  refine q_put (v := .bool ((((p.nm 65) == 0) || (p.bt 4)) && (((p.nm 70) == 0) || (!(p.bt 20))))) (yq rfl (Rn.qt (qmove rfl rfl))) ?_
  try simp only [Act.put, List.setIfInBounds_toArray, List.set_cons_zero, List.set_cons_succ]
  refine q_put (v := gd ((((p.nm 65) == 0) || (p.bt 4)) && (((p.nm 70) == 0) || (!(p.bt 20)))) true (.pointer (some ⟨w.heap.size, 0 + 24, none⟩))) (yq1 rfl rfl (fun e => Rn.qt (qfield rfl rfl fp24))) ?_
  try simp only [Act.put, List.setIfInBounds_toArray, List.set_cons_zero, List.set_cons_succ]
  refine q_put (v := gd ((((p.nm 65) == 0) || (p.bt 4)) && (((p.nm 70) == 0) || (!(p.bt 20)))) true (.bool (p.bt 24))) (yq1 rfl rfl (fun e => Rn.qt (qload rfl (on e rfl) (R.bit rfl)))) ?_
  try simp only [Act.put, List.setIfInBounds_toArray, List.set_cons_zero, List.set_cons_succ]
  refine q_put (v := gd ((((p.nm 65) == 0) || (p.bt 4)) && (((p.nm 70) == 0) || (!(p.bt 20)))) true (.bool (!(p.bt 24)))) (yq1 rfl rfl (fun e => Rn.qt (qnot rfl (on e rfl)))) ?_
  try simp only [Act.put, List.setIfInBounds_toArray, List.set_cons_zero, List.set_cons_succ]
  refine q_put (v := .bool (((((p.nm 65) == 0) || (p.bt 4)) && (((p.nm 70) == 0) || (!(p.bt 20)))) && (!(p.bt 24)))) (yq rfl (Rn.qt (qpick rfl rfl (pkA rfl rfl)))) ?_
  try simp only [Act.put, List.setIfInBounds_toArray, List.set_cons_zero, List.set_cons_succ]
  refine q_put (v := .bool (((((p.nm 65) == 0) || (p.bt 4)) && (((p.nm 70) == 0) || (!(p.bt 20)))) && (!(p.bt 24)))) (yq rfl (Rn.qt (qassign rfl rfl))) ?_
  try simp only [Act.put, List.setIfInBounds_toArray, List.set_cons_zero, List.set_cons_succ]
  refine wpQuiet_nil ?_
  rintro y_ hy_
  rw [hy_]
  clear hy_ y_
  obtain ⟨MY, hMY⟩ : ∃ z, mayP p = z := ⟨_, rfl⟩
  have EMY : Hid (mayP p = MY) := hMY
  unfold mayP at hMY
  rw [hMY]
  clear hMY
  go_upto_region 3 with fail
  refine wp_plain (C := fun w' => w' = W0) rfl ?_
  refine q_put (v := .pointer (some ⟨w.heap.size, 0 + 7, none⟩)) (yq rfl (Rn.qt (qfield rfl rfl fp7))) ?_
  try simp only [Act.put, List.setIfInBounds_toArray, List.set_cons_zero, List.set_cons_succ]
  refine q_put (v := .bool (p.bt 7)) (yq rfl (Rn.qt (qload rfl rfl (R.bit rfl)))) ?_
  try simp only [Act.put, List.setIfInBounds_toArray, List.set_cons_zero, List.set_cons_succ]
  refine q_put (v := .bool (!(p.bt 7))) (yq rfl (Rn.qt (qnot rfl rfl))) ?_
  try simp only [Act.put, List.setIfInBounds_toArray, List.set_cons_zero, List.set_cons_succ]
  refine q_put (v := .bool (!(p.bt 7))) (yq rfl (Rn.qt (qmove rfl rfl))) ?_
  try simp only [Act.put, List.setIfInBounds_toArray, List.set_cons_zero, List.set_cons_succ]
  refine q_put (v := gd (!(p.bt 7)) true (.pointer (some ⟨w.heap.size, 0 + 4, none⟩))) (yq1 rfl rfl (fun e => Rn.qt (qfield rfl rfl fp4))) ?_
  try simp only [Act.put, List.setIfInBounds_toArray, List.set_cons_zero, List.set_cons_succ]
  refine q_put (v := gd (!(p.bt 7)) true (.bool (p.bt 4))) (yq1 rfl rfl (fun e => Rn.qt (qload rfl (on e rfl) (R.bit rfl)))) ?_
  try simp only [Act.put, List.setIfInBounds_toArray, List.set_cons_zero, List.set_cons_succ]
  refine q_put (v := gd (!(p.bt 7)) true (.bool (!(p.bt 4)))) (yq1 rfl rfl (fun e => Rn.qt (qnot rfl (on e rfl)))) ?_
  try simp only [Act.put, List.setIfInBounds_toArray, List.set_cons_zero, List.set_cons_succ]
  refine q_put (v := .bool ((!(p.bt 7)) && (!(p.bt 4)))) (yq rfl (Rn.qt (qpick rfl rfl (pkA rfl rfl)))) ?_
  try simp only [Act.put, List.setIfInBounds_toArray, List.set_cons_zero, List.set_cons_succ]
  refine q_put (v := .bool ((!(p.bt 7)) && (!(p.bt 4)))) (yq rfl (Rn.qt (qmove rfl rfl))) ?_
  try simp only [Act.put, List.setIfInBounds_toArray, List.set_cons_zero, List.set_cons_succ]
  refine q_put (v := gd ((!(p.bt 7)) && (!(p.bt 4))) true (.pointer (some ⟨w.heap.size, 0 + 13, none⟩))) (yq1 rfl rfl (fun e => Rn.qt (qfield rfl rfl fp13))) ?_
  try simp only [Act.put, List.setIfInBounds_toArray, List.set_cons_zero, List.set_cons_succ]
  refine q_put (v := gd ((!(p.bt 7)) && (!(p.bt 4))) true (.bool (p.bt 13))) (yq1 rfl rfl (fun e => Rn.qt (qload rfl (on e rfl) (R.bit rfl)))) ?_
  try simp only [Act.put, List.setIfInBounds_toArray, List.set_cons_zero, List.set_cons_succ]
  refine q_put (v := gd ((!(p.bt 7)) && (!(p.bt 4))) true (.bool (!(p.bt 13)))) (yq1 rfl rfl (fun e => Rn.qt (qnot rfl (on e rfl)))) ?_
  try simp only [Act.put, List.setIfInBounds_toArray, List.set_cons_zero, List.set_cons_succ]
  refine q_put (v := .bool (((!(p.bt 7)) && (!(p.bt 4))) && (!(p.bt 13)))) (yq rfl (Rn.qt (qpick rfl rfl (pkA rfl rfl)))) ?_
  try simp only [Act.put, List.setIfInBounds_toArray, List.set_cons_zero, List.set_cons_succ]
  refine q_put (v := .bool (((!(p.bt 7)) && (!(p.bt 4))) && (!(p.bt 13)))) (yq rfl (Rn.qt (qassign rfl rfl))) ?_
  try simp only [Act.put, List.setIfInBounds_toArray, List.set_cons_zero, List.set_cons_succ]
  refine wpQuiet_nil ?_
  rintro y_ hy_
  rw [hy_]
  clear hy_ y_
  have hc := EC0.out
  rw [hc]
  clear hc
  cases C0
  rotate_left
  · have E : OO = some (prsP p) := by
      rw [← EO.out]
      unfold dsgO
      rw [if_pos EC0.out]
    have S0 := H.out
    obtain ⟨W1, s1, S1⟩ := S0.setB kb13 true
    obtain ⟨W2, s2, S2⟩ := S1.setB kb11 true
    have S2 : PS w W2 w.heap.size (w.heap.size + 1) (prsP p) := by exact S2
    have lX := S2.ld
    obtain ⟨U, sU, G0⟩ := S2.tell (prsP p)
    have G : Hid (RvAt U (w.heap.size + 1) 45 (prsP p).cs ∧ (Ending.returned (.tuple #[.agg (prsP p).cs, .bool true]) = .returned (.tuple #[.agg (OO.getD p).cs, .bool OO.isSome]) ∧ Below w.heap.size w U)) := ⟨G0.1, by rw [E]; rfl, G0.2⟩
    clear G0 E S0 S1 S2 lp
    go_wp2_with (with_reducible exact ret_pb Try.results23 (by with_unfolding_all rfl) (by with_unfolding_all rfl) (by with_unfolding_all rfl) G.out.1 G.out.2)
  go_upto_region 5 with fail
  refine wp_plain (C := fun w' => w' = W0) rfl ?_
  refine q_put (v := .pointer (some ⟨w.heap.size, 0 + 10, none⟩)) (yq rfl (Rn.qt (qfield rfl rfl fp10))) ?_
  try simp only [Act.put, List.setIfInBounds_toArray, List.set_cons_zero, List.set_cons_succ]
  refine q_put (v := .bool (p.bt 10)) (yq rfl (Rn.qt (qload rfl rfl (R.bit rfl)))) ?_
  try simp only [Act.put, List.setIfInBounds_toArray, List.set_cons_zero, List.set_cons_succ]
  refine q_put (v := .bool (!(p.bt 10))) (yq rfl (Rn.qt (qnot rfl rfl))) ?_
  try simp only [Act.put, List.setIfInBounds_toArray, List.set_cons_zero, List.set_cons_succ]
  refine q_put (v := .bool (!(p.bt 10))) (yq rfl (Rn.qt (qmove rfl rfl))) ?_
  try simp only [Act.put, List.setIfInBounds_toArray, List.set_cons_zero, List.set_cons_succ]
  refine q_put (v := gd (!(p.bt 10)) true (.pointer (some ⟨w.heap.size, 0 + 8, none⟩))) (yq1 rfl rfl (fun e => Rn.qt (qfield rfl rfl fp8))) ?_
  try simp only [Act.put, List.setIfInBounds_toArray, List.set_cons_zero, List.set_cons_succ]
  refine q_put (v := gd (!(p.bt 10)) true (.bool (p.bt 8))) (yq1 rfl rfl (fun e => Rn.qt (qload rfl (on e rfl) (R.bit rfl)))) ?_
  try simp only [Act.put, List.setIfInBounds_toArray, List.set_cons_zero, List.set_cons_succ]
  refine q_put (v := gd (!(p.bt 10)) true (.bool (!(p.bt 8)))) (yq1 rfl rfl (fun e => Rn.qt (qnot rfl (on e rfl)))) ?_
  try simp only [Act.put, List.setIfInBounds_toArray, List.set_cons_zero, List.set_cons_succ]
  refine q_put (v := .bool ((!(p.bt 10)) && (!(p.bt 8)))) (yq rfl (Rn.qt (qpick rfl rfl (pkA rfl rfl)))) ?_
  try simp only [Act.put, List.setIfInBounds_toArray, List.set_cons_zero, List.set_cons_succ]
  refine q_put (v := .bool ((!(p.bt 10)) && (!(p.bt 8)))) (yq rfl (Rn.qt (qmove rfl rfl))) ?_
  try simp only [Act.put, List.setIfInBounds_toArray, List.set_cons_zero, List.set_cons_succ]
  refine q_put (v := gd ((!(p.bt 10)) && (!(p.bt 8))) true (.pointer (some ⟨w.heap.size, 0 + 25, none⟩))) (yq1 rfl rfl (fun e => Rn.qt (qfield rfl rfl fp25))) ?_
  try simp only [Act.put, List.setIfInBounds_toArray, List.set_cons_zero, List.set_cons_succ]
  refine q_put (v := gd ((!(p.bt 10)) && (!(p.bt 8))) true (.bool (p.bt 25))) (yq1 rfl rfl (fun e => Rn.qt (qload rfl (on e rfl) (R.bit rfl)))) ?_
  try simp only [Act.put, List.setIfInBounds_toArray, List.set_cons_zero, List.set_cons_succ]
  refine q_put (v := gd ((!(p.bt 10)) && (!(p.bt 8))) true (.bool (!(p.bt 25)))) (yq1 rfl rfl (fun e => Rn.qt (qnot rfl (on e rfl)))) ?_
  try simp only [Act.put, List.setIfInBounds_toArray, List.set_cons_zero, List.set_cons_succ]
  refine q_put (v := .bool (((!(p.bt 10)) && (!(p.bt 8))) && (!(p.bt 25)))) (yq rfl (Rn.qt (qpick rfl rfl (pkA rfl rfl)))) ?_
  try simp only [Act.put, List.setIfInBounds_toArray, List.set_cons_zero, List.set_cons_succ]
  refine q_put (v := .bool (((!(p.bt 10)) && (!(p.bt 8))) && (!(p.bt 25)))) (yq rfl (Rn.qt (qmove rfl rfl))) ?_
  try simp only [Act.put, List.setIfInBounds_toArray, List.set_cons_zero, List.set_cons_succ]
  refine q_put (v := gd (((!(p.bt 10)) && (!(p.bt 8))) && (!(p.bt 25))) false (.pointer (some ⟨w.heap.size, 0 + 4, none⟩))) (yq1 rfl rfl (fun e => Rn.qt (qfield rfl rfl fp4))) ?_
  try simp only [Act.put, List.setIfInBounds_toArray, List.set_cons_zero, List.set_cons_succ]
  refine q_put (v := gd (((!(p.bt 10)) && (!(p.bt 8))) && (!(p.bt 25))) false (.bool (p.bt 4))) (yq1 rfl rfl (fun e => Rn.qt (qload rfl (on e rfl) (R.bit rfl)))) ?_
  try simp only [Act.put, List.setIfInBounds_toArray, List.set_cons_zero, List.set_cons_succ]
  refine q_put (v := gd (((!(p.bt 10)) && (!(p.bt 8))) && (!(p.bt 25))) false (.bool (p.bt 4))) (yq1 rfl rfl (fun e => Rn.qt (qmove rfl (on e rfl)))) ?_
  try simp only [Act.put, List.setIfInBounds_toArray, List.set_cons_zero, List.set_cons_succ]
  refine q_put (v := gd (((!(p.bt 10)) && (!(p.bt 8))) && (!(p.bt 25))) false (gd (p.bt 4) true (.pointer (some ⟨w.heap.size, 0 + 25, none⟩)))) (yq2 rfl rfl (fun e1 e2 => Rn.qt (qfield rfl rfl fp25))) ?_
  try simp only [Act.put, List.setIfInBounds_toArray, List.set_cons_zero, List.set_cons_succ]
  refine q_put (v := gd (((!(p.bt 10)) && (!(p.bt 8))) && (!(p.bt 25))) false (gd (p.bt 4) true (.bool (p.bt 25)))) (yq2 rfl rfl (fun e1 e2 => Rn.qt (qload rfl (on e2 (on e1 rfl)) (R.bit rfl)))) ?_
  try simp only [Act.put, List.setIfInBounds_toArray, List.set_cons_zero, List.set_cons_succ]
  refine q_put (v := gd (((!(p.bt 10)) && (!(p.bt 8))) && (!(p.bt 25))) false (gd (p.bt 4) true (.bool (!(p.bt 25))))) (yq2 rfl rfl (fun e1 e2 => Rn.qt (qnot rfl (on e2 (on e1 rfl))))) ?_
  try simp only [Act.put, List.setIfInBounds_toArray, List.set_cons_zero, List.set_cons_succ]
  refine q_put (v := gd (((!(p.bt 10)) && (!(p.bt 8))) && (!(p.bt 25))) false (.bool ((p.bt 4) && (!(p.bt 25))))) (yq1 rfl rfl (fun e => Rn.qt (qpick rfl (on e rfl) (pkA (on e rfl) rfl)))) ?_
  try simp only [Act.put, List.setIfInBounds_toArray, List.set_cons_zero, List.set_cons_succ]
  refine q_put (v := .bool ((((!(p.bt 10)) && (!(p.bt 8))) && (!(p.bt 25))) || ((p.bt 4) && (!(p.bt 25))))) (yq rfl (Rn.qt (qpick rfl rfl (pkO rfl rfl)))) ?_
  try simp only [Act.put, List.setIfInBounds_toArray, List.set_cons_zero, List.set_cons_succ]
  refine q_put (v := .bool ((((!(p.bt 10)) && (!(p.bt 8))) && (!(p.bt 25))) || ((p.bt 4) && (!(p.bt 25))))) (yq rfl (Rn.qt (qmove rfl rfl))) ?_
  try simp only [Act.put, List.setIfInBounds_toArray, List.set_cons_zero, List.set_cons_succ]
  refine q_put (v := gd ((((!(p.bt 10)) && (!(p.bt 8))) && (!(p.bt 25))) || ((p.bt 4) && (!(p.bt 25)))) false (.pointer (some ⟨w.heap.size, 0 + 24, none⟩))) (yq1 rfl rfl (fun e => Rn.qt (qfield rfl rfl fp24))) ?_
  try simp only [Act.put, List.setIfInBounds_toArray, List.set_cons_zero, List.set_cons_succ]
  refine q_put (v := gd ((((!(p.bt 10)) && (!(p.bt 8))) && (!(p.bt 25))) || ((p.bt 4) && (!(p.bt 25)))) false (.bool (p.bt 24))) (yq1 rfl rfl (fun e => Rn.qt (qload rfl (on e rfl) (R.bit rfl)))) ?_
  try simp only [Act.put, List.setIfInBounds_toArray, List.set_cons_zero, List.set_cons_succ]
  refine q_put (v := gd ((((!(p.bt 10)) && (!(p.bt 8))) && (!(p.bt 25))) || ((p.bt 4) && (!(p.bt 25)))) false (.bool (p.bt 24))) (yq1 rfl rfl (fun e => Rn.qt (qmove rfl (on e rfl)))) ?_
  try simp only [Act.put, List.setIfInBounds_toArray, List.set_cons_zero, List.set_cons_succ]
  refine q_put (v := gd ((((!(p.bt 10)) && (!(p.bt 8))) && (!(p.bt 25))) || ((p.bt 4) && (!(p.bt 25)))) false (gd (p.bt 24) true (.pointer (some ⟨w.heap.size, 0 + 25, none⟩)))) (yq2 rfl rfl (fun e1 e2 => Rn.qt (qfield rfl rfl fp25))) ?_
  try simp only [Act.put, List.setIfInBounds_toArray, List.set_cons_zero, List.set_cons_succ]
  refine q_put (v := gd ((((!(p.bt 10)) && (!(p.bt 8))) && (!(p.bt 25))) || ((p.bt 4) && (!(p.bt 25)))) false (gd (p.bt 24) true (.bool (p.bt 25)))) (yq2 rfl rfl (fun e1 e2 => Rn.qt (qload rfl (on e2 (on e1 rfl)) (R.bit rfl)))) ?_
  try simp only [Act.put, List.setIfInBounds_toArray, List.set_cons_zero, List.set_cons_succ]
  refine q_put (v := gd ((((!(p.bt 10)) && (!(p.bt 8))) && (!(p.bt 25))) || ((p.bt 4) && (!(p.bt 25)))) false (.bool ((p.bt 24) && (p.bt 25)))) (yq1 rfl rfl (fun e => Rn.qt (qpick rfl (on e rfl) (pkA (on e rfl) rfl)))) ?_
  try simp only [Act.put, List.setIfInBounds_toArray, List.set_cons_zero, List.set_cons_succ]
  refine q_put (v := .bool (((((!(p.bt 10)) && (!(p.bt 8))) && (!(p.bt 25))) || ((p.bt 4) && (!(p.bt 25)))) || ((p.bt 24) && (p.bt 25)))) (yq rfl (Rn.qt (qpick rfl rfl (pkO rfl rfl)))) ?_
  try simp only [Act.put, List.setIfInBounds_toArray, List.set_cons_zero, List.set_cons_succ]
  refine q_put (v := .bool (((((!(p.bt 10)) && (!(p.bt 8))) && (!(p.bt 25))) || ((p.bt 4) && (!(p.bt 25)))) || ((p.bt 24) && (p.bt 25)))) (yq rfl (Rn.qt (qassign rfl rfl))) ?_
  try simp only [Act.put, List.setIfInBounds_toArray, List.set_cons_zero, List.set_cons_succ]
  refine wpQuiet_nil ?_
  rintro y_ hy_
  rw [hy_]
  clear hy_ y_
  have hc := EC1.out
  unfold stopB at hc
  rw [hc]
  clear hc
  cases C1
  rotate_left
  · have E : OO = some (synP p) := by
      rw [← EO.out]
      unfold dsgO
      rw [if_neg (by rw [EC0.out]; decide), if_pos EC1.out]
    have S0 := H.out
    obtain ⟨W1, s1, S1⟩ := S0.setU ku70 (n := 0) (by omega)
    obtain ⟨W2, s2, S2⟩ := S1.setB kb25 true
    obtain ⟨W3, s3, S3⟩ := S2.setB kb24 false
    have S3 : PS w W3 w.heap.size (w.heap.size + 1) (synP p) := by exact S3
    have lX := S3.ld
    obtain ⟨U, sU, G0⟩ := S3.tell (synP p)
    have G : Hid (RvAt U (w.heap.size + 1) 45 (synP p).cs ∧ (Ending.returned (.tuple #[.agg (synP p).cs, .bool true]) = .returned (.tuple #[.agg (OO.getD p).cs, .bool OO.isSome]) ∧ Below w.heap.size w U)) := ⟨G0.1, by rw [E]; rfl, G0.2⟩
    clear G0 E S0 S1 S2 S3 lp
    go_wp2_with (with_reducible exact ret_pb Try.results23 (by with_unfolding_all rfl) (by with_unfolding_all rfl) (by with_unfolding_all rfl) G.out.1 G.out.2)
  go_upto_region 7 with fail
  refine wp_plain (C := fun w' => w' = W0) rfl ?_
  refine q_put (v := .pointer (some ⟨w.heap.size, 0 + 70, none⟩)) (yq rfl (Rn.qt (qfield rfl rfl fp43))) ?_
  try simp only [Act.put, List.setIfInBounds_toArray, List.set_cons_zero, List.set_cons_succ]
  refine q_put (v := .int .u8 (p.nm 70)) (yq rfl (Rn.qt (qload rfl rfl (R.u8 rfl)))) ?_
  try simp only [Act.put, List.setIfInBounds_toArray, List.set_cons_zero, List.set_cons_succ]
  refine q_put (v := .bool ((p.nm 70) == 0)) (yq rfl (Rn.qt (qbin rfl rfl rfl (eg_u8 _ _ _ _ _) (eq_u8 _ _)))) ?_
  try simp only [Act.put, List.setIfInBounds_toArray, List.set_cons_zero, List.set_cons_succ]
  refine q_put (v := .bool ((p.nm 70) == 0)) (yq rfl (Rn.qt (qmove rfl rfl))) ?_
  try simp only [Act.put, List.setIfInBounds_toArray, List.set_cons_zero, List.set_cons_succ]
  refine q_put (v := gd ((p.nm 70) == 0) true (.pointer (some ⟨w.heap.size, 0 + 20, none⟩))) (yq1 rfl rfl (fun e => Rn.qt (qfield rfl rfl fp20))) ?_
  try simp only [Act.put, List.setIfInBounds_toArray, List.set_cons_zero, List.set_cons_succ]
  refine q_put (v := gd ((p.nm 70) == 0) true (.bool (p.bt 20))) (yq1 rfl rfl (fun e => Rn.qt (qload rfl (on e rfl) (R.bit rfl)))) ?_
  try simp only [Act.put, List.setIfInBounds_toArray, List.set_cons_zero, List.set_cons_succ]
  refine q_put (v := .bool (((p.nm 70) == 0) && (p.bt 20))) (yq rfl (Rn.qt (qpick rfl rfl (pkA rfl rfl)))) ?_
  try simp only [Act.put, List.setIfInBounds_toArray, List.set_cons_zero, List.set_cons_succ]
  refine q_put (v := .bool (((p.nm 70) == 0) && (p.bt 20))) (yq rfl (Rn.qt (qassign rfl rfl))) ?_
  try simp only [Act.put, List.setIfInBounds_toArray, List.set_cons_zero, List.set_cons_succ]
  refine wpQuiet_nil ?_
  rintro y_ hy_
  rw [hy_]
  clear hy_ y_
  have hc := EC2.out
  rw [hc]
  clear hc
  cases C2
  rotate_left
  · have E : OO = some (rrdP p) := by
      rw [← EO.out]
      unfold dsgO
      rw [if_neg (by rw [EC0.out]; decide), if_neg (by rw [EC1.out]; decide), if_pos EC2.out]
    have S0 := H.out
    obtain ⟨W1, s1, S1⟩ := S0.setB kb20 false
    have S1 : PS w W1 w.heap.size (w.heap.size + 1) (rrdP p) := by exact S1
    have lX := S1.ld
    obtain ⟨U, sU, G0⟩ := S1.tell (rrdP p)
    have G : Hid (RvAt U (w.heap.size + 1) 45 (rrdP p).cs ∧ (Ending.returned (.tuple #[.agg (rrdP p).cs, .bool true]) = .returned (.tuple #[.agg (OO.getD p).cs, .bool OO.isSome]) ∧ Below w.heap.size w U)) := ⟨G0.1, by rw [E]; rfl, G0.2⟩
    clear G0 E S0 S1 lp
    go_wp2_with (with_reducible exact ret_pb Try.results23 (by with_unfolding_all rfl) (by with_unfolding_all rfl) (by with_unfolding_all rfl) G.out.1 G.out.2)
  go_upto_region 9 with fail
  refine wp_plain (C := fun w' => w' = W0) rfl ?_
  refine q_put (v := .pointer (some ⟨w.heap.size, 0 + 24, none⟩)) (yq rfl (Rn.qt (qfield rfl rfl fp24))) ?_
  try simp only [Act.put, List.setIfInBounds_toArray, List.set_cons_zero, List.set_cons_succ]
  refine q_put (v := .bool (p.bt 24)) (yq rfl (Rn.qt (qload rfl rfl (R.bit rfl)))) ?_
  try simp only [Act.put, List.setIfInBounds_toArray, List.set_cons_zero, List.set_cons_succ]
  refine q_put (v := .bool (p.bt 24)) (yq rfl (Rn.qt (qmove rfl rfl))) ?_
  try simp only [Act.put, List.setIfInBounds_toArray, List.set_cons_zero, List.set_cons_succ]
  refine q_put (v := gd (p.bt 24) true (.pointer (some ⟨w.heap.size, 0 + 25, none⟩))) (yq1 rfl rfl (fun e => Rn.qt (qfield rfl rfl fp25))) ?_
  try simp only [Act.put, List.setIfInBounds_toArray, List.set_cons_zero, List.set_cons_succ]
  refine q_put (v := gd (p.bt 24) true (.bool (p.bt 25))) (yq1 rfl rfl (fun e => Rn.qt (qload rfl (on e rfl) (R.bit rfl)))) ?_
  try simp only [Act.put, List.setIfInBounds_toArray, List.set_cons_zero, List.set_cons_succ]
  refine q_put (v := gd (p.bt 24) true (.bool (!(p.bt 25)))) (yq1 rfl rfl (fun e => Rn.qt (qnot rfl (on e rfl)))) ?_
  try simp only [Act.put, List.setIfInBounds_toArray, List.set_cons_zero, List.set_cons_succ]
  refine q_put (v := .bool ((p.bt 24) && (!(p.bt 25)))) (yq rfl (Rn.qt (qpick rfl rfl (pkA rfl rfl)))) ?_
  try simp only [Act.put, List.setIfInBounds_toArray, List.set_cons_zero, List.set_cons_succ]
  refine q_put (v := .bool ((p.bt 24) && (!(p.bt 25)))) (yq rfl (Rn.qt (qmove rfl rfl))) ?_
  try simp only [Act.put, List.setIfInBounds_toArray, List.set_cons_zero, List.set_cons_succ]
  refine q_put (v := gd ((p.bt 24) && (!(p.bt 25))) false (.pointer (some ⟨w.heap.size, 0 + 20, none⟩))) (yq1 rfl rfl (fun e => Rn.qt (qfield rfl rfl fp20))) ?_
  try simp only [Act.put, List.setIfInBounds_toArray, List.set_cons_zero, List.set_cons_succ]
  refine q_put (v := gd ((p.bt 24) && (!(p.bt 25))) false (.bool (p.bt 20))) (yq1 rfl rfl (fun e => Rn.qt (qload rfl (on e rfl) (R.bit rfl)))) ?_
  try simp only [Act.put, List.setIfInBounds_toArray, List.set_cons_zero, List.set_cons_succ]
  refine q_put (v := gd ((p.bt 24) && (!(p.bt 25))) false (.bool (p.bt 20))) (yq1 rfl rfl (fun e => Rn.qt (qmove rfl (on e rfl)))) ?_
  try simp only [Act.put, List.setIfInBounds_toArray, List.set_cons_zero, List.set_cons_succ]
  refine q_put (v := gd ((p.bt 24) && (!(p.bt 25))) false (gd (p.bt 20) true (.pointer (some ⟨w.heap.size, 0 + 70, none⟩)))) (yq2 rfl rfl (fun e1 e2 => Rn.qt (qfield rfl rfl fp43))) ?_
  try simp only [Act.put, List.setIfInBounds_toArray, List.set_cons_zero, List.set_cons_succ]
  refine q_put (v := gd ((p.bt 24) && (!(p.bt 25))) false (gd (p.bt 20) true (.int .u8 (p.nm 70)))) (yq2 rfl rfl (fun e1 e2 => Rn.qt (qload rfl (on e2 (on e1 rfl)) (R.u8 rfl)))) ?_
  try simp only [Act.put, List.setIfInBounds_toArray, List.set_cons_zero, List.set_cons_succ]
  refine q_put (v := gd ((p.bt 24) && (!(p.bt 25))) false (gd (p.bt 20) true (.bool ((p.nm 70) != 0)))) (yq2 rfl rfl (fun e1 e2 => Rn.qt (qbin rfl (on e2 (on e1 rfl)) rfl (eg_u8 _ _ _ _ _) (ne_u8 _ _)))) ?_
  try simp only [Act.put, List.setIfInBounds_toArray, List.set_cons_zero, List.set_cons_succ]
  refine q_put (v := gd ((p.bt 24) && (!(p.bt 25))) false (.bool ((p.bt 20) && ((p.nm 70) != 0)))) (yq1 rfl rfl (fun e => Rn.qt (qpick rfl (on e rfl) (pkA (on e rfl) rfl)))) ?_
  try simp only [Act.put, List.setIfInBounds_toArray, List.set_cons_zero, List.set_cons_succ]
  refine q_put (v := .bool (((p.bt 24) && (!(p.bt 25))) || ((p.bt 20) && ((p.nm 70) != 0)))) (yq rfl (Rn.qt (qpick rfl rfl (pkO rfl rfl)))) ?_
  try simp only [Act.put, List.setIfInBounds_toArray, List.set_cons_zero, List.set_cons_succ]
  refine q_put (v := .bool (((p.bt 24) && (!(p.bt 25))) || ((p.bt 20) && ((p.nm 70) != 0)))) (yq rfl (Rn.qt (qmove rfl rfl))) ?_
  try simp only [Act.put, List.setIfInBounds_toArray, List.set_cons_zero, List.set_cons_succ]
  refine q_put (v := gd (((p.bt 24) && (!(p.bt 25))) || ((p.bt 20) && ((p.nm 70) != 0))) false (.pointer (some ⟨w.heap.size, 0 + 5, none⟩))) (yq1 rfl rfl (fun e => Rn.qt (qfield rfl rfl fp5))) ?_
  try simp only [Act.put, List.setIfInBounds_toArray, List.set_cons_zero, List.set_cons_succ]
  refine q_put (v := gd (((p.bt 24) && (!(p.bt 25))) || ((p.bt 20) && ((p.nm 70) != 0))) false (.bool (p.bt 5))) (yq1 rfl rfl (fun e => Rn.qt (qload rfl (on e rfl) (R.bit rfl)))) ?_
  try simp only [Act.put, List.setIfInBounds_toArray, List.set_cons_zero, List.set_cons_succ]
  refine q_put (v := .bool ((((p.bt 24) && (!(p.bt 25))) || ((p.bt 20) && ((p.nm 70) != 0))) || (p.bt 5))) (yq rfl (Rn.qt (qpick rfl rfl (pkO rfl rfl)))) ?_
  try simp only [Act.put, List.setIfInBounds_toArray, List.set_cons_zero, List.set_cons_succ]
  refine q_put (v := .bool ((((p.bt 24) && (!(p.bt 25))) || ((p.bt 20) && ((p.nm 70) != 0))) || (p.bt 5))) (yq rfl (Rn.qt (qmove rfl rfl))) ?_
  try simp only [Act.put, List.setIfInBounds_toArray, List.set_cons_zero, List.set_cons_succ]
  refine q_put (v := gd ((((p.bt 24) && (!(p.bt 25))) || ((p.bt 20) && ((p.nm 70) != 0))) || (p.bt 5)) true (.pointer (some ⟨w.heap.size, 0 + 9, none⟩))) (yq1 rfl rfl (fun e => Rn.qt (qfield rfl rfl fp9))) ?_
  try simp only [Act.put, List.setIfInBounds_toArray, List.set_cons_zero, List.set_cons_succ]
  refine q_put (v := gd ((((p.bt 24) && (!(p.bt 25))) || ((p.bt 20) && ((p.nm 70) != 0))) || (p.bt 5)) true (.bool (p.bt 9))) (yq1 rfl rfl (fun e => Rn.qt (qload rfl (on e rfl) (R.bit rfl)))) ?_
  try simp only [Act.put, List.setIfInBounds_toArray, List.set_cons_zero, List.set_cons_succ]
  refine q_put (v := gd ((((p.bt 24) && (!(p.bt 25))) || ((p.bt 20) && ((p.nm 70) != 0))) || (p.bt 5)) true (.bool (p.bt 9))) (yq1 rfl rfl (fun e => Rn.qt (qmove rfl (on e rfl)))) ?_
  try simp only [Act.put, List.setIfInBounds_toArray, List.set_cons_zero, List.set_cons_succ]
  refine q_put (v := gd ((((p.bt 24) && (!(p.bt 25))) || ((p.bt 20) && ((p.nm 70) != 0))) || (p.bt 5)) true (gd (p.bt 9) false (.pointer (some ⟨w.heap.size, 0 + 7, none⟩)))) (yq2 rfl rfl (fun e1 e2 => Rn.qt (qfield rfl rfl fp7))) ?_
  try simp only [Act.put, List.setIfInBounds_toArray, List.set_cons_zero, List.set_cons_succ]
  refine q_put (v := gd ((((p.bt 24) && (!(p.bt 25))) || ((p.bt 20) && ((p.nm 70) != 0))) || (p.bt 5)) true (gd (p.bt 9) false (.bool (p.bt 7)))) (yq2 rfl rfl (fun e1 e2 => Rn.qt (qload rfl (on e2 (on e1 rfl)) (R.bit rfl)))) ?_
  try simp only [Act.put, List.setIfInBounds_toArray, List.set_cons_zero, List.set_cons_succ]
  refine q_put (v := gd ((((p.bt 24) && (!(p.bt 25))) || ((p.bt 20) && ((p.nm 70) != 0))) || (p.bt 5)) true (.bool ((p.bt 9) || (p.bt 7)))) (yq1 rfl rfl (fun e => Rn.qt (qpick rfl (on e rfl) (pkO rfl (on e rfl))))) ?_
  try simp only [Act.put, List.setIfInBounds_toArray, List.set_cons_zero, List.set_cons_succ]
  refine q_put (v := .bool (((((p.bt 24) && (!(p.bt 25))) || ((p.bt 20) && ((p.nm 70) != 0))) || (p.bt 5)) && ((p.bt 9) || (p.bt 7)))) (yq rfl (Rn.qt (qpick rfl rfl (pkA rfl rfl)))) ?_
  try simp only [Act.put, List.setIfInBounds_toArray, List.set_cons_zero, List.set_cons_succ]
  refine q_put (v := .bool (((((p.bt 24) && (!(p.bt 25))) || ((p.bt 20) && ((p.nm 70) != 0))) || (p.bt 5)) && ((p.bt 9) || (p.bt 7)))) (yq rfl (Rn.qt (qassign rfl rfl))) ?_
  try simp only [Act.put, List.setIfInBounds_toArray, List.set_cons_zero, List.set_cons_succ]
  refine wpQuiet_nil ?_
  rintro y_ hy_
  rw [hy_]
  clear hy_ y_
  have hc := EC3.out
  unfold mustB at hc
  rw [hc]
  clear hc
  cases C3
  rotate_left
  · have E : OO = some (stpP p) := by
      rw [← EO.out]
      unfold dsgO
      rw [if_neg (by rw [EC0.out]; decide), if_neg (by rw [EC1.out]; decide), if_neg (by rw [EC2.out]; decide), if_pos EC3.out]
    go_wp2_with fail
    refine (rdelay_any p _).mono ?_
    rintro _ W1 ⟨rfl, b1⟩
    have S1 := H.out.below b1
    clear b1
    obtain ⟨W2, s2, S2⟩ := S1.setB kb9 false
    obtain ⟨W3, s3, S3⟩ := S2.setB kb7 false
    obtain ⟨W4, s4, S4⟩ := S3.setB kb5 false
    obtain ⟨W5, s5, S5⟩ := S4.setU ku65 (n := delayP p) (delay_in p)
    have S5 : PS w W5 w.heap.size (w.heap.size + 1) (stpP p) := by rw [← stp_ref p]; exact S5
    have lX := S5.ld
    obtain ⟨U, sU, G0⟩ := S5.tell (stpP p)
    have G : Hid (RvAt U (w.heap.size + 1) 45 (stpP p).cs ∧ (Ending.returned (.tuple #[.agg (stpP p).cs, .bool true]) = .returned (.tuple #[.agg (OO.getD p).cs, .bool OO.isSome]) ∧ Below w.heap.size w U)) := ⟨G0.1, by rw [E]; rfl, G0.2⟩
    clear G0 E S1 S2 S3 S4 S5 lp
    go_wp2_with (with_reducible exact ret_pb Try.results23 (by with_unfolding_all rfl) (by with_unfolding_all rfl) (by with_unfolding_all rfl) G.out.1 G.out.2)
  go_upto_region 11 with fail
  refine wp_plain (C := fun w' => w' = W0) rfl ?_
  refine q_put (v := .bool MY) (yq rfl (Rn.qt (qmove rfl rfl))) ?_
  try simp only [Act.put, List.setIfInBounds_toArray, List.set_cons_zero, List.set_cons_succ]
  refine q_put (v := .bool MY) (yq rfl (Rn.qt (qmove rfl rfl))) ?_
  try simp only [Act.put, List.setIfInBounds_toArray, List.set_cons_zero, List.set_cons_succ]
  refine q_put (v := gd MY true (.pointer (some ⟨w.heap.size, 0 + 9, none⟩))) (yq1 rfl rfl (fun e => Rn.qt (qfield rfl rfl fp9))) ?_
  try simp only [Act.put, List.setIfInBounds_toArray, List.set_cons_zero, List.set_cons_succ]
  refine q_put (v := gd MY true (.bool (p.bt 9))) (yq1 rfl rfl (fun e => Rn.qt (qload rfl (on e rfl) (R.bit rfl)))) ?_
  try simp only [Act.put, List.setIfInBounds_toArray, List.set_cons_zero, List.set_cons_succ]
  refine q_put (v := gd MY true (.bool (!(p.bt 9)))) (yq1 rfl rfl (fun e => Rn.qt (qnot rfl (on e rfl)))) ?_
  try simp only [Act.put, List.setIfInBounds_toArray, List.set_cons_zero, List.set_cons_succ]
  refine q_put (v := .bool (MY && (!(p.bt 9)))) (yq rfl (Rn.qt (qpick rfl rfl (pkA rfl rfl)))) ?_
  try simp only [Act.put, List.setIfInBounds_toArray, List.set_cons_zero, List.set_cons_succ]
  refine q_put (v := .bool (MY && (!(p.bt 9)))) (yq rfl (Rn.qt (qassign rfl rfl))) ?_
  try simp only [Act.put, List.setIfInBounds_toArray, List.set_cons_zero, List.set_cons_succ]
  refine wpQuiet_nil ?_
  rintro y_ hy_
  rw [hy_]
  clear hy_ y_
  have hc := EC4.out
  rw [EMY.out] at hc
  rw [hc]
  clear hc
  cases C4
  rotate_left
  · have E : OO = some (lrnP p) := by
      rw [← EO.out]
      unfold dsgO
      rw [if_neg (by rw [EC0.out]; decide), if_neg (by rw [EC1.out]; decide), if_neg (by rw [EC2.out]; decide), if_neg (by rw [EC3.out]; decide), if_pos EC4.out]
    go_wp2_with fail
    refine (rdelay_any p _).mono ?_
    rintro _ W1 ⟨rfl, b1⟩
    have S1 := H.out.below b1
    clear b1
    obtain ⟨W2, s2, S2⟩ := S1.setB kb9 true
    obtain ⟨W3, s3, S3⟩ := S2.setU ku65 (n := delayP p) (delay_in p)
    have S3 : PS w W3 w.heap.size (w.heap.size + 1) (lrnP p) := by exact S3
    have lX := S3.ld
    obtain ⟨U, sU, G0⟩ := S3.tell (lrnP p)
    have G : Hid (RvAt U (w.heap.size + 1) 45 (lrnP p).cs ∧ (Ending.returned (.tuple #[.agg (lrnP p).cs, .bool true]) = .returned (.tuple #[.agg (OO.getD p).cs, .bool OO.isSome]) ∧ Below w.heap.size w U)) := ⟨G0.1, by rw [E]; rfl, G0.2⟩
    clear G0 E S1 S2 S3 lp
    go_wp2_with (with_reducible exact ret_pb Try.results23 (by with_unfolding_all rfl) (by with_unfolding_all rfl) (by with_unfolding_all rfl) G.out.1 G.out.2)
  go_upto_region 13 with fail
  refine wp_plain (C := fun w' => w' = W0) rfl ?_
  refine q_put (v := .bool MY) (yq rfl (Rn.qt (qmove rfl rfl))) ?_
  try simp only [Act.put, List.setIfInBounds_toArray, List.set_cons_zero, List.set_cons_succ]
  refine q_put (v := .bool MY) (yq rfl (Rn.qt (qmove rfl rfl))) ?_
  try simp only [Act.put, List.setIfInBounds_toArray, List.set_cons_zero, List.set_cons_succ]
  refine q_put (v := gd MY true (.pointer (some ⟨w.heap.size, 0 + 9, none⟩))) (yq1 rfl rfl (fun e => Rn.qt (qfield rfl rfl fp9))) ?_
  try simp only [Act.put, List.setIfInBounds_toArray, List.set_cons_zero, List.set_cons_succ]
  refine q_put (v := gd MY true (.bool (p.bt 9))) (yq1 rfl rfl (fun e => Rn.qt (qload rfl (on e rfl) (R.bit rfl)))) ?_
  try simp only [Act.put, List.setIfInBounds_toArray, List.set_cons_zero, List.set_cons_succ]
  refine q_put (v := .bool (MY && (p.bt 9))) (yq rfl (Rn.qt (qpick rfl rfl (pkA rfl rfl)))) ?_
  try simp only [Act.put, List.setIfInBounds_toArray, List.set_cons_zero, List.set_cons_succ]
  refine q_put (v := .bool (MY && (p.bt 9))) (yq rfl (Rn.qt (qmove rfl rfl))) ?_
  try simp only [Act.put, List.setIfInBounds_toArray, List.set_cons_zero, List.set_cons_succ]
  refine q_put (v := gd (MY && (p.bt 9)) true (.pointer (some ⟨w.heap.size, 0 + 7, none⟩))) (yq1 rfl rfl (fun e => Rn.qt (qfield rfl rfl fp7))) ?_
  try simp only [Act.put, List.setIfInBounds_toArray, List.set_cons_zero, List.set_cons_succ]
  refine q_put (v := gd (MY && (p.bt 9)) true (.bool (p.bt 7))) (yq1 rfl rfl (fun e => Rn.qt (qload rfl (on e rfl) (R.bit rfl)))) ?_
  try simp only [Act.put, List.setIfInBounds_toArray, List.set_cons_zero, List.set_cons_succ]
  refine q_put (v := gd (MY && (p.bt 9)) true (.bool (!(p.bt 7)))) (yq1 rfl rfl (fun e => Rn.qt (qnot rfl (on e rfl)))) ?_
  try simp only [Act.put, List.setIfInBounds_toArray, List.set_cons_zero, List.set_cons_succ]
  refine q_put (v := .bool ((MY && (p.bt 9)) && (!(p.bt 7)))) (yq rfl (Rn.qt (qpick rfl rfl (pkA rfl rfl)))) ?_
  try simp only [Act.put, List.setIfInBounds_toArray, List.set_cons_zero, List.set_cons_succ]
  refine q_put (v := .bool ((MY && (p.bt 9)) && (!(p.bt 7)))) (yq rfl (Rn.qt (qassign rfl rfl))) ?_
  try simp only [Act.put, List.setIfInBounds_toArray, List.set_cons_zero, List.set_cons_succ]
  refine wpQuiet_nil ?_
  rintro y_ hy_
  rw [hy_]
  clear hy_ y_
  have hc := EC5.out
  rw [EMY.out] at hc
  rw [hc]
  clear hc
  cases C5
  rotate_left
  · have E : OO = some (fwdDP p) := by
      rw [← EO.out]
      unfold dsgO
      rw [if_neg (by rw [EC0.out]; decide), if_neg (by rw [EC1.out]; decide), if_neg (by rw [EC2.out]; decide), if_neg (by rw [EC3.out]; decide), if_neg (by rw [EC4.out]; decide), if_pos EC5.out]
    have S0 := H.out
    obtain ⟨W1, s1, S1⟩ := S0.setB kb7 true
    obtain ⟨W2, s2, S2⟩ := S1.setU ku65 (n := 0) (by omega)
    obtain ⟨W3, s3, S3⟩ := S2.setB kb4 (p.bt 23)
    have S3 : PS w W3 w.heap.size (w.heap.size + 1) (fwdDP p) := by rw [← fwd_ref p]; exact S3
    have lX := S3.ld
    obtain ⟨U, sU, G0⟩ := S3.tell (fwdDP p)
    have G : Hid (RvAt U (w.heap.size + 1) 45 (fwdDP p).cs ∧ (Ending.returned (.tuple #[.agg (fwdDP p).cs, .bool true]) = .returned (.tuple #[.agg (OO.getD p).cs, .bool OO.isSome]) ∧ Below w.heap.size w U)) := ⟨G0.1, by rw [E]; rfl, G0.2⟩
    clear G0 E S0 S1 S2 S3 lp
    go_wp2_with (with_reducible exact ret_pb Try.results23 (by with_unfolding_all rfl) (by with_unfolding_all rfl) (by with_unfolding_all rfl) G.out.1 G.out.2)
  have E : OO = none := by
    rw [← EO.out]
    unfold dsgO
    rw [if_neg (by rw [EC0.out]; decide), if_neg (by rw [EC1.out]; decide), if_neg (by rw [EC2.out]; decide), if_neg (by rw [EC3.out]; decide), if_neg (by rw [EC4.out]; decide), if_neg (by rw [EC5.out]; decide)]
  obtain ⟨U, sU, G0⟩ := H.out.tell p
  have G : Hid (RvAt U (w.heap.size + 1) 45 p.cs ∧ (Ending.returned (.tuple #[.agg p.cs, .bool false]) = .returned (.tuple #[.agg (OO.getD p).cs, .bool OO.isSome]) ∧ Below w.heap.size w U)) := ⟨G0.1, by rw [E]; rfl, G0.2⟩
  clear G0 E
  go_wp2_with (with_reducible exact ret_pb Try.results23 (by with_unfolding_all rfl) (by with_unfolding_all rfl) (by with_unfolding_all rfl) G.out.1 G.out.2)
end Go.Proofs.Ytdlleecfmebenaa
