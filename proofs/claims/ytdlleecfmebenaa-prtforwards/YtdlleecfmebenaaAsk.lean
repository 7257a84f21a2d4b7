/-
  What a port that is being changed is asked: the walks of mayGoOn and asked.
-/
import Derived.Test.YtdlleecfmebenaaCg
namespace Go.Proofs.Ytdlleecfmebenaa
set_option linter.unusedVariables false
set_option maxRecDepth 4000
set_option linter.unusedSimpArgs false
open Go.RowKit

def mayP (p : Pt) : Bool := ((p.nm 65 == 0) || p.bt 4) && ((p.nm 70 == 0) || !p.bt 20) && !p.bt 24
def askP (p : Pt) : Bool := p.bt 24 || p.bt 20 || !p.bt 25
set_option maxHeartbeats 4000000 in
theorem may_any {W : World} {b g o n c k : Nat} {h : Hd} {l : List Pt} (s : CS W b h g o n c k l) :
    Calls Try.prog 61 #[.pointer (some ⟨b, 0, none⟩)] W fun r W' => r = .returned (.bool (mayP (gtP l k))) ∧ Below W.heap.size W W' := by
  have H : Hid (CS W b h g o n c k l) := s
  obtain ⟨p, hp⟩ : ∃ p, gtP l k = p := ⟨_, rfl⟩
  rw [hp]
  have R0 : ∀ V, Below W.heap.size W V → Prd (fun w' => ∃ x : Later V, w' = x.val) g (o + k * 77) p := fun V hV => by rw [← hp]; exact (H.out.below hV).rd
  obtain ⟨q, hq⟩ : ∃ q, o + k * 77 = q := ⟨_, rfl⟩
  rw [hq] at R0
  clear s hp
  go_enter Try.func61, Try.ntmps61
  go_wp2_with fail
  refine (port_any H.out).mono ?_
  rintro _ V ⟨rfl, b1⟩
  rw [hq]
  have R := R0 V b1
  have B : Hid (Below W.heap.size W V) := b1
  clear R0 b1 hq
  go_upto_region 2 with fail
  refine wp_plain (C := fun w' => ∃ x : Later V, w' = x.val) ⟨⟨_, Below.refl _ _⟩, rfl⟩ ?_
  refine q_put (v := .pointer (some ⟨g, q, none⟩)) (yq rfl (Rn.qt (qmove rfl rfl))) ?_
  try simp only [Act.put, List.setIfInBounds_toArray, List.set_cons_zero, List.set_cons_succ]
  refine q_put (v := .pointer (some ⟨g, q, none⟩)) (yq rfl (Rn.qt (qnil rfl rfl))) ?_
  try simp only [Act.put, List.setIfInBounds_toArray, List.set_cons_zero, List.set_cons_succ]
  refine q_put (v := .pointer (some ⟨g, q + 65, none⟩)) (yq rfl (Rn.qt (qfield rfl rfl fp38))) ?_
  try simp only [Act.put, List.setIfInBounds_toArray, List.set_cons_zero, List.set_cons_succ]
  refine q_put (v := .int .u8 (p.nm 65)) (yq rfl (Rn.qt (qload rfl rfl (R.u8 rfl)))) ?_
  try simp only [Act.put, List.setIfInBounds_toArray, List.set_cons_zero, List.set_cons_succ]
  refine q_put (v := .bool ((p.nm 65) == 0)) (yq rfl (Rn.qt (qbin rfl rfl rfl (eg_u8 _ _ _ _ _) (eq_u8 _ _)))) ?_
  try simp only [Act.put, List.setIfInBounds_toArray, List.set_cons_zero, List.set_cons_succ]
  refine q_put (v := .bool ((p.nm 65) == 0)) (yq rfl (Rn.qt (qmove rfl rfl))) ?_
  try simp only [Act.put, List.setIfInBounds_toArray, List.set_cons_zero, List.set_cons_succ]
  refine q_put (v := gd ((p.nm 65) == 0) false (.pointer (some ⟨g, q, none⟩))) (yq1 rfl rfl (fun e => Rn.qt (qmove rfl rfl))) ?_
  try simp only [Act.put, List.setIfInBounds_toArray, List.set_cons_zero, List.set_cons_succ]
  refine q_put (v := gd ((p.nm 65) == 0) false (.pointer (some ⟨g, q, none⟩))) (yq1 rfl rfl (fun e => Rn.qt (qnil rfl (on e rfl)))) ?_
  try simp only [Act.put, List.setIfInBounds_toArray, List.set_cons_zero, List.set_cons_succ]
  refine q_put (v := gd ((p.nm 65) == 0) false (.pointer (some ⟨g, q + 4, none⟩))) (yq1 rfl rfl (fun e => Rn.qt (qfield rfl (on e rfl) fp4))) ?_
  try simp only [Act.put, List.setIfInBounds_toArray, List.set_cons_zero, List.set_cons_succ]
  refine q_put (v := gd ((p.nm 65) == 0) false (.bool (p.bt 4))) (yq1 rfl rfl (fun e => Rn.qt (qload rfl (on e rfl) (R.bit rfl)))) ?_
  try simp only [Act.put, List.setIfInBounds_toArray, List.set_cons_zero, List.set_cons_succ]
  refine q_put (v := .bool (((p.nm 65) == 0) || (p.bt 4))) (yq rfl (Rn.qt (qpick rfl rfl (pkO rfl rfl)))) ?_
  try simp only [Act.put, List.setIfInBounds_toArray, List.set_cons_zero, List.set_cons_succ]
  refine q_put (v := .bool (((p.nm 65) == 0) || (p.bt 4))) (yq rfl (Rn.qt (qmove rfl rfl))) ?_
  try simp only [Act.put, List.setIfInBounds_toArray, List.set_cons_zero, List.set_cons_succ]
  refine q_put (v := gd (((p.nm 65) == 0) || (p.bt 4)) true (.pointer (some ⟨g, q, none⟩))) (yq1 rfl rfl (fun e => Rn.qt (qmove rfl rfl))) ?_
  try simp only [Act.put, List.setIfInBounds_toArray, List.set_cons_zero, List.set_cons_succ]
  refine q_put (v := gd (((p.nm 65) == 0) || (p.bt 4)) true (.pointer (some ⟨g, q, none⟩))) (yq1 rfl rfl (fun e => Rn.qt (qnil rfl (on e rfl)))) ?_
  try simp only [Act.put, List.setIfInBounds_toArray, List.set_cons_zero, List.set_cons_succ]
  refine q_put (v := gd (((p.nm 65) == 0) || (p.bt 4)) true (.pointer (some ⟨g, q + 70, none⟩))) (yq1 rfl rfl (fun e => Rn.qt (qfield rfl (on e rfl) fp43))) ?_
  try simp only [Act.put, List.setIfInBounds_toArray, List.set_cons_zero, List.set_cons_succ]
  refine q_put (v := gd (((p.nm 65) == 0) || (p.bt 4)) true (.int .u8 (p.nm 70))) (yq1 rfl rfl (fun e => Rn.qt (qload rfl (on e rfl) (R.u8 rfl)))) ?_
  try simp only [Act.put, List.setIfInBounds_toArray, List.set_cons_zero, List.set_cons_succ]
  refine q_put (v := gd (((p.nm 65) == 0) || (p.bt 4)) true (.bool ((p.nm 70) == 0))) (yq1 rfl rfl (fun e => Rn.qt (qbin rfl (on e rfl) rfl (eg_u8 _ _ _ _ _) (eq_u8 _ _)))) ?_
  try simp only [Act.put, List.setIfInBounds_toArray, List.set_cons_zero, List.set_cons_succ]
  refine q_put (v := gd (((p.nm 65) == 0) || (p.bt 4)) true (.bool ((p.nm 70) == 0))) (yq1 rfl rfl (fun e => Rn.qt (qmove rfl (on e rfl)))) ?_
  try simp only [Act.put, List.setIfInBounds_toArray, List.set_cons_zero, List.set_cons_succ]
  refine q_put (v := gd (((p.nm 65) == 0) || (p.bt 4)) true (gd ((p.nm 70) == 0) false (.pointer (some ⟨g, q, none⟩)))) (yq2 rfl rfl (fun e1 e2 => Rn.qt (qmove rfl rfl))) ?_
  try simp only [Act.put, List.setIfInBounds_toArray, List.set_cons_zero, List.set_cons_succ]
  refine q_put (v := gd (((p.nm 65) == 0) || (p.bt 4)) true (gd ((p.nm 70) == 0) false (.pointer (some ⟨g, q, none⟩)))) (yq2 rfl rfl (fun e1 e2 => Rn.qt (qnil rfl (on e2 (on e1 rfl))))) ?_
  try simp only [Act.put, List.setIfInBounds_toArray, List.set_cons_zero, List.set_cons_succ]
  refine q_put (v := gd (((p.nm 65) == 0) || (p.bt 4)) true (gd ((p.nm 70) == 0) false (.pointer (some ⟨g, q + 20, none⟩)))) (yq2 rfl rfl (fun e1 e2 => Rn.qt (qfield rfl (on e2 (on e1 rfl)) fp20))) ?_
  try simp only [Act.put, List.setIfInBounds_toArray, List.set_cons_zero, List.set_cons_succ]
  refine q_put (v := gd (((p.nm 65) == 0) || (p.bt 4)) true (gd ((p.nm 70) == 0) false (.bool (p.bt 20)))) (yq2 rfl rfl (fun e1 e2 => Rn.qt (qload rfl (on e2 (on e1 rfl)) (R.bit rfl)))) ?_
  try simp only [Act.put, List.setIfInBounds_toArray, List.set_cons_zero, List.set_cons_succ]
  refine q_put (v := gd (((p.nm 65) == 0) || (p.bt 4)) true (gd ((p.nm 70) == 0) false (.bool (!(p.bt 20))))) (yq2 rfl rfl (fun e1 e2 => Rn.qt (qnot rfl (on e2 (on e1 rfl))))) ?_
  try simp only [Act.put, List.setIfInBounds_toArray, List.set_cons_zero, List.set_cons_succ]
  refine q_put (v := gd (((p.nm 65) == 0) || (p.bt 4)) true (.bool (((p.nm 70) == 0) || (!(p.bt 20))))) (yq1 rfl rfl (fun e => Rn.qt (qpick rfl (on e rfl) (pkO rfl (on e rfl))))) ?_
  try simp only [Act.put, List.setIfInBounds_toArray, List.set_cons_zero, List.set_cons_succ]
  refine q_put (v := .bool ((((p.nm 65) == 0) || (p.bt 4)) && (((p.nm 70) == 0) || (!(p.bt 20))))) (yq rfl (Rn.qt (qpick rfl rfl (pkA rfl rfl)))) ?_
  try simp only [Act.put, List.setIfInBounds_toArray, List.set_cons_zero, List.set_cons_succ]
  refine q_put (v := .bool ((((p.nm 65) == 0) || (p.bt 4)) && (((p.nm 70) == 0) || (!(p.bt 20))))) (yq rfl (Rn.qt (qmove rfl rfl))) ?_
  try simp only [Act.put, List.setIfInBounds_toArray, List.set_cons_zero, List.set_cons_succ]
  refine q_put (v := gd ((((p.nm 65) == 0) || (p.bt 4)) && (((p.nm 70) == 0) || (!(p.bt 20)))) true (.pointer (some ⟨g, q, none⟩))) (yq1 rfl rfl (fun e => Rn.qt (qmove rfl rfl))) ?_
  try simp only [Act.put, List.setIfInBounds_toArray, List.set_cons_zero, List.set_cons_succ]
  refine q_put (v := gd ((((p.nm 65) == 0) || (p.bt 4)) && (((p.nm 70) == 0) || (!(p.bt 20)))) true (.pointer (some ⟨g, q, none⟩))) (yq1 rfl rfl (fun e => Rn.qt (qnil rfl (on e rfl)))) ?_
  try simp only [Act.put, List.setIfInBounds_toArray, List.set_cons_zero, List.set_cons_succ]
  refine q_put (v := gd ((((p.nm 65) == 0) || (p.bt 4)) && (((p.nm 70) == 0) || (!(p.bt 20)))) true (.pointer (some ⟨g, q + 24, none⟩))) (yq1 rfl rfl (fun e => Rn.qt (qfield rfl (on e rfl) fp24))) ?_
  try simp only [Act.put, List.setIfInBounds_toArray, List.set_cons_zero, List.set_cons_succ]
  refine q_put (v := gd ((((p.nm 65) == 0) || (p.bt 4)) && (((p.nm 70) == 0) || (!(p.bt 20)))) true (.bool (p.bt 24))) (yq1 rfl rfl (fun e => Rn.qt (qload rfl (on e rfl) (R.bit rfl)))) ?_
  try simp only [Act.put, List.setIfInBounds_toArray, List.set_cons_zero, List.set_cons_succ]
  refine q_put (v := gd ((((p.nm 65) == 0) || (p.bt 4)) && (((p.nm 70) == 0) || (!(p.bt 20)))) true (.bool (!(p.bt 24)))) (yq1 rfl rfl (fun e => Rn.qt (qnot rfl (on e rfl)))) ?_
  try simp only [Act.put, List.setIfInBounds_toArray, List.set_cons_zero, List.set_cons_succ]
  refine q_put (v := .bool (((((p.nm 65) == 0) || (p.bt 4)) && (((p.nm 70) == 0) || (!(p.bt 20)))) && (!(p.bt 24)))) (yq rfl (Rn.qt (qpick rfl rfl (pkA rfl rfl)))) ?_
  try simp only [Act.put, List.setIfInBounds_toArray, List.set_cons_zero, List.set_cons_succ]
  refine q_put (v := .bool (((((p.nm 65) == 0) || (p.bt 4)) && (((p.nm 70) == 0) || (!(p.bt 20)))) && (!(p.bt 24)))) (yq rfl (Rn.qt (qassign rfl rfl))) ?_
  try simp only [Act.put, List.setIfInBounds_toArray, List.set_cons_zero, List.set_cons_succ]
  refine wpQuiet_nil ?_
  intro _ hw'
  obtain ⟨y, rfl⟩ := hw'
  go_wp2
  go_ret
  exact ⟨rfl, below_over B.out y.below⟩
set_option maxHeartbeats 4000000 in
theorem ask_any {W : World} {b g o n c k : Nat} {h : Hd} {l : List Pt} (s : CS W b h g o n c k l) :
    Calls Try.prog 52 #[.pointer (some ⟨b, 0, none⟩)] W fun r W' => r = .returned (.bool (askP (gtP l k))) ∧ Below W.heap.size W W' := by
  have H : Hid (CS W b h g o n c k l) := s
  obtain ⟨p, hp⟩ : ∃ p, gtP l k = p := ⟨_, rfl⟩
  rw [hp]
  have R0 : ∀ V, Below W.heap.size W V → Prd (fun w' => ∃ x : Later V, w' = x.val) g (o + k * 77) p := fun V hV => by rw [← hp]; exact (H.out.below hV).rd
  obtain ⟨q, hq⟩ : ∃ q, o + k * 77 = q := ⟨_, rfl⟩
  rw [hq] at R0
  clear s hp
  go_enter Try.func52, Try.ntmps52
  go_wp2_with fail
  refine (port_any H.out).mono ?_
  rintro _ V ⟨rfl, b1⟩
  rw [hq]
  have R := R0 V b1
  have B : Hid (Below W.heap.size W V) := b1
  clear R0 b1 hq
  go_upto_region 2 with fail
  refine wp_plain (C := fun w' => ∃ x : Later V, w' = x.val) ⟨⟨_, Below.refl _ _⟩, rfl⟩ ?_
  refine q_put (v := .pointer (some ⟨g, q, none⟩)) (yq rfl (Rn.qt (qmove rfl rfl))) ?_
  try simp only [Act.put, List.setIfInBounds_toArray, List.set_cons_zero, List.set_cons_succ]
  refine q_put (v := .pointer (some ⟨g, q, none⟩)) (yq rfl (Rn.qt (qnil rfl rfl))) ?_
  try simp only [Act.put, List.setIfInBounds_toArray, List.set_cons_zero, List.set_cons_succ]
  refine q_put (v := .pointer (some ⟨g, q + 24, none⟩)) (yq rfl (Rn.qt (qfield rfl rfl fp24))) ?_
  try simp only [Act.put, List.setIfInBounds_toArray, List.set_cons_zero, List.set_cons_succ]
  refine q_put (v := .bool (p.bt 24)) (yq rfl (Rn.qt (qload rfl rfl (R.bit rfl)))) ?_
  try simp only [Act.put, List.setIfInBounds_toArray, List.set_cons_zero, List.set_cons_succ]
  refine q_put (v := .bool (p.bt 24)) (yq rfl (Rn.qt (qmove rfl rfl))) ?_
  try simp only [Act.put, List.setIfInBounds_toArray, List.set_cons_zero, List.set_cons_succ]
  refine q_put (v := gd (p.bt 24) false (.pointer (some ⟨g, q, none⟩))) (yq1 rfl rfl (fun e => Rn.qt (qmove rfl rfl))) ?_
  try simp only [Act.put, List.setIfInBounds_toArray, List.set_cons_zero, List.set_cons_succ]
  refine q_put (v := gd (p.bt 24) false (.pointer (some ⟨g, q, none⟩))) (yq1 rfl rfl (fun e => Rn.qt (qnil rfl (on e rfl)))) ?_
  try simp only [Act.put, List.setIfInBounds_toArray, List.set_cons_zero, List.set_cons_succ]
  refine q_put (v := gd (p.bt 24) false (.pointer (some ⟨g, q + 20, none⟩))) (yq1 rfl rfl (fun e => Rn.qt (qfield rfl (on e rfl) fp20))) ?_
  try simp only [Act.put, List.setIfInBounds_toArray, List.set_cons_zero, List.set_cons_succ]
  refine q_put (v := gd (p.bt 24) false (.bool (p.bt 20))) (yq1 rfl rfl (fun e => Rn.qt (qload rfl (on e rfl) (R.bit rfl)))) ?_
  try simp only [Act.put, List.setIfInBounds_toArray, List.set_cons_zero, List.set_cons_succ]
  refine q_put (v := .bool ((p.bt 24) || (p.bt 20))) (yq rfl (Rn.qt (qpick rfl rfl (pkO rfl rfl)))) ?_
  try simp only [Act.put, List.setIfInBounds_toArray, List.set_cons_zero, List.set_cons_succ]
  refine q_put (v := .bool ((p.bt 24) || (p.bt 20))) (yq rfl (Rn.qt (qmove rfl rfl))) ?_
  try simp only [Act.put, List.setIfInBounds_toArray, List.set_cons_zero, List.set_cons_succ]
  refine q_put (v := gd ((p.bt 24) || (p.bt 20)) false (.pointer (some ⟨g, q, none⟩))) (yq1 rfl rfl (fun e => Rn.qt (qmove rfl rfl))) ?_
  try simp only [Act.put, List.setIfInBounds_toArray, List.set_cons_zero, List.set_cons_succ]
  refine q_put (v := gd ((p.bt 24) || (p.bt 20)) false (.pointer (some ⟨g, q, none⟩))) (yq1 rfl rfl (fun e => Rn.qt (qnil rfl (on e rfl)))) ?_
  try simp only [Act.put, List.setIfInBounds_toArray, List.set_cons_zero, List.set_cons_succ]
  refine q_put (v := gd ((p.bt 24) || (p.bt 20)) false (.pointer (some ⟨g, q + 25, none⟩))) (yq1 rfl rfl (fun e => Rn.qt (qfield rfl (on e rfl) fp25))) ?_
  try simp only [Act.put, List.setIfInBounds_toArray, List.set_cons_zero, List.set_cons_succ]
  refine q_put (v := gd ((p.bt 24) || (p.bt 20)) false (.bool (p.bt 25))) (yq1 rfl rfl (fun e => Rn.qt (qload rfl (on e rfl) (R.bit rfl)))) ?_
  try simp only [Act.put, List.setIfInBounds_toArray, List.set_cons_zero, List.set_cons_succ]
  refine q_put (v := gd ((p.bt 24) || (p.bt 20)) false (.bool (!(p.bt 25)))) (yq1 rfl rfl (fun e => Rn.qt (qnot rfl (on e rfl)))) ?_
  try simp only [Act.put, List.setIfInBounds_toArray, List.set_cons_zero, List.set_cons_succ]
  refine q_put (v := .bool (((p.bt 24) || (p.bt 20)) || (!(p.bt 25)))) (yq rfl (Rn.qt (qpick rfl rfl (pkO rfl rfl)))) ?_
  try simp only [Act.put, List.setIfInBounds_toArray, List.set_cons_zero, List.set_cons_succ]
  refine q_put (v := .bool (((p.bt 24) || (p.bt 20)) || (!(p.bt 25)))) (yq rfl (Rn.qt (qassign rfl rfl))) ?_
  try simp only [Act.put, List.setIfInBounds_toArray, List.set_cons_zero, List.set_cons_succ]
  refine wpQuiet_nil ?_
  intro _ hw'
  obtain ⟨y, rfl⟩ := hw'
  go_wp2
  go_ret
  exact ⟨rfl, below_over B.out y.below⟩
end Go.Proofs.Ytdlleecfmebenaa
