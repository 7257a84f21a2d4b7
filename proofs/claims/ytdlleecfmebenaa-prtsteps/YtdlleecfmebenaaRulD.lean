/-
  The rules of a designated port: the walk of whileDesignated.
-/
import Derived.Test.YtdlleecfmebenaaRulA
import Derived.Test.YtdlleecfmebenaaVals
namespace Go.Proofs.Ytdlleecfmebenaa
set_option linter.unusedVariables false
set_option maxRecDepth 4000
set_option linter.unusedSimpArgs false
open Go.RowKit

def mustB (p : Pt) : Bool := (p.bt 24 && !p.bt 25) || (p.bt 20 && (p.nm 70 != 0)) || p.bt 5
/-- What is so of a designated port, and what it then does. -/
def dsgR (p : Pt) : List (Bool × Nat) := [((!p.bt 7 && !p.bt 4) && !p.bt 13, 62), ((stopB p && !p.bt 25) || (p.bt 4 && !p.bt 25) || (p.bt 24 && p.bt 25), 63), ((p.nm 70 == 0) && p.bt 20, 57), (mustB p && (p.bt 9 || p.bt 7), 64), (mayP p && !p.bt 9, 58), ((mayP p && p.bt 9) && !p.bt 7, 65)]
attribute [local go_sem ↓] ldT bsRE
set_option maxHeartbeats 16000000 in
theorem whDsg_any {W : World} {b g o n c k : Nat} {h : Hd} {l : List Pt} (s : CS W b h g o n c k l) :
    Calls Try.prog 46 #[.pointer (some ⟨b, 0, none⟩)] W fun r W' => ∃ v, r = .returned v ∧ OwnR W' W.heap.size v b (dsgR (gtP l k)) ∧ Below W.heap.size W W' := by
  have H : Hid (CS W b h g o n c k l) := s
  obtain ⟨p, hp⟩ : ∃ p, gtP l k = p := ⟨_, rfl⟩
  rw [hp]
  have R0 : ∀ V, Below W.heap.size W V → Prd (fun w' => ∃ x : Later V, w' = x.val) g (o + k * 77) p := fun V hV => by rw [← hp]; exact (H.out.below hV).rd
  obtain ⟨q, hq⟩ : ∃ q, o + k * 77 = q := ⟨_, rfl⟩
  rw [hq] at R0
  have HP : Hid (gtP l k = p) := hp
  clear s hp
  go_enter Try.func46, Try.ntmps46
  go_wp2_with fail
  refine (port_any H.out).mono ?_
  rintro _ V ⟨rfl, b1⟩
  rw [hq]
  have B : Hid (Below W.heap.size W V) := b1
  clear b1 hq
  have R := R0 V B.out
  go_upto_region 2 with fail
  refine wp_plain (C := fun w' => ∃ x : Later V, w' = x.val) ⟨⟨_, Below.refl _ _⟩, rfl⟩ ?_
  refine q_put (v := .pointer (some ⟨g, q, none⟩)) (yq rfl (Rn.qt (qmove rfl rfl))) ?_
  try simp only [Act.put, List.setIfInBounds_toArray, List.set_cons_zero, List.set_cons_succ]
  refine q_put (v := .pointer (some ⟨g, q, none⟩)) (yq rfl (Rn.qt (qnil rfl rfl))) ?_
  try simp only [Act.put, List.setIfInBounds_toArray, List.set_cons_zero, List.set_cons_succ]
  refine q_put (v := .pointer (some ⟨g, q + 10, none⟩)) (yq rfl (Rn.qt (qfield rfl rfl fp10))) ?_
  try simp only [Act.put, List.setIfInBounds_toArray, List.set_cons_zero, List.set_cons_succ]
  refine q_put (v := .bool (p.bt 10)) (yq rfl (Rn.qt (qload rfl rfl (R.bit rfl)))) ?_
  try simp only [Act.put, List.setIfInBounds_toArray, List.set_cons_zero, List.set_cons_succ]
  refine q_put (v := .bool (!(p.bt 10))) (yq rfl (Rn.qt (qnot rfl rfl))) ?_
  try simp only [Act.put, List.setIfInBounds_toArray, List.set_cons_zero, List.set_cons_succ]
  refine q_put (v := .bool (!(p.bt 10))) (yq rfl (Rn.qt (qmove rfl rfl))) ?_
  try simp only [Act.put, List.setIfInBounds_toArray, List.set_cons_zero, List.set_cons_succ]
  refine q_put (v := gd (!(p.bt 10)) true (.pointer (some ⟨g, q, none⟩))) (yq1 rfl rfl (fun e => Rn.qt (qmove rfl rfl))) ?_
  try simp only [Act.put, List.setIfInBounds_toArray, List.set_cons_zero, List.set_cons_succ]
  refine q_put (v := gd (!(p.bt 10)) true (.pointer (some ⟨g, q, none⟩))) (yq1 rfl rfl (fun e => Rn.qt (qnil rfl (on e rfl)))) ?_
  try simp only [Act.put, List.setIfInBounds_toArray, List.set_cons_zero, List.set_cons_succ]
  refine q_put (v := gd (!(p.bt 10)) true (.pointer (some ⟨g, q + 8, none⟩))) (yq1 rfl rfl (fun e => Rn.qt (qfield rfl (on e rfl) fp8))) ?_
  try simp only [Act.put, List.setIfInBounds_toArray, List.set_cons_zero, List.set_cons_succ]
  refine q_put (v := gd (!(p.bt 10)) true (.bool (p.bt 8))) (yq1 rfl rfl (fun e => Rn.qt (qload rfl (on e rfl) (R.bit rfl)))) ?_
  try simp only [Act.put, List.setIfInBounds_toArray, List.set_cons_zero, List.set_cons_succ]
  refine q_put (v := gd (!(p.bt 10)) true (.bool (!(p.bt 8)))) (yq1 rfl rfl (fun e => Rn.qt (qnot rfl (on e rfl)))) ?_
  try simp only [Act.put, List.setIfInBounds_toArray, List.set_cons_zero, List.set_cons_succ]
  refine q_put (v := .bool ((!(p.bt 10)) && (!(p.bt 8)))) (yq rfl (Rn.qt (qpick rfl rfl (pkA rfl rfl)))) ?_
  try simp only [Act.put, List.setIfInBounds_toArray, List.set_cons_zero, List.set_cons_succ]
  refine q_put (v := .bool ((!(p.bt 10)) && (!(p.bt 8)))) (yq rfl (Rn.qt (qassign rfl rfl))) ?_
  try simp only [Act.put, List.setIfInBounds_toArray, List.set_cons_zero, List.set_cons_succ]
  refine wpQuiet_nil ?_
  rintro _ ⟨y, rfl⟩
  obtain ⟨U, hU⟩ : ∃ U, y.val = U := ⟨_, rfl⟩
  have bU : Below V.heap.size V U := by rw [← hU]; exact y.below
  rw [hU]
  have B2 : Hid (Below W.heap.size W U) := below_over B.out bU
  clear R hU bU y
  have R := R0 U B2.out
  obtain ⟨ST, hST⟩ : ∃ z, (!p.bt 10 && !p.bt 8) = z := ⟨_, rfl⟩
  rw [hST]
  have EST : Hid (stopB p = ST) := hST
  clear hST
  go_upto_region 3 with fail
  refine wp_plain (C := fun w' => ∃ x : Later U, w' = x.val) ⟨⟨_, Below.refl _ _⟩, rfl⟩ ?_
  refine q_put (v := .pointer (some ⟨g, q, none⟩)) (yq rfl (Rn.qt (qmove rfl rfl))) ?_
  try simp only [Act.put, List.setIfInBounds_toArray, List.set_cons_zero, List.set_cons_succ]
  refine q_put (v := .pointer (some ⟨g, q, none⟩)) (yq rfl (Rn.qt (qnil rfl rfl))) ?_
  try simp only [Act.put, List.setIfInBounds_toArray, List.set_cons_zero, List.set_cons_succ]
  refine q_put (v := .pointer (some ⟨g, q + 24, none⟩)) (yq rfl (Rn.qt (qfield rfl rfl fp24))) ?_
  try simp only [Act.put, List.setIfInBounds_toArray, List.set_cons_zero, List.set_cons_succ]
  refine q_put (v := .bool (p.bt 24)) (yq rfl (Rn.qt (qload rfl rfl (R.bit rfl)))) ?_
  try simp only [Act.put, List.setIfInBounds_toArray, List.set_cons_zero, List.set_cons_succ]
  refine q_put (v := .bool (p.bt 24)) (yq rfl (Rn.qt (qmove rfl rfl))) ?_
  try simp only [Act.put, List.setIfInBounds_toArray, List.set_cons_zero, List.set_cons_succ]
  refine q_put (v := gd (p.bt 24) true (.pointer (some ⟨g, q, none⟩))) (yq1 rfl rfl (fun e => Rn.qt (qmove rfl rfl))) ?_
  try simp only [Act.put, List.setIfInBounds_toArray, List.set_cons_zero, List.set_cons_succ]
  refine q_put (v := gd (p.bt 24) true (.pointer (some ⟨g, q, none⟩))) (yq1 rfl rfl (fun e => Rn.qt (qnil rfl (on e rfl)))) ?_
  try simp only [Act.put, List.setIfInBounds_toArray, List.set_cons_zero, List.set_cons_succ]
  refine q_put (v := gd (p.bt 24) true (.pointer (some ⟨g, q + 25, none⟩))) (yq1 rfl rfl (fun e => Rn.qt (qfield rfl (on e rfl) fp25))) ?_
  try simp only [Act.put, List.setIfInBounds_toArray, List.set_cons_zero, List.set_cons_succ]
  refine q_put (v := gd (p.bt 24) true (.bool (p.bt 25))) (yq1 rfl rfl (fun e => Rn.qt (qload rfl (on e rfl) (R.bit rfl)))) ?_
  try simp only [Act.put, List.setIfInBounds_toArray, List.set_cons_zero, List.set_cons_succ]
  refine q_put (v := gd (p.bt 24) true (.bool (!(p.bt 25)))) (yq1 rfl rfl (fun e => Rn.qt (qnot rfl (on e rfl)))) ?_
  try simp only [Act.put, List.setIfInBounds_toArray, List.set_cons_zero, List.set_cons_succ]
  refine q_put (v := .bool ((p.bt 24) && (!(p.bt 25)))) (yq rfl (Rn.qt (qpick rfl rfl (pkA rfl rfl)))) ?_
  try simp only [Act.put, List.setIfInBounds_toArray, List.set_cons_zero, List.set_cons_succ]
  refine q_put (v := .bool ((p.bt 24) && (!(p.bt 25)))) (yq rfl (Rn.qt (qmove rfl rfl))) ?_
  try simp only [Act.put, List.setIfInBounds_toArray, List.set_cons_zero, List.set_cons_succ]
  refine q_put (v := gd ((p.bt 24) && (!(p.bt 25))) false (.pointer (some ⟨g, q, none⟩))) (yq1 rfl rfl (fun e => Rn.qt (qmove rfl rfl))) ?_
  try simp only [Act.put, List.setIfInBounds_toArray, List.set_cons_zero, List.set_cons_succ]
  refine q_put (v := gd ((p.bt 24) && (!(p.bt 25))) false (.pointer (some ⟨g, q, none⟩))) (yq1 rfl rfl (fun e => Rn.qt (qnil rfl (on e rfl)))) ?_
  try simp only [Act.put, List.setIfInBounds_toArray, List.set_cons_zero, List.set_cons_succ]
  refine q_put (v := gd ((p.bt 24) && (!(p.bt 25))) false (.pointer (some ⟨g, q + 20, none⟩))) (yq1 rfl rfl (fun e => Rn.qt (qfield rfl (on e rfl) fp20))) ?_
  try simp only [Act.put, List.setIfInBounds_toArray, List.set_cons_zero, List.set_cons_succ]
  refine q_put (v := gd ((p.bt 24) && (!(p.bt 25))) false (.bool (p.bt 20))) (yq1 rfl rfl (fun e => Rn.qt (qload rfl (on e rfl) (R.bit rfl)))) ?_
  try simp only [Act.put, List.setIfInBounds_toArray, List.set_cons_zero, List.set_cons_succ]
  refine q_put (v := gd ((p.bt 24) && (!(p.bt 25))) false (.bool (p.bt 20))) (yq1 rfl rfl (fun e => Rn.qt (qmove rfl (on e rfl)))) ?_
  try simp only [Act.put, List.setIfInBounds_toArray, List.set_cons_zero, List.set_cons_succ]
  refine q_put (v := gd ((p.bt 24) && (!(p.bt 25))) false (gd (p.bt 20) true (.pointer (some ⟨g, q, none⟩)))) (yq2 rfl rfl (fun e1 e2 => Rn.qt (qmove rfl rfl))) ?_
  try simp only [Act.put, List.setIfInBounds_toArray, List.set_cons_zero, List.set_cons_succ]
  refine q_put (v := gd ((p.bt 24) && (!(p.bt 25))) false (gd (p.bt 20) true (.pointer (some ⟨g, q, none⟩)))) (yq2 rfl rfl (fun e1 e2 => Rn.qt (qnil rfl (on e2 (on e1 rfl))))) ?_
  try simp only [Act.put, List.setIfInBounds_toArray, List.set_cons_zero, List.set_cons_succ]
  refine q_put (v := gd ((p.bt 24) && (!(p.bt 25))) false (gd (p.bt 20) true (.pointer (some ⟨g, q + 70, none⟩)))) (yq2 rfl rfl (fun e1 e2 => Rn.qt (qfield rfl (on e2 (on e1 rfl)) fp43))) ?_
  try simp only [Act.put, List.setIfInBounds_toArray, List.set_cons_zero, List.set_cons_succ]
  refine q_put (v := gd ((p.bt 24) && (!(p.bt 25))) false (gd (p.bt 20) true (.int .u8 (p.nm 70)))) (yq2 rfl rfl (fun e1 e2 => Rn.qt (qload rfl (on e2 (on e1 rfl)) (R.u8 rfl)))) ?_
  try simp only [Act.put, List.setIfInBounds_toArray, List.set_cons_zero, List.set_cons_succ]
  refine q_put (v := gd ((p.bt 24) && (!(p.bt 25))) false (gd (p.bt 20) true (.bool ((p.nm 70) != 0)))) (yq2 rfl rfl (fun e1 e2 => Rn.qt (qbin rfl (on e2 (on e1 rfl)) rfl (eg_u8 _ _ _ _ _) (ne_u8 _ _)))) ?_
  try simp only [Act.put, List.setIfInBounds_toArray, List.set_cons_zero, List.set_cons_succ]
  refine q_put (v := gd ((p.bt 24) && (!(p.bt 25))) false (.bool ((p.bt 20) && ((p.nm 70) != 0)))) (yq1 rfl rfl (fun e => Rn.qt (qpick rfl (on e rfl) (pkA (on e rfl) rfl)))) ?_
  try simp only [Act.put, List.setIfInBounds_toArray, List.set_cons_zero, List.set_cons_succ]
  refine q_put (v := .bool (((p.bt 24) && (!(p.bt 25))) || ((p.bt 20) && ((p.nm 70) != 0)))) (yq rfl (Rn.qt (qpick rfl rfl (pkO rfl rfl)))) ?_
  try simp only [Act.put, List.setIfInBounds_toArray, List.set_cons_zero, List.set_cons_succ]
  refine q_put (v := .bool (((p.bt 24) && (!(p.bt 25))) || ((p.bt 20) && ((p.nm 70) != 0)))) (yq rfl (Rn.qt (qmove rfl rfl))) ?_
  try simp only [Act.put, List.setIfInBounds_toArray, List.set_cons_zero, List.set_cons_succ]
  refine q_put (v := gd (((p.bt 24) && (!(p.bt 25))) || ((p.bt 20) && ((p.nm 70) != 0))) false (.pointer (some ⟨g, q, none⟩))) (yq1 rfl rfl (fun e => Rn.qt (qmove rfl rfl))) ?_
  try simp only [Act.put, List.setIfInBounds_toArray, List.set_cons_zero, List.set_cons_succ]
  refine q_put (v := gd (((p.bt 24) && (!(p.bt 25))) || ((p.bt 20) && ((p.nm 70) != 0))) false (.pointer (some ⟨g, q, none⟩))) (yq1 rfl rfl (fun e => Rn.qt (qnil rfl (on e rfl)))) ?_
  try simp only [Act.put, List.setIfInBounds_toArray, List.set_cons_zero, List.set_cons_succ]
  refine q_put (v := gd (((p.bt 24) && (!(p.bt 25))) || ((p.bt 20) && ((p.nm 70) != 0))) false (.pointer (some ⟨g, q + 5, none⟩))) (yq1 rfl rfl (fun e => Rn.qt (qfield rfl (on e rfl) fp5))) ?_
  try simp only [Act.put, List.setIfInBounds_toArray, List.set_cons_zero, List.set_cons_succ]
  refine q_put (v := gd (((p.bt 24) && (!(p.bt 25))) || ((p.bt 20) && ((p.nm 70) != 0))) false (.bool (p.bt 5))) (yq1 rfl rfl (fun e => Rn.qt (qload rfl (on e rfl) (R.bit rfl)))) ?_
  try simp only [Act.put, List.setIfInBounds_toArray, List.set_cons_zero, List.set_cons_succ]
  refine q_put (v := .bool ((((p.bt 24) && (!(p.bt 25))) || ((p.bt 20) && ((p.nm 70) != 0))) || (p.bt 5))) (yq rfl (Rn.qt (qpick rfl rfl (pkO rfl rfl)))) ?_
  try simp only [Act.put, List.setIfInBounds_toArray, List.set_cons_zero, List.set_cons_succ]
  refine q_put (v := .bool ((((p.bt 24) && (!(p.bt 25))) || ((p.bt 20) && ((p.nm 70) != 0))) || (p.bt 5))) (yq rfl (Rn.qt (qassign rfl rfl))) ?_
  try simp only [Act.put, List.setIfInBounds_toArray, List.set_cons_zero, List.set_cons_succ]
  refine wpQuiet_nil ?_
  rintro _ ⟨y, rfl⟩
  obtain ⟨U3, hU⟩ : ∃ U, y.val = U := ⟨_, rfl⟩
  have bU : Below U.heap.size U U3 := by rw [← hU]; exact y.below
  rw [hU]
  have B3 : Hid (Below W.heap.size W U3) := below_over B2.out bU
  clear R hU bU y
  obtain ⟨MU, hMU⟩ : ∃ z, mustB p = z := ⟨_, rfl⟩
  have EMU : Hid (mustB p = MU) := hMU
  unfold mustB at hMU
  rw [hMU]
  clear hMU
  go_wp2_with fail
  refine (may_any (H.out.below B3.out)).mono ?_
  rw [HP.out]
  rintro _ U4 ⟨rfl, b4⟩
  have B4 : Hid (Below W.heap.size W U4) := below_over B3.out b4
  clear b4
  obtain ⟨GO, hGO⟩ : ∃ z, mayP p = z := ⟨_, rfl⟩
  have EGO : Hid (mayP p = GO) := hGO
  rw [hGO]
  clear hGO
  have RR : ∀ w0, Below U4.heap.size U4 w0 → Prd (LC w0) g q p := fun w0 h0 => R0 w0 (below_over B4.out h0)
  clear R0
  go_upto_region 5 with fail
  refine wp_vals 116 53 170 118 0 (fun _ _ => True) (by kernel_rfl) (by kernel_rfl) (E0 := [(0, .pointer (some ⟨b, 0, none⟩)), (3, .pointer (some ⟨g, q, none⟩)), (4, .bool ST), (5, .bool MU), (6, .bool GO)]) (by kernel_rfl) (fun hh => absurd hh (by decide)) (fun _ _ _ h _ => h) (Has.cons rfl (Has.cons rfl (Has.cons rfl (Has.cons rfl (Has.cons rfl (Has.nil rfl rfl)))))) ?_
  simp only [List.append_eq, List.cons_append, List.nil_append, List.take_succ_cons, List.take_zero, List.drop_succ_cons, List.drop_zero]
  refine p_put (v := .pointer (some ⟨g, q, none⟩)) rfl (by decide) rfl (fun w0 h0 a A => yq rfl (Rn.qt (qmove rfl (A.ev rfl)))) ?_
  refine p_put (v := .pointer (some ⟨g, q, none⟩)) rfl (by decide) rfl (fun w0 h0 a A => yq rfl (Rn.qt (qnil rfl (A.ev rfl)))) ?_
  refine p_put (v := .pointer (some ⟨g, q + 7, none⟩)) rfl (by decide) rfl (fun w0 h0 a A => yq rfl (Rn.qt (qfield rfl (A.ev rfl) fp7))) ?_
  refine p_put (v := .bool (p.bt 7)) rfl (by decide) rfl (fun w0 h0 a A => yq rfl (Rn.qt (qload rfl (A.ev rfl) ((RR w0 h0).bit rfl)))) ?_
  refine p_put (v := .bool (!(p.bt 7))) rfl (by decide) rfl (fun w0 h0 a A => yq rfl (Rn.qt (qnot rfl (A.ev rfl)))) ?_
  refine p_put (v := .bool (!(p.bt 7))) rfl (by decide) rfl (fun w0 h0 a A => yq rfl (Rn.qt (qmove rfl (A.ev rfl)))) ?_
  refine p_put (v := gd (!(p.bt 7)) true (.pointer (some ⟨g, q, none⟩))) rfl (by decide) rfl (fun w0 h0 a A => yq1 rfl (A.gt rfl rfl) (fun e => Rn.qt (qmove rfl (A.ev rfl)))) ?_
  refine p_put (v := gd (!(p.bt 7)) true (.pointer (some ⟨g, q, none⟩))) rfl (by decide) rfl (fun w0 h0 a A => yq1 rfl (A.gt rfl rfl) (fun e => Rn.qt (qnil rfl (on e (A.ev rfl))))) ?_
  refine p_put (v := gd (!(p.bt 7)) true (.pointer (some ⟨g, q + 4, none⟩))) rfl (by decide) rfl (fun w0 h0 a A => yq1 rfl (A.gt rfl rfl) (fun e => Rn.qt (qfield rfl (on e (A.ev rfl)) fp4))) ?_
  refine p_put (v := gd (!(p.bt 7)) true (.bool (p.bt 4))) rfl (by decide) rfl (fun w0 h0 a A => yq1 rfl (A.gt rfl rfl) (fun e => Rn.qt (qload rfl (on e (A.ev rfl)) ((RR w0 h0).bit rfl)))) ?_
  refine p_put (v := gd (!(p.bt 7)) true (.bool (!(p.bt 4)))) rfl (by decide) rfl (fun w0 h0 a A => yq1 rfl (A.gt rfl rfl) (fun e => Rn.qt (qnot rfl (on e (A.ev rfl))))) ?_
  refine p_put (v := .bool ((!(p.bt 7)) && (!(p.bt 4)))) rfl (by decide) rfl (fun w0 h0 a A => yq rfl (Rn.qt (qpick rfl (A.ev rfl) (pkA (A.ev rfl) rfl)))) ?_
  refine p_put (v := .bool ((!(p.bt 7)) && (!(p.bt 4)))) rfl (by decide) rfl (fun w0 h0 a A => yq rfl (Rn.qt (qmove rfl (A.ev rfl)))) ?_
  refine p_put (v := gd ((!(p.bt 7)) && (!(p.bt 4))) true (.pointer (some ⟨g, q, none⟩))) rfl (by decide) rfl (fun w0 h0 a A => yq1 rfl (A.gt rfl rfl) (fun e => Rn.qt (qmove rfl (A.ev rfl)))) ?_
  refine p_put (v := gd ((!(p.bt 7)) && (!(p.bt 4))) true (.pointer (some ⟨g, q, none⟩))) rfl (by decide) rfl (fun w0 h0 a A => yq1 rfl (A.gt rfl rfl) (fun e => Rn.qt (qnil rfl (on e (A.ev rfl))))) ?_
  refine p_put (v := gd ((!(p.bt 7)) && (!(p.bt 4))) true (.pointer (some ⟨g, q + 13, none⟩))) rfl (by decide) rfl (fun w0 h0 a A => yq1 rfl (A.gt rfl rfl) (fun e => Rn.qt (qfield rfl (on e (A.ev rfl)) fp13))) ?_
  refine p_put (v := gd ((!(p.bt 7)) && (!(p.bt 4))) true (.bool (p.bt 13))) rfl (by decide) rfl (fun w0 h0 a A => yq1 rfl (A.gt rfl rfl) (fun e => Rn.qt (qload rfl (on e (A.ev rfl)) ((RR w0 h0).bit rfl)))) ?_
  refine p_put (v := gd ((!(p.bt 7)) && (!(p.bt 4))) true (.bool (!(p.bt 13)))) rfl (by decide) rfl (fun w0 h0 a A => yq1 rfl (A.gt rfl rfl) (fun e => Rn.qt (qnot rfl (on e (A.ev rfl))))) ?_
  refine p_put (v := .bool (((!(p.bt 7)) && (!(p.bt 4))) && (!(p.bt 13)))) rfl (by decide) rfl (fun w0 h0 a A => yq rfl (Rn.qt (qpick rfl (A.ev rfl) (pkA (A.ev rfl) rfl)))) ?_
  refine p_put (v := .pointer (some ⟨b, 0, none⟩)) rfl (by decide) rfl (fun w0 h0 a A => yq rfl (Rn.qt (qmove rfl (A.ev rfl)))) ?_
  refine p_put (v := .func (.func 62) #[.pointer (some ⟨b, 0, none⟩)] #[]) rfl (by decide) rfl (fun w0 h0 a A => yq rfl (Rn.qt (qfn rfl (A.ev rfl)))) ?_
  refine p_put (v := .agg #[.bool (((!(p.bt 7)) && (!(p.bt 4))) && (!(p.bt 13))), .func (.func 62) #[.pointer (some ⟨b, 0, none⟩)] #[]]) rfl (by decide) rfl (fun w0 h0 a A => yq rfl (Rn.qt (qrule rfl (A.ev rfl) (A.ev rfl)))) ?_
  refine p_put (v := .bool ST) rfl (by decide) rfl (fun w0 h0 a A => yq rfl (Rn.qt (qmove rfl (A.ev rfl)))) ?_
  refine p_put (v := .bool ST) rfl (by decide) rfl (fun w0 h0 a A => yq rfl (Rn.qt (qmove rfl (A.ev rfl)))) ?_
  refine p_put (v := gd ST true (.pointer (some ⟨g, q, none⟩))) rfl (by decide) rfl (fun w0 h0 a A => yq1 rfl (A.gt rfl rfl) (fun e => Rn.qt (qmove rfl (A.ev rfl)))) ?_
  refine p_put (v := gd ST true (.pointer (some ⟨g, q, none⟩))) rfl (by decide) rfl (fun w0 h0 a A => yq1 rfl (A.gt rfl rfl) (fun e => Rn.qt (qnil rfl (on e (A.ev rfl))))) ?_
  refine p_put (v := gd ST true (.pointer (some ⟨g, q + 25, none⟩))) rfl (by decide) rfl (fun w0 h0 a A => yq1 rfl (A.gt rfl rfl) (fun e => Rn.qt (qfield rfl (on e (A.ev rfl)) fp25))) ?_
  refine p_put (v := gd ST true (.bool (p.bt 25))) rfl (by decide) rfl (fun w0 h0 a A => yq1 rfl (A.gt rfl rfl) (fun e => Rn.qt (qload rfl (on e (A.ev rfl)) ((RR w0 h0).bit rfl)))) ?_
  refine p_put (v := gd ST true (.bool (!(p.bt 25)))) rfl (by decide) rfl (fun w0 h0 a A => yq1 rfl (A.gt rfl rfl) (fun e => Rn.qt (qnot rfl (on e (A.ev rfl))))) ?_
  refine p_put (v := .bool (ST && (!(p.bt 25)))) rfl (by decide) rfl (fun w0 h0 a A => yq rfl (Rn.qt (qpick rfl (A.ev rfl) (pkA (A.ev rfl) rfl)))) ?_
  refine p_put (v := .bool (ST && (!(p.bt 25)))) rfl (by decide) rfl (fun w0 h0 a A => yq rfl (Rn.qt (qmove rfl (A.ev rfl)))) ?_
  refine p_put (v := gd (ST && (!(p.bt 25))) false (.pointer (some ⟨g, q, none⟩))) rfl (by decide) rfl (fun w0 h0 a A => yq1 rfl (A.gt rfl rfl) (fun e => Rn.qt (qmove rfl (A.ev rfl)))) ?_
  refine p_put (v := gd (ST && (!(p.bt 25))) false (.pointer (some ⟨g, q, none⟩))) rfl (by decide) rfl (fun w0 h0 a A => yq1 rfl (A.gt rfl rfl) (fun e => Rn.qt (qnil rfl (on e (A.ev rfl))))) ?_
  refine p_put (v := gd (ST && (!(p.bt 25))) false (.pointer (some ⟨g, q + 4, none⟩))) rfl (by decide) rfl (fun w0 h0 a A => yq1 rfl (A.gt rfl rfl) (fun e => Rn.qt (qfield rfl (on e (A.ev rfl)) fp4))) ?_
  refine p_put (v := gd (ST && (!(p.bt 25))) false (.bool (p.bt 4))) rfl (by decide) rfl (fun w0 h0 a A => yq1 rfl (A.gt rfl rfl) (fun e => Rn.qt (qload rfl (on e (A.ev rfl)) ((RR w0 h0).bit rfl)))) ?_
  refine p_put (v := gd (ST && (!(p.bt 25))) false (.bool (p.bt 4))) rfl (by decide) rfl (fun w0 h0 a A => yq1 rfl (A.gt rfl rfl) (fun e => Rn.qt (qmove rfl (on e (A.ev rfl))))) ?_
  refine p_put (v := gd (ST && (!(p.bt 25))) false (gd (p.bt 4) true (.pointer (some ⟨g, q, none⟩)))) rfl (by decide) rfl (fun w0 h0 a A => yq2 rfl (A.gt rfl rfl) (fun e1 e2 => Rn.qt (qmove rfl (A.ev rfl)))) ?_
  refine p_put (v := gd (ST && (!(p.bt 25))) false (gd (p.bt 4) true (.pointer (some ⟨g, q, none⟩)))) rfl (by decide) rfl (fun w0 h0 a A => yq2 rfl (A.gt rfl rfl) (fun e1 e2 => Rn.qt (qnil rfl (on e2 (on e1 (A.ev rfl)))))) ?_
  refine p_put (v := gd (ST && (!(p.bt 25))) false (gd (p.bt 4) true (.pointer (some ⟨g, q + 25, none⟩)))) rfl (by decide) rfl (fun w0 h0 a A => yq2 rfl (A.gt rfl rfl) (fun e1 e2 => Rn.qt (qfield rfl (on e2 (on e1 (A.ev rfl))) fp25))) ?_
  refine p_put (v := gd (ST && (!(p.bt 25))) false (gd (p.bt 4) true (.bool (p.bt 25)))) rfl (by decide) rfl (fun w0 h0 a A => yq2 rfl (A.gt rfl rfl) (fun e1 e2 => Rn.qt (qload rfl (on e2 (on e1 (A.ev rfl))) ((RR w0 h0).bit rfl)))) ?_
  refine p_put (v := gd (ST && (!(p.bt 25))) false (gd (p.bt 4) true (.bool (!(p.bt 25))))) rfl (by decide) rfl (fun w0 h0 a A => yq2 rfl (A.gt rfl rfl) (fun e1 e2 => Rn.qt (qnot rfl (on e2 (on e1 (A.ev rfl)))))) ?_
  refine p_put (v := gd (ST && (!(p.bt 25))) false (.bool ((p.bt 4) && (!(p.bt 25))))) rfl (by decide) rfl (fun w0 h0 a A => yq1 rfl (A.gt rfl rfl) (fun e => Rn.qt (qpick rfl (on e (A.ev rfl)) (pkA (on e (A.ev rfl)) rfl)))) ?_
  refine p_put (v := .bool ((ST && (!(p.bt 25))) || ((p.bt 4) && (!(p.bt 25))))) rfl (by decide) rfl (fun w0 h0 a A => yq rfl (Rn.qt (qpick rfl (A.ev rfl) (pkO rfl (A.ev rfl))))) ?_
  refine p_put (v := .bool ((ST && (!(p.bt 25))) || ((p.bt 4) && (!(p.bt 25))))) rfl (by decide) rfl (fun w0 h0 a A => yq rfl (Rn.qt (qmove rfl (A.ev rfl)))) ?_
  refine p_put (v := gd ((ST && (!(p.bt 25))) || ((p.bt 4) && (!(p.bt 25)))) false (.pointer (some ⟨g, q, none⟩))) rfl (by decide) rfl (fun w0 h0 a A => yq1 rfl (A.gt rfl rfl) (fun e => Rn.qt (qmove rfl (A.ev rfl)))) ?_
  refine p_put (v := gd ((ST && (!(p.bt 25))) || ((p.bt 4) && (!(p.bt 25)))) false (.pointer (some ⟨g, q, none⟩))) rfl (by decide) rfl (fun w0 h0 a A => yq1 rfl (A.gt rfl rfl) (fun e => Rn.qt (qnil rfl (on e (A.ev rfl))))) ?_
  refine p_put (v := gd ((ST && (!(p.bt 25))) || ((p.bt 4) && (!(p.bt 25)))) false (.pointer (some ⟨g, q + 24, none⟩))) rfl (by decide) rfl (fun w0 h0 a A => yq1 rfl (A.gt rfl rfl) (fun e => Rn.qt (qfield rfl (on e (A.ev rfl)) fp24))) ?_
  refine p_put (v := gd ((ST && (!(p.bt 25))) || ((p.bt 4) && (!(p.bt 25)))) false (.bool (p.bt 24))) rfl (by decide) rfl (fun w0 h0 a A => yq1 rfl (A.gt rfl rfl) (fun e => Rn.qt (qload rfl (on e (A.ev rfl)) ((RR w0 h0).bit rfl)))) ?_
  refine p_put (v := gd ((ST && (!(p.bt 25))) || ((p.bt 4) && (!(p.bt 25)))) false (.bool (p.bt 24))) rfl (by decide) rfl (fun w0 h0 a A => yq1 rfl (A.gt rfl rfl) (fun e => Rn.qt (qmove rfl (on e (A.ev rfl))))) ?_
  refine p_put (v := gd ((ST && (!(p.bt 25))) || ((p.bt 4) && (!(p.bt 25)))) false (gd (p.bt 24) true (.pointer (some ⟨g, q, none⟩)))) rfl (by decide) rfl (fun w0 h0 a A => yq2 rfl (A.gt rfl rfl) (fun e1 e2 => Rn.qt (qmove rfl (A.ev rfl)))) ?_
  refine p_put (v := gd ((ST && (!(p.bt 25))) || ((p.bt 4) && (!(p.bt 25)))) false (gd (p.bt 24) true (.pointer (some ⟨g, q, none⟩)))) rfl (by decide) rfl (fun w0 h0 a A => yq2 rfl (A.gt rfl rfl) (fun e1 e2 => Rn.qt (qnil rfl (on e2 (on e1 (A.ev rfl)))))) ?_
  refine p_put (v := gd ((ST && (!(p.bt 25))) || ((p.bt 4) && (!(p.bt 25)))) false (gd (p.bt 24) true (.pointer (some ⟨g, q + 25, none⟩)))) rfl (by decide) rfl (fun w0 h0 a A => yq2 rfl (A.gt rfl rfl) (fun e1 e2 => Rn.qt (qfield rfl (on e2 (on e1 (A.ev rfl))) fp25))) ?_
  refine p_put (v := gd ((ST && (!(p.bt 25))) || ((p.bt 4) && (!(p.bt 25)))) false (gd (p.bt 24) true (.bool (p.bt 25)))) rfl (by decide) rfl (fun w0 h0 a A => yq2 rfl (A.gt rfl rfl) (fun e1 e2 => Rn.qt (qload rfl (on e2 (on e1 (A.ev rfl))) ((RR w0 h0).bit rfl)))) ?_
  refine p_put (v := gd ((ST && (!(p.bt 25))) || ((p.bt 4) && (!(p.bt 25)))) false (.bool ((p.bt 24) && (p.bt 25)))) rfl (by decide) rfl (fun w0 h0 a A => yq1 rfl (A.gt rfl rfl) (fun e => Rn.qt (qpick rfl (on e (A.ev rfl)) (pkA (on e (A.ev rfl)) rfl)))) ?_
  refine p_put (v := .bool (((ST && (!(p.bt 25))) || ((p.bt 4) && (!(p.bt 25)))) || ((p.bt 24) && (p.bt 25)))) rfl (by decide) rfl (fun w0 h0 a A => yq rfl (Rn.qt (qpick rfl (A.ev rfl) (pkO rfl (A.ev rfl))))) ?_
  refine p_put (v := .pointer (some ⟨b, 0, none⟩)) rfl (by decide) rfl (fun w0 h0 a A => yq rfl (Rn.qt (qmove rfl (A.ev rfl)))) ?_
  refine p_put (v := .func (.func 63) #[.pointer (some ⟨b, 0, none⟩)] #[]) rfl (by decide) rfl (fun w0 h0 a A => yq rfl (Rn.qt (qfn rfl (A.ev rfl)))) ?_
  refine p_put (v := .agg #[.bool (((ST && (!(p.bt 25))) || ((p.bt 4) && (!(p.bt 25)))) || ((p.bt 24) && (p.bt 25))), .func (.func 63) #[.pointer (some ⟨b, 0, none⟩)] #[]]) rfl (by decide) rfl (fun w0 h0 a A => yq rfl (Rn.qt (qrule rfl (A.ev rfl) (A.ev rfl)))) ?_
  refine p_put (v := .pointer (some ⟨g, q, none⟩)) rfl (by decide) rfl (fun w0 h0 a A => yq rfl (Rn.qt (qmove rfl (A.ev rfl)))) ?_
  refine p_put (v := .pointer (some ⟨g, q, none⟩)) rfl (by decide) rfl (fun w0 h0 a A => yq rfl (Rn.qt (qnil rfl (A.ev rfl)))) ?_
  refine p_put (v := .pointer (some ⟨g, q + 70, none⟩)) rfl (by decide) rfl (fun w0 h0 a A => yq rfl (Rn.qt (qfield rfl (A.ev rfl) fp43))) ?_
  refine p_put (v := .int .u8 (p.nm 70)) rfl (by decide) rfl (fun w0 h0 a A => yq rfl (Rn.qt (qload rfl (A.ev rfl) ((RR w0 h0).u8 rfl)))) ?_
  refine p_put (v := .bool ((p.nm 70) == 0)) rfl (by decide) rfl (fun w0 h0 a A => yq rfl (Rn.qt (qbin rfl (A.ev rfl) rfl (eg_u8 _ _ _ _ _) (eq_u8 _ _)))) ?_
  refine p_put (v := .bool ((p.nm 70) == 0)) rfl (by decide) rfl (fun w0 h0 a A => yq rfl (Rn.qt (qmove rfl (A.ev rfl)))) ?_
  refine p_put (v := gd ((p.nm 70) == 0) true (.pointer (some ⟨g, q, none⟩))) rfl (by decide) rfl (fun w0 h0 a A => yq1 rfl (A.gt rfl rfl) (fun e => Rn.qt (qmove rfl (A.ev rfl)))) ?_
  refine p_put (v := gd ((p.nm 70) == 0) true (.pointer (some ⟨g, q, none⟩))) rfl (by decide) rfl (fun w0 h0 a A => yq1 rfl (A.gt rfl rfl) (fun e => Rn.qt (qnil rfl (on e (A.ev rfl))))) ?_
  refine p_put (v := gd ((p.nm 70) == 0) true (.pointer (some ⟨g, q + 20, none⟩))) rfl (by decide) rfl (fun w0 h0 a A => yq1 rfl (A.gt rfl rfl) (fun e => Rn.qt (qfield rfl (on e (A.ev rfl)) fp20))) ?_
  refine p_put (v := gd ((p.nm 70) == 0) true (.bool (p.bt 20))) rfl (by decide) rfl (fun w0 h0 a A => yq1 rfl (A.gt rfl rfl) (fun e => Rn.qt (qload rfl (on e (A.ev rfl)) ((RR w0 h0).bit rfl)))) ?_
  refine p_put (v := .bool (((p.nm 70) == 0) && (p.bt 20))) rfl (by decide) rfl (fun w0 h0 a A => yq rfl (Rn.qt (qpick rfl (A.ev rfl) (pkA (A.ev rfl) rfl)))) ?_
  refine p_put (v := .pointer (some ⟨b, 0, none⟩)) rfl (by decide) rfl (fun w0 h0 a A => yq rfl (Rn.qt (qmove rfl (A.ev rfl)))) ?_
  refine p_put (v := .func (.func 57) #[.pointer (some ⟨b, 0, none⟩)] #[]) rfl (by decide) rfl (fun w0 h0 a A => yq rfl (Rn.qt (qfn rfl (A.ev rfl)))) ?_
  refine p_put (v := .agg #[.bool (((p.nm 70) == 0) && (p.bt 20)), .func (.func 57) #[.pointer (some ⟨b, 0, none⟩)] #[]]) rfl (by decide) rfl (fun w0 h0 a A => yq rfl (Rn.qt (qrule rfl (A.ev rfl) (A.ev rfl)))) ?_
  refine p_put (v := .bool MU) rfl (by decide) rfl (fun w0 h0 a A => yq rfl (Rn.qt (qmove rfl (A.ev rfl)))) ?_
  refine p_put (v := .bool MU) rfl (by decide) rfl (fun w0 h0 a A => yq rfl (Rn.qt (qmove rfl (A.ev rfl)))) ?_
  refine p_put (v := gd MU true (.pointer (some ⟨g, q, none⟩))) rfl (by decide) rfl (fun w0 h0 a A => yq1 rfl (A.gt rfl rfl) (fun e => Rn.qt (qmove rfl (A.ev rfl)))) ?_
  refine p_put (v := gd MU true (.pointer (some ⟨g, q, none⟩))) rfl (by decide) rfl (fun w0 h0 a A => yq1 rfl (A.gt rfl rfl) (fun e => Rn.qt (qnil rfl (on e (A.ev rfl))))) ?_
  refine p_put (v := gd MU true (.pointer (some ⟨g, q + 9, none⟩))) rfl (by decide) rfl (fun w0 h0 a A => yq1 rfl (A.gt rfl rfl) (fun e => Rn.qt (qfield rfl (on e (A.ev rfl)) fp9))) ?_
  refine p_put (v := gd MU true (.bool (p.bt 9))) rfl (by decide) rfl (fun w0 h0 a A => yq1 rfl (A.gt rfl rfl) (fun e => Rn.qt (qload rfl (on e (A.ev rfl)) ((RR w0 h0).bit rfl)))) ?_
  refine p_put (v := gd MU true (.bool (p.bt 9))) rfl (by decide) rfl (fun w0 h0 a A => yq1 rfl (A.gt rfl rfl) (fun e => Rn.qt (qmove rfl (on e (A.ev rfl))))) ?_
  refine p_put (v := gd MU true (gd (p.bt 9) false (.pointer (some ⟨g, q, none⟩)))) rfl (by decide) rfl (fun w0 h0 a A => yq2 rfl (A.gt rfl rfl) (fun e1 e2 => Rn.qt (qmove rfl (A.ev rfl)))) ?_
  refine p_put (v := gd MU true (gd (p.bt 9) false (.pointer (some ⟨g, q, none⟩)))) rfl (by decide) rfl (fun w0 h0 a A => yq2 rfl (A.gt rfl rfl) (fun e1 e2 => Rn.qt (qnil rfl (on e2 (on e1 (A.ev rfl)))))) ?_
  refine p_put (v := gd MU true (gd (p.bt 9) false (.pointer (some ⟨g, q + 7, none⟩)))) rfl (by decide) rfl (fun w0 h0 a A => yq2 rfl (A.gt rfl rfl) (fun e1 e2 => Rn.qt (qfield rfl (on e2 (on e1 (A.ev rfl))) fp7))) ?_
  refine p_put (v := gd MU true (gd (p.bt 9) false (.bool (p.bt 7)))) rfl (by decide) rfl (fun w0 h0 a A => yq2 rfl (A.gt rfl rfl) (fun e1 e2 => Rn.qt (qload rfl (on e2 (on e1 (A.ev rfl))) ((RR w0 h0).bit rfl)))) ?_
  refine p_put (v := gd MU true (.bool ((p.bt 9) || (p.bt 7)))) rfl (by decide) rfl (fun w0 h0 a A => yq1 rfl (A.gt rfl rfl) (fun e => Rn.qt (qpick rfl (on e (A.ev rfl)) (pkO rfl (on e (A.ev rfl)))))) ?_
  refine p_put (v := .bool (MU && ((p.bt 9) || (p.bt 7)))) rfl (by decide) rfl (fun w0 h0 a A => yq rfl (Rn.qt (qpick rfl (A.ev rfl) (pkA (A.ev rfl) rfl)))) ?_
  refine p_put (v := .pointer (some ⟨b, 0, none⟩)) rfl (by decide) rfl (fun w0 h0 a A => yq rfl (Rn.qt (qmove rfl (A.ev rfl)))) ?_
  refine p_put (v := .func (.func 64) #[.pointer (some ⟨b, 0, none⟩)] #[]) rfl (by decide) rfl (fun w0 h0 a A => yq rfl (Rn.qt (qfn rfl (A.ev rfl)))) ?_
  refine p_put (v := .agg #[.bool (MU && ((p.bt 9) || (p.bt 7))), .func (.func 64) #[.pointer (some ⟨b, 0, none⟩)] #[]]) rfl (by decide) rfl (fun w0 h0 a A => yq rfl (Rn.qt (qrule rfl (A.ev rfl) (A.ev rfl)))) ?_
  refine p_put (v := .bool GO) rfl (by decide) rfl (fun w0 h0 a A => yq rfl (Rn.qt (qmove rfl (A.ev rfl)))) ?_
  refine p_put (v := .bool GO) rfl (by decide) rfl (fun w0 h0 a A => yq rfl (Rn.qt (qmove rfl (A.ev rfl)))) ?_
  refine p_put (v := gd GO true (.pointer (some ⟨g, q, none⟩))) rfl (by decide) rfl (fun w0 h0 a A => yq1 rfl (A.gt rfl rfl) (fun e => Rn.qt (qmove rfl (A.ev rfl)))) ?_
  refine p_put (v := gd GO true (.pointer (some ⟨g, q, none⟩))) rfl (by decide) rfl (fun w0 h0 a A => yq1 rfl (A.gt rfl rfl) (fun e => Rn.qt (qnil rfl (on e (A.ev rfl))))) ?_
  refine p_put (v := gd GO true (.pointer (some ⟨g, q + 9, none⟩))) rfl (by decide) rfl (fun w0 h0 a A => yq1 rfl (A.gt rfl rfl) (fun e => Rn.qt (qfield rfl (on e (A.ev rfl)) fp9))) ?_
  refine p_put (v := gd GO true (.bool (p.bt 9))) rfl (by decide) rfl (fun w0 h0 a A => yq1 rfl (A.gt rfl rfl) (fun e => Rn.qt (qload rfl (on e (A.ev rfl)) ((RR w0 h0).bit rfl)))) ?_
  refine p_put (v := gd GO true (.bool (!(p.bt 9)))) rfl (by decide) rfl (fun w0 h0 a A => yq1 rfl (A.gt rfl rfl) (fun e => Rn.qt (qnot rfl (on e (A.ev rfl))))) ?_
  refine p_put (v := .bool (GO && (!(p.bt 9)))) rfl (by decide) rfl (fun w0 h0 a A => yq rfl (Rn.qt (qpick rfl (A.ev rfl) (pkA (A.ev rfl) rfl)))) ?_
  refine p_put (v := .pointer (some ⟨b, 0, none⟩)) rfl (by decide) rfl (fun w0 h0 a A => yq rfl (Rn.qt (qmove rfl (A.ev rfl)))) ?_
  refine p_put (v := .func (.func 58) #[.pointer (some ⟨b, 0, none⟩)] #[]) rfl (by decide) rfl (fun w0 h0 a A => yq rfl (Rn.qt (qfn rfl (A.ev rfl)))) ?_
  refine p_put (v := .agg #[.bool (GO && (!(p.bt 9))), .func (.func 58) #[.pointer (some ⟨b, 0, none⟩)] #[]]) rfl (by decide) rfl (fun w0 h0 a A => yq rfl (Rn.qt (qrule rfl (A.ev rfl) (A.ev rfl)))) ?_
  refine p_put (v := .bool GO) rfl (by decide) rfl (fun w0 h0 a A => yq rfl (Rn.qt (qmove rfl (A.ev rfl)))) ?_
  refine p_put (v := .bool GO) rfl (by decide) rfl (fun w0 h0 a A => yq rfl (Rn.qt (qmove rfl (A.ev rfl)))) ?_
  refine p_put (v := gd GO true (.pointer (some ⟨g, q, none⟩))) rfl (by decide) rfl (fun w0 h0 a A => yq1 rfl (A.gt rfl rfl) (fun e => Rn.qt (qmove rfl (A.ev rfl)))) ?_
  refine p_put (v := gd GO true (.pointer (some ⟨g, q, none⟩))) rfl (by decide) rfl (fun w0 h0 a A => yq1 rfl (A.gt rfl rfl) (fun e => Rn.qt (qnil rfl (on e (A.ev rfl))))) ?_
  refine p_put (v := gd GO true (.pointer (some ⟨g, q + 9, none⟩))) rfl (by decide) rfl (fun w0 h0 a A => yq1 rfl (A.gt rfl rfl) (fun e => Rn.qt (qfield rfl (on e (A.ev rfl)) fp9))) ?_
  refine p_put (v := gd GO true (.bool (p.bt 9))) rfl (by decide) rfl (fun w0 h0 a A => yq1 rfl (A.gt rfl rfl) (fun e => Rn.qt (qload rfl (on e (A.ev rfl)) ((RR w0 h0).bit rfl)))) ?_
  refine p_put (v := .bool (GO && (p.bt 9))) rfl (by decide) rfl (fun w0 h0 a A => yq rfl (Rn.qt (qpick rfl (A.ev rfl) (pkA (A.ev rfl) rfl)))) ?_
  refine p_put (v := .bool (GO && (p.bt 9))) rfl (by decide) rfl (fun w0 h0 a A => yq rfl (Rn.qt (qmove rfl (A.ev rfl)))) ?_
  refine p_put (v := gd (GO && (p.bt 9)) true (.pointer (some ⟨g, q, none⟩))) rfl (by decide) rfl (fun w0 h0 a A => yq1 rfl (A.gt rfl rfl) (fun e => Rn.qt (qmove rfl (A.ev rfl)))) ?_
  refine p_put (v := gd (GO && (p.bt 9)) true (.pointer (some ⟨g, q, none⟩))) rfl (by decide) rfl (fun w0 h0 a A => yq1 rfl (A.gt rfl rfl) (fun e => Rn.qt (qnil rfl (on e (A.ev rfl))))) ?_
  refine p_put (v := gd (GO && (p.bt 9)) true (.pointer (some ⟨g, q + 7, none⟩))) rfl (by decide) rfl (fun w0 h0 a A => yq1 rfl (A.gt rfl rfl) (fun e => Rn.qt (qfield rfl (on e (A.ev rfl)) fp7))) ?_
  refine p_put (v := gd (GO && (p.bt 9)) true (.bool (p.bt 7))) rfl (by decide) rfl (fun w0 h0 a A => yq1 rfl (A.gt rfl rfl) (fun e => Rn.qt (qload rfl (on e (A.ev rfl)) ((RR w0 h0).bit rfl)))) ?_
  refine p_put (v := gd (GO && (p.bt 9)) true (.bool (!(p.bt 7)))) rfl (by decide) rfl (fun w0 h0 a A => yq1 rfl (A.gt rfl rfl) (fun e => Rn.qt (qnot rfl (on e (A.ev rfl))))) ?_
  refine p_put (v := .bool ((GO && (p.bt 9)) && (!(p.bt 7)))) rfl (by decide) rfl (fun w0 h0 a A => yq rfl (Rn.qt (qpick rfl (A.ev rfl) (pkA (A.ev rfl) rfl)))) ?_
  refine p_put (v := .pointer (some ⟨b, 0, none⟩)) rfl (by decide) rfl (fun w0 h0 a A => yq rfl (Rn.qt (qmove rfl (A.ev rfl)))) ?_
  refine p_put (v := .func (.func 65) #[.pointer (some ⟨b, 0, none⟩)] #[]) rfl (by decide) rfl (fun w0 h0 a A => yq rfl (Rn.qt (qfn rfl (A.ev rfl)))) ?_
  refine p_put (v := .agg #[.bool ((GO && (p.bt 9)) && (!(p.bt 7))), .func (.func 65) #[.pointer (some ⟨b, 0, none⟩)] #[]]) rfl (by decide) rfl (fun w0 h0 a A => yq rfl (Rn.qt (qrule rfl (A.ev rfl) (A.ev rfl)))) ?_
  refine p_nil ?_
  intro a z A bz _
  have sb := bsR6 b ((!p.bt 7 && !p.bt 4) && !p.bt 13) ((ST && !p.bt 25) || (p.bt 4 && !p.bt 25) || (p.bt 24 && p.bt 25)) ((p.nm 70 == 0) && p.bt 20) (MU && (p.bt 9 || p.bt 7)) (GO && !p.bt 9) ((GO && p.bt 9) && !p.bt 7) 62 63 57 64 58 65 z
  obtain ⟨Y, hY⟩ : ∃ Y, z.alloc (.cells (rcs b [(((!p.bt 7 && !p.bt 4) && !p.bt 13), 62), (((ST && !p.bt 25) || (p.bt 4 && !p.bt 25) || (p.bt 24 && p.bt 25)), 63), (((p.nm 70 == 0) && p.bt 20), 57), ((MU && (p.bt 9 || p.bt 7)), 64), ((GO && !p.bt 9), 58), (((GO && p.bt 9) && !p.bt 7), 65)]).toArray 54) = Y := ⟨_, rfl⟩
  rw [hY] at sb
  have F : Hid (OwnR Y W.heap.size (.slice (some ⟨z.heap.size, 0, none⟩) 6 6) b [(((!p.bt 7 && !p.bt 4) && !p.bt 13), 62), (((ST && !p.bt 25) || (p.bt 4 && !p.bt 25) || (p.bt 24 && p.bt 25)), 63), (((p.nm 70 == 0) && p.bt 20), 57), ((MU && (p.bt 9 || p.bt 7)), 64), ((GO && !p.bt 9), 58), (((GO && p.bt 9) && !p.bt 7), 65)] ∧ Below W.heap.size W Y) := by
    have b2 := below_over B4.out bz
    rw [← hY]
    exact ⟨(OwnR.new z b [(((!p.bt 7 && !p.bt 4) && !p.bt 13), 62), (((ST && !p.bt 25) || (p.bt 4 && !p.bt 25) || (p.bt 24 && p.bt 25)), 63), (((p.nm 70 == 0) && p.bt 20), 57), ((MU && (p.bt 9 || p.bt 7)), 64), ((GO && !p.bt 9), 58), (((GO && p.bt 9) && !p.bt 7), 65)] (by simp)).base b2.size, b2.trans ((Below.refl _ _).alloc b2.size _)⟩
  clear hY
  have ED : dsgR p = [(((!p.bt 7 && !p.bt 4) && !p.bt 13), 62), (((ST && !p.bt 25) || (p.bt 4 && !p.bt 25) || (p.bt 24 && p.bt 25)), 63), (((p.nm 70 == 0) && p.bt 20), 57), ((MU && (p.bt 9 || p.bt 7)), 64), ((GO && !p.bt 9), 58), (((GO && p.bt 9) && !p.bt 7), 65)] := by
    unfold dsgR
    rw [EST.out, EMU.out, EGO.out]
  rw [← ED] at F
  refine wl_put (v := .slice (some ⟨z.heap.size, 0, none⟩) 6 6) (w' := Y) rfl ?_ ?_
  · unfold execOp
    simp only [List.map_toArray, List.map_cons, List.map_nil, A.ev (s := 74) rfl, A.ev (s := 110) rfl, A.ev (s := 124) rfl, A.ev (s := 140) rfl, A.ev (s := 151) rfl, A.ev (s := 168) rfl]
    rw [Sem.run_bind, bsRE, sb]
    rfl
  · have A2 := A.put (d := 169) (v := .slice (some ⟨z.heap.size, 0, none⟩) 6 6) (by decide)
    refine wl_put (v := .slice (some ⟨z.heap.size, 0, none⟩) 6 6) (w' := Y) rfl ?_ ?_
    · unfold execOp
      simp only [A2.ev (s := 169) rfl]
      rfl
    · have A3 := A2.put (d := 2) (v := .slice (some ⟨z.heap.size, 0, none⟩) 6 6) (by decide)
      obtain ⟨a3, h3⟩ : ∃ a3, ((a.put (some 169) (.slice (some ⟨z.heap.size, 0, none⟩) 6 6)).put (some 2) (.slice (some ⟨z.heap.size, 0, none⟩) 6 6)) = a3 := ⟨_, rfl⟩
      rw [h3] at A3
      show wpList _ _ _ [] ((a.put (some 169) _).put (some 2) _) _
      rw [h3]
      clear h3 A2 A
      go_wp2
      exact ret_slot Try.results46 A3 rfl ⟨_, rfl, F.out.1, F.out.2⟩
end Go.Proofs.Ytdlleecfmebenaa
