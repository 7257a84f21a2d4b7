/-
  The rules of a root port: the walk of whileRoot.
-/
import Derived.Test.YtdlleecfmebenaaRulA
import Derived.Test.YtdlleecfmebenaaVals
namespace Go.Proofs.Ytdlleecfmebenaa
set_option linter.unusedVariables false
set_option maxRecDepth 4000
set_option linter.unusedSimpArgs false
open Go.RowKit

def rdyB (l : List Pt) (k : Nat) : Bool := ((gtP l k).nm 65 == 0) || raoB l k
/-- What is so of a root port, and what it then does. -/
def rootR (l : List Pt) (k : Nat) : List (Bool × Nat) := [(prpB (gtP l k), 71), (ansB l k, 55)] ++ [(!(gtP l k).bt 7 && !(gtP l k).bt 20, 56), ((gtP l k).bt 20 && (gtP l k).bt 7, 57), (rdyB l k && !(gtP l k).bt 9, 58), ((rdyB l k && (gtP l k).bt 9) && !(gtP l k).bt 7, 59), ((gtP l k).nm 70 != (gtP l k).nm 43, 60)]
attribute [local go_sem ↓] ldT bsRE
set_option maxHeartbeats 16000000 in
theorem whRoot_any {W : World} {b g o n c k : Nat} {h : Hd} {l : List Pt} (s : CS W b h g o n c k l) :
    Calls Try.prog 45 #[.pointer (some ⟨b, 0, none⟩)] W fun r W' => ∃ v, r = .returned v ∧ OwnR W' W.heap.size v b (rootR l k) ∧ Below W.heap.size W W' := by
  unfold rootR rdyB
  obtain ⟨RA, hRA⟩ : ∃ z, raoB l k = z := ⟨_, rfl⟩
  rw [hRA]
  have ERA : Hid (raoB l k = RA) := hRA
  clear hRA
  have H : Hid (CS W b h g o n c k l) := s
  obtain ⟨p, hp⟩ : ∃ p, gtP l k = p := ⟨_, rfl⟩
  rw [hp]
  have R0 : ∀ V, Below W.heap.size W V → Prd (fun w' => ∃ x : Later V, w' = x.val) g (o + k * 77) p := fun V hV => by rw [← hp]; exact (H.out.below hV).rd
  obtain ⟨q, hq⟩ : ∃ q, o + k * 77 = q := ⟨_, rfl⟩
  rw [hq] at R0
  have HP : Hid (gtP l k = p) := hp
  clear s hp
  go_enter Try.func45, Try.ntmps45
  go_wp2_with fail
  refine (port_any H.out).mono ?_
  rintro _ V ⟨rfl, b1⟩
  rw [hq]
  have B : Hid (Below W.heap.size W V) := b1
  clear b1 hq
  have R := R0 V B.out
  have RK : ∀ x : Later V, Calls Try.prog 53 #[.pointer (some ⟨b, 0, none⟩)] x.val fun r W' => r = .returned (.bool RA) ∧ ∃ y : Later V, W' = y.val := fun x => by
    have := rao_any ((H.out.below B.out).below x.below)
    rw [ERA.out] at this
    exact Calls.later_of this
  go_upto_region 2 with fail
  refine wp_plain (C := fun w' => ∃ x : Later V, w' = x.val) ⟨⟨_, Below.refl _ _⟩, rfl⟩ ?_
  refine q_put (v := .pointer (some ⟨g, q, none⟩)) (yq rfl (Rn.qt (qmove rfl rfl))) ?_
  try simp only [Act.put, List.setIfInBounds_toArray, List.set_cons_zero, List.set_cons_succ]
  refine q_put (v := .pointer (some ⟨g, q, none⟩)) (yq rfl (Rn.qt (qnil rfl rfl))) ?_
  try simp only [Act.put, List.setIfInBounds_toArray, List.set_cons_zero, List.set_cons_succ]
  refine q_put (v := .pointer (some ⟨g, q + 65, none⟩)) (yq rfl (Rn.qt (qfield rfl rfl fp38))) ?_
  try simp only [Act.put, List.setIfInBounds_toArray, List.set_cons_zero, List.set_cons_succ]
  refine q_put (v := .int .u8 (p.nm 65)) (yq rfl (Rn.qt (qload rfl rfl (R.u8 rfl)))) ?_
  try simp only [Act.put, List.setIfInBounds_toArray, List.set_cons_zero, List.set_cons_succ]
  refine q_put (v := .bool ((p.nm 65) == 0)) (yq rfl (Rn.qt (qbin rfl rfl rfl (eg_u8 _ _ _ _ _) (eq_u8 _ _)))) ?_
  try simp only [Act.put, List.setIfInBounds_toArray, List.set_cons_zero, List.set_cons_succ]
  refine q_put (v := .bool ((p.nm 65) == 0)) (yq rfl (Rn.qt (qmove rfl rfl))) ?_
  try simp only [Act.put, List.setIfInBounds_toArray, List.set_cons_zero, List.set_cons_succ]
  refine q_put (v := gd ((p.nm 65) == 0) false (.pointer (some ⟨b, 0, none⟩))) (yq1 rfl rfl (fun e => Rn.qt (qmove rfl rfl))) ?_
  try simp only [Act.put, List.setIfInBounds_toArray, List.set_cons_zero, List.set_cons_succ]
  refine q_put (v := gd ((p.nm 65) == 0) false (.bool RA)) (yq1 rfl rfl (fun e => qcall1 rfl (on e rfl) (fun V => by go_simp) (fun w hw => by obtain ⟨x, rfl⟩ := hw; exact RK x))) ?_
  try simp only [Act.put, List.setIfInBounds_toArray, List.set_cons_zero, List.set_cons_succ]
  refine q_put (v := .bool (((p.nm 65) == 0) || RA)) (yq rfl (Rn.qt (qpick rfl rfl (pkO rfl rfl)))) ?_
  try simp only [Act.put, List.setIfInBounds_toArray, List.set_cons_zero, List.set_cons_succ]
  refine q_put (v := .bool (((p.nm 65) == 0) || RA)) (yq rfl (Rn.qt (qassign rfl rfl))) ?_
  try simp only [Act.put, List.setIfInBounds_toArray, List.set_cons_zero, List.set_cons_succ]
  refine wpQuiet_nil ?_
  rintro _ ⟨y, rfl⟩
  obtain ⟨U, hU⟩ : ∃ U, y.val = U := ⟨_, rfl⟩
  have bU : Below V.heap.size V U := by rw [← hU]; exact y.below
  rw [hU]
  have B2 : Hid (Below W.heap.size W U) := below_over B.out bU
  clear R hU bU y RK
  have RR : ∀ w0, Below U.heap.size U w0 → Prd (LC w0) g q p := fun w0 h0 => R0 w0 (below_over B2.out h0)
  clear R0
  obtain ⟨RY, hRY⟩ : ∃ z, (p.nm 65 == 0 || RA) = z := ⟨_, rfl⟩
  rw [hRY]
  have ERY : Hid ((p.nm 65 == 0 || RA) = RY) := hRY
  clear hRY
  go_upto_region 3 with fail
  refine wp_vals 73 16 91 3 19 (fun v w' => OwnR w' W.heap.size v b [(prpB p, 71), (ansB l k, 55)]) (by kernel_rfl) (by kernel_rfl) (E0 := [(0, .pointer (some ⟨b, 0, none⟩)), (3, .pointer (some ⟨g, q, none⟩)), (4, .bool RY)]) (by kernel_rfl) (fun _ => rfl) (fun v w1 w2 h1 h2 => OwnR.below h1 h2) (Has.cons rfl (Has.cons rfl (Has.cons rfl (Has.nil rfl rfl)))) ?_
  simp only [List.append_eq, List.cons_append, List.nil_append, List.take_succ_cons, List.take_zero, List.drop_succ_cons, List.drop_zero]
  refine p_put (v := .pointer (some ⟨b, 0, none⟩)) rfl (by decide) rfl (fun w0 h0 a A => yq rfl (Rn.qt (qmove rfl (A.ev rfl)))) ?_
  refine p_put (v := .pointer (some ⟨b, 0, none⟩)) rfl (by decide) rfl (fun w0 h0 a A => yq rfl (Rn.qt (qmove rfl (A.ev rfl)))) ?_
  refine p_put (v := .func (.func 55) #[.pointer (some ⟨b, 0, none⟩)] #[]) rfl (by decide) rfl (fun w0 h0 a A => yq rfl (Rn.qt (qfn rfl (A.ev rfl)))) ?_
  refine p_heavy rfl (by decide) rfl ⟨rfl, fun w0 h0 a A => ⟨54, #[.pointer (some ⟨b, 0, none⟩), .func (.func 55) #[.pointer (some ⟨b, 0, none⟩)] #[]], run_enter2 rfl (A.ev rfl) (A.ev rfl) (fun V => by go_simp), ?_⟩⟩ ?_
  · have q := ans_any (H.out.below (below_over B2.out h0)) 55
    rw [HP.out] at q
    refine q.mono ?_
    rintro _ w' ⟨v, rfl, o1, b1⟩
    exact ⟨v, rfl, o1.base (below_over B2.out h0).size, b1⟩
  refine p_put (v := .pointer (some ⟨g, q, none⟩)) rfl (by decide) rfl (fun w0 h0 a A => yq rfl (Rn.qt (qmove rfl (A.ev rfl)))) ?_
  refine p_put (v := .pointer (some ⟨g, q, none⟩)) rfl (by decide) rfl (fun w0 h0 a A => yq rfl (Rn.qt (qnil rfl (A.ev rfl)))) ?_
  refine p_put (v := .pointer (some ⟨g, q + 7, none⟩)) rfl (by decide) rfl (fun w0 h0 a A => yq rfl (Rn.qt (qfield rfl (A.ev rfl) fp7))) ?_
  refine p_put (v := .bool (p.bt 7)) rfl (by decide) rfl (fun w0 h0 a A => yq rfl (Rn.qt (qload rfl (A.ev rfl) ((RR w0 h0).bit rfl)))) ?_
  refine p_put (v := .bool (!(p.bt 7))) rfl (by decide) rfl (fun w0 h0 a A => yq rfl (Rn.qt (qnot rfl (A.ev rfl)))) ?_
  refine p_put (v := .bool (!(p.bt 7))) rfl (by decide) rfl (fun w0 h0 a A => yq rfl (Rn.qt (qmove rfl (A.ev rfl)))) ?_
  refine p_put (v := gd (!(p.bt 7)) true (.pointer (some ⟨g, q, none⟩))) rfl (by decide) rfl (fun w0 h0 a A => yq1 rfl (A.gt rfl rfl) (fun e => Rn.qt (qmove rfl (A.ev rfl)))) ?_
  refine p_put (v := gd (!(p.bt 7)) true (.pointer (some ⟨g, q, none⟩))) rfl (by decide) rfl (fun w0 h0 a A => yq1 rfl (A.gt rfl rfl) (fun e => Rn.qt (qnil rfl (on e (A.ev rfl))))) ?_
  refine p_put (v := gd (!(p.bt 7)) true (.pointer (some ⟨g, q + 20, none⟩))) rfl (by decide) rfl (fun w0 h0 a A => yq1 rfl (A.gt rfl rfl) (fun e => Rn.qt (qfield rfl (on e (A.ev rfl)) fp20))) ?_
  refine p_put (v := gd (!(p.bt 7)) true (.bool (p.bt 20))) rfl (by decide) rfl (fun w0 h0 a A => yq1 rfl (A.gt rfl rfl) (fun e => Rn.qt (qload rfl (on e (A.ev rfl)) ((RR w0 h0).bit rfl)))) ?_
  refine p_put (v := gd (!(p.bt 7)) true (.bool (!(p.bt 20)))) rfl (by decide) rfl (fun w0 h0 a A => yq1 rfl (A.gt rfl rfl) (fun e => Rn.qt (qnot rfl (on e (A.ev rfl))))) ?_
  refine p_put (v := .bool ((!(p.bt 7)) && (!(p.bt 20)))) rfl (by decide) rfl (fun w0 h0 a A => yq rfl (Rn.qt (qpick rfl (A.ev rfl) (pkA (A.ev rfl) rfl)))) ?_
  refine p_put (v := .pointer (some ⟨b, 0, none⟩)) rfl (by decide) rfl (fun w0 h0 a A => yq rfl (Rn.qt (qmove rfl (A.ev rfl)))) ?_
  refine p_put (v := .func (.func 56) #[.pointer (some ⟨b, 0, none⟩)] #[]) rfl (by decide) rfl (fun w0 h0 a A => yq rfl (Rn.qt (qfn rfl (A.ev rfl)))) ?_
  refine p_put (v := .agg #[.bool ((!(p.bt 7)) && (!(p.bt 20))), .func (.func 56) #[.pointer (some ⟨b, 0, none⟩)] #[]]) rfl (by decide) rfl (fun w0 h0 a A => yq rfl (Rn.qt (qrule rfl (A.ev rfl) (A.ev rfl)))) ?_
  refine p_put (v := .pointer (some ⟨g, q, none⟩)) rfl (by decide) rfl (fun w0 h0 a A => yq rfl (Rn.qt (qmove rfl (A.ev rfl)))) ?_
  refine p_put (v := .pointer (some ⟨g, q, none⟩)) rfl (by decide) rfl (fun w0 h0 a A => yq rfl (Rn.qt (qnil rfl (A.ev rfl)))) ?_
  refine p_put (v := .pointer (some ⟨g, q + 20, none⟩)) rfl (by decide) rfl (fun w0 h0 a A => yq rfl (Rn.qt (qfield rfl (A.ev rfl) fp20))) ?_
  refine p_put (v := .bool (p.bt 20)) rfl (by decide) rfl (fun w0 h0 a A => yq rfl (Rn.qt (qload rfl (A.ev rfl) ((RR w0 h0).bit rfl)))) ?_
  refine p_put (v := .bool (p.bt 20)) rfl (by decide) rfl (fun w0 h0 a A => yq rfl (Rn.qt (qmove rfl (A.ev rfl)))) ?_
  refine p_put (v := gd (p.bt 20) true (.pointer (some ⟨g, q, none⟩))) rfl (by decide) rfl (fun w0 h0 a A => yq1 rfl (A.gt rfl rfl) (fun e => Rn.qt (qmove rfl (A.ev rfl)))) ?_
  refine p_put (v := gd (p.bt 20) true (.pointer (some ⟨g, q, none⟩))) rfl (by decide) rfl (fun w0 h0 a A => yq1 rfl (A.gt rfl rfl) (fun e => Rn.qt (qnil rfl (on e (A.ev rfl))))) ?_
  refine p_put (v := gd (p.bt 20) true (.pointer (some ⟨g, q + 7, none⟩))) rfl (by decide) rfl (fun w0 h0 a A => yq1 rfl (A.gt rfl rfl) (fun e => Rn.qt (qfield rfl (on e (A.ev rfl)) fp7))) ?_
  refine p_put (v := gd (p.bt 20) true (.bool (p.bt 7))) rfl (by decide) rfl (fun w0 h0 a A => yq1 rfl (A.gt rfl rfl) (fun e => Rn.qt (qload rfl (on e (A.ev rfl)) ((RR w0 h0).bit rfl)))) ?_
  refine p_put (v := .bool ((p.bt 20) && (p.bt 7))) rfl (by decide) rfl (fun w0 h0 a A => yq rfl (Rn.qt (qpick rfl (A.ev rfl) (pkA (A.ev rfl) rfl)))) ?_
  refine p_put (v := .pointer (some ⟨b, 0, none⟩)) rfl (by decide) rfl (fun w0 h0 a A => yq rfl (Rn.qt (qmove rfl (A.ev rfl)))) ?_
  refine p_put (v := .func (.func 57) #[.pointer (some ⟨b, 0, none⟩)] #[]) rfl (by decide) rfl (fun w0 h0 a A => yq rfl (Rn.qt (qfn rfl (A.ev rfl)))) ?_
  refine p_put (v := .agg #[.bool ((p.bt 20) && (p.bt 7)), .func (.func 57) #[.pointer (some ⟨b, 0, none⟩)] #[]]) rfl (by decide) rfl (fun w0 h0 a A => yq rfl (Rn.qt (qrule rfl (A.ev rfl) (A.ev rfl)))) ?_
  refine p_put (v := .bool RY) rfl (by decide) rfl (fun w0 h0 a A => yq rfl (Rn.qt (qmove rfl (A.ev rfl)))) ?_
  refine p_put (v := .bool RY) rfl (by decide) rfl (fun w0 h0 a A => yq rfl (Rn.qt (qmove rfl (A.ev rfl)))) ?_
  refine p_put (v := gd RY true (.pointer (some ⟨g, q, none⟩))) rfl (by decide) rfl (fun w0 h0 a A => yq1 rfl (A.gt rfl rfl) (fun e => Rn.qt (qmove rfl (A.ev rfl)))) ?_
  refine p_put (v := gd RY true (.pointer (some ⟨g, q, none⟩))) rfl (by decide) rfl (fun w0 h0 a A => yq1 rfl (A.gt rfl rfl) (fun e => Rn.qt (qnil rfl (on e (A.ev rfl))))) ?_
  refine p_put (v := gd RY true (.pointer (some ⟨g, q + 9, none⟩))) rfl (by decide) rfl (fun w0 h0 a A => yq1 rfl (A.gt rfl rfl) (fun e => Rn.qt (qfield rfl (on e (A.ev rfl)) fp9))) ?_
  refine p_put (v := gd RY true (.bool (p.bt 9))) rfl (by decide) rfl (fun w0 h0 a A => yq1 rfl (A.gt rfl rfl) (fun e => Rn.qt (qload rfl (on e (A.ev rfl)) ((RR w0 h0).bit rfl)))) ?_
  refine p_put (v := gd RY true (.bool (!(p.bt 9)))) rfl (by decide) rfl (fun w0 h0 a A => yq1 rfl (A.gt rfl rfl) (fun e => Rn.qt (qnot rfl (on e (A.ev rfl))))) ?_
  refine p_put (v := .bool (RY && (!(p.bt 9)))) rfl (by decide) rfl (fun w0 h0 a A => yq rfl (Rn.qt (qpick rfl (A.ev rfl) (pkA (A.ev rfl) rfl)))) ?_
  refine p_put (v := .pointer (some ⟨b, 0, none⟩)) rfl (by decide) rfl (fun w0 h0 a A => yq rfl (Rn.qt (qmove rfl (A.ev rfl)))) ?_
  refine p_put (v := .func (.func 58) #[.pointer (some ⟨b, 0, none⟩)] #[]) rfl (by decide) rfl (fun w0 h0 a A => yq rfl (Rn.qt (qfn rfl (A.ev rfl)))) ?_
  refine p_put (v := .agg #[.bool (RY && (!(p.bt 9))), .func (.func 58) #[.pointer (some ⟨b, 0, none⟩)] #[]]) rfl (by decide) rfl (fun w0 h0 a A => yq rfl (Rn.qt (qrule rfl (A.ev rfl) (A.ev rfl)))) ?_
  refine p_put (v := .bool RY) rfl (by decide) rfl (fun w0 h0 a A => yq rfl (Rn.qt (qmove rfl (A.ev rfl)))) ?_
  refine p_put (v := .bool RY) rfl (by decide) rfl (fun w0 h0 a A => yq rfl (Rn.qt (qmove rfl (A.ev rfl)))) ?_
  refine p_put (v := gd RY true (.pointer (some ⟨g, q, none⟩))) rfl (by decide) rfl (fun w0 h0 a A => yq1 rfl (A.gt rfl rfl) (fun e => Rn.qt (qmove rfl (A.ev rfl)))) ?_
  refine p_put (v := gd RY true (.pointer (some ⟨g, q, none⟩))) rfl (by decide) rfl (fun w0 h0 a A => yq1 rfl (A.gt rfl rfl) (fun e => Rn.qt (qnil rfl (on e (A.ev rfl))))) ?_
  refine p_put (v := gd RY true (.pointer (some ⟨g, q + 9, none⟩))) rfl (by decide) rfl (fun w0 h0 a A => yq1 rfl (A.gt rfl rfl) (fun e => Rn.qt (qfield rfl (on e (A.ev rfl)) fp9))) ?_
  refine p_put (v := gd RY true (.bool (p.bt 9))) rfl (by decide) rfl (fun w0 h0 a A => yq1 rfl (A.gt rfl rfl) (fun e => Rn.qt (qload rfl (on e (A.ev rfl)) ((RR w0 h0).bit rfl)))) ?_
  refine p_put (v := .bool (RY && (p.bt 9))) rfl (by decide) rfl (fun w0 h0 a A => yq rfl (Rn.qt (qpick rfl (A.ev rfl) (pkA (A.ev rfl) rfl)))) ?_
  refine p_put (v := .bool (RY && (p.bt 9))) rfl (by decide) rfl (fun w0 h0 a A => yq rfl (Rn.qt (qmove rfl (A.ev rfl)))) ?_
  refine p_put (v := gd (RY && (p.bt 9)) true (.pointer (some ⟨g, q, none⟩))) rfl (by decide) rfl (fun w0 h0 a A => yq1 rfl (A.gt rfl rfl) (fun e => Rn.qt (qmove rfl (A.ev rfl)))) ?_
  refine p_put (v := gd (RY && (p.bt 9)) true (.pointer (some ⟨g, q, none⟩))) rfl (by decide) rfl (fun w0 h0 a A => yq1 rfl (A.gt rfl rfl) (fun e => Rn.qt (qnil rfl (on e (A.ev rfl))))) ?_
  refine p_put (v := gd (RY && (p.bt 9)) true (.pointer (some ⟨g, q + 7, none⟩))) rfl (by decide) rfl (fun w0 h0 a A => yq1 rfl (A.gt rfl rfl) (fun e => Rn.qt (qfield rfl (on e (A.ev rfl)) fp7))) ?_
  refine p_put (v := gd (RY && (p.bt 9)) true (.bool (p.bt 7))) rfl (by decide) rfl (fun w0 h0 a A => yq1 rfl (A.gt rfl rfl) (fun e => Rn.qt (qload rfl (on e (A.ev rfl)) ((RR w0 h0).bit rfl)))) ?_
  refine p_put (v := gd (RY && (p.bt 9)) true (.bool (!(p.bt 7)))) rfl (by decide) rfl (fun w0 h0 a A => yq1 rfl (A.gt rfl rfl) (fun e => Rn.qt (qnot rfl (on e (A.ev rfl))))) ?_
  refine p_put (v := .bool ((RY && (p.bt 9)) && (!(p.bt 7)))) rfl (by decide) rfl (fun w0 h0 a A => yq rfl (Rn.qt (qpick rfl (A.ev rfl) (pkA (A.ev rfl) rfl)))) ?_
  refine p_put (v := .pointer (some ⟨b, 0, none⟩)) rfl (by decide) rfl (fun w0 h0 a A => yq rfl (Rn.qt (qmove rfl (A.ev rfl)))) ?_
  refine p_put (v := .func (.func 59) #[.pointer (some ⟨b, 0, none⟩)] #[]) rfl (by decide) rfl (fun w0 h0 a A => yq rfl (Rn.qt (qfn rfl (A.ev rfl)))) ?_
  refine p_put (v := .agg #[.bool ((RY && (p.bt 9)) && (!(p.bt 7))), .func (.func 59) #[.pointer (some ⟨b, 0, none⟩)] #[]]) rfl (by decide) rfl (fun w0 h0 a A => yq rfl (Rn.qt (qrule rfl (A.ev rfl) (A.ev rfl)))) ?_
  refine p_put (v := .pointer (some ⟨g, q, none⟩)) rfl (by decide) rfl (fun w0 h0 a A => yq rfl (Rn.qt (qmove rfl (A.ev rfl)))) ?_
  refine p_put (v := .pointer (some ⟨g, q, none⟩)) rfl (by decide) rfl (fun w0 h0 a A => yq rfl (Rn.qt (qnil rfl (A.ev rfl)))) ?_
  refine p_put (v := .pointer (some ⟨g, q + 70, none⟩)) rfl (by decide) rfl (fun w0 h0 a A => yq rfl (Rn.qt (qfield rfl (A.ev rfl) fp43))) ?_
  refine p_put (v := .int .u8 (p.nm 70)) rfl (by decide) rfl (fun w0 h0 a A => yq rfl (Rn.qt (qload rfl (A.ev rfl) ((RR w0 h0).u8 rfl)))) ?_
  refine p_put (v := .pointer (some ⟨g, q, none⟩)) rfl (by decide) rfl (fun w0 h0 a A => yq rfl (Rn.qt (qmove rfl (A.ev rfl)))) ?_
  refine p_put (v := .pointer (some ⟨g, q, none⟩)) rfl (by decide) rfl (fun w0 h0 a A => yq rfl (Rn.qt (qnil rfl (A.ev rfl)))) ?_
  refine p_put (v := .pointer (some ⟨g, q + 40, none⟩)) rfl (by decide) rfl (fun w0 h0 a A => yq rfl (Rn.qt (qfield rfl (A.ev rfl) fp34))) ?_
  refine p_put (v := .pointer (some ⟨g, q + 40 + 3, none⟩)) rfl (by decide) rfl (fun w0 h0 a A => yq rfl (Rn.qt (qfield rfl (A.ev rfl) ft3))) ?_
  refine p_put (v := .int .u8 (p.nm 43)) rfl (by decide) rfl (fun w0 h0 a A => yq rfl (Rn.qt (qload rfl (A.ev rfl) ((RR w0 h0).dt rfl rfl)))) ?_
  refine p_put (v := .bool ((p.nm 70) != (p.nm 43))) rfl (by decide) rfl (fun w0 h0 a A => yq rfl (Rn.qt (qbin rfl (A.ev rfl) (A.ev rfl) (eg_u8 _ _ _ _ _) (ne_u8 _ _)))) ?_
  refine p_put (v := .pointer (some ⟨b, 0, none⟩)) rfl (by decide) rfl (fun w0 h0 a A => yq rfl (Rn.qt (qmove rfl (A.ev rfl)))) ?_
  refine p_put (v := .func (.func 60) #[.pointer (some ⟨b, 0, none⟩)] #[]) rfl (by decide) rfl (fun w0 h0 a A => yq rfl (Rn.qt (qfn rfl (A.ev rfl)))) ?_
  refine p_put (v := .agg #[.bool ((p.nm 70) != (p.nm 43)), .func (.func 60) #[.pointer (some ⟨b, 0, none⟩)] #[]]) rfl (by decide) rfl (fun w0 h0 a A => yq rfl (Rn.qt (qrule rfl (A.ev rfl) (A.ev rfl)))) ?_
  refine p_nil ?_
  intro a z A bz HH
  obtain ⟨va, ha, oa⟩ := HH (by decide)
  have oa : OwnR z W.heap.size va b [(prpB p, 71), (ansB l k, 55)] := oa
  have bW := below_over B2.out bz
  have A := Has.cons ha A
  have sb := bsR5 b (!p.bt 7 && !p.bt 20) (p.bt 20 && p.bt 7) (RY && !p.bt 9) ((RY && p.bt 9) && !p.bt 7) (p.nm 70 != p.nm 43) 56 57 58 59 60 z
  obtain ⟨Y, hY⟩ : ∃ Y, z.alloc (.cells (rcs b [((!p.bt 7 && !p.bt 20), 56), ((p.bt 20 && p.bt 7), 57), ((RY && !p.bt 9), 58), (((RY && p.bt 9) && !p.bt 7), 59), ((p.nm 70 != p.nm 43), 60)]).toArray 54) = Y := ⟨_, rfl⟩
  rw [hY] at sb
  have bY : Below z.heap.size z Y := by rw [← hY]; exact (Below.refl _ _).alloc (Nat.le_refl _) _
  have oY : OwnR Y z.heap.size (.slice (some ⟨z.heap.size, 0, none⟩) 5 5) b [((!p.bt 7 && !p.bt 20), 56), ((p.bt 20 && p.bt 7), 57), ((RY && !p.bt 9), 58), (((RY && p.bt 9) && !p.bt 7), 59), ((p.nm 70 != p.nm 43), 60)] := by rw [← hY]; exact OwnR.new z b [((!p.bt 7 && !p.bt 20), 56), ((p.bt 20 && p.bt 7), 57), ((RY && !p.bt 9), 58), (((RY && p.bt 9) && !p.bt 7), 59), ((p.nm 70 != p.nm 43), 60)] (by simp)
  obtain ⟨a2, c2, e2, r2, _⟩ := oY.form
  simp only [List.length_cons, List.length_nil, Value.slice.injEq] at e2
  obtain ⟨rfl, _, rfl⟩ := e2
  obtain ⟨v', Z, ap, oZ, gZ⟩ := (oa.below bY).app r2 (by simp) (Nat.le_trans bW.size bY.size) 51
  have F : Hid (OwnR Z W.heap.size v' b ([(prpB p, 71), (ansB l k, 55)] ++ [((!p.bt 7 && !p.bt 20), 56), ((p.bt 20 && p.bt 7), 57), ((RY && !p.bt 9), 58), (((RY && p.bt 9) && !p.bt 7), 59), ((p.nm 70 != p.nm 43), 60)]) ∧ Below W.heap.size W Z) := by
    refine ⟨oZ, (below_over bW bY).trans (below_of_grown gZ (Nat.le_trans bW.size bY.size) (fun j e => ?_))⟩
    obtain ⟨a9, c9, rfl, _, h9⟩ := oa.form
    cases a9 with
    | none => cases e
    | some x9 => cases e; exact (h9 x9 rfl).1
  clear hY oa ha bW bY oY r2 oZ gZ HH
  refine wl_put (v := .slice (some ⟨z.heap.size, 0, none⟩) 5 5) (w' := Y) rfl (run_bsR rfl ?_ sb) ?_
  · simp only [List.map_toArray, List.map_cons, List.map_nil, A.ev (s := 34) rfl, A.ev (s := 47) rfl, A.ev (s := 58) rfl, A.ev (s := 75) rfl, A.ev (s := 88) rfl]
  · have A2 := A.put (d := 89) (v := .slice (some ⟨z.heap.size, 0, none⟩) 5 5) (by decide)
    refine wl_put (v := v') (w' := Z) rfl (run_apR rfl rfl (A2.ev rfl) (A2.ev rfl) ap) ?_
    have A3 := A2.put (d := 90) (v := v') (by decide)
    refine wl_put (v := v') (w' := Z) rfl (qassign (C := fun _ => True) rfl (A3.ev rfl) Z trivial) ?_
    · have A4 := A3.put (d := 2) (v := v') (by decide)
      obtain ⟨a4, h4⟩ : ∃ a4, (((a.put (some 89) (.slice (some ⟨z.heap.size, 0, none⟩) 5 5)).put (some 90) v').put (some 2) v') = a4 := ⟨_, rfl⟩
      rw [h4] at A4
      show wpList _ _ _ [] (((a.put (some 89) _).put (some 90) _).put (some 2) _) _
      rw [h4]
      clear h4 A3 A2 A
      rw [← ERY.out] at F
      go_wp2
      exact ret_slot Try.results45 A4 rfl ⟨_, rfl, F.out.1, F.out.2⟩
end Go.Proofs.Ytdlleecfmebenaa
