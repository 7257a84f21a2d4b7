/-
  The rules of a port that stands by: the walk of whileAlternate.
-/
import Derived.Test.YtdlleecfmebenaaRulA
import Derived.Test.YtdlleecfmebenaaVals
namespace Go.Proofs.Ytdlleecfmebenaa
set_option linter.unusedVariables false
set_option maxRecDepth 4000
set_option linter.unusedSimpArgs false
open Go.RowKit

def bckB (p : Pt) : Bool := (p.nm 30 == 2) && (p.nm 68 != twN (p.nm 42))
/-- What is so of a port that stands by, and what it then does. -/
def altR (l : List Pt) (k : Nat) : List (Bool × Nat) := [(prpB (gtP l k), 71), (ansB l k, 66)] ++ [(looB (gtP l k) 43, 47), (bckB (gtP l k), 68)]
attribute [local go_sem ↓] ldT bsRE
set_option maxHeartbeats 16000000 in
theorem whAlt_any {W : World} {b g o n c k : Nat} {h : Hd} {l : List Pt} (s : CS W b h g o n c k l) :
    Calls Try.prog 48 #[.pointer (some ⟨b, 0, none⟩)] W fun r W' => ∃ v, r = .returned v ∧ OwnR W' W.heap.size v b (altR l k) ∧ Below W.heap.size W W' := by
  unfold altR looB bckB
  have H : Hid (CS W b h g o n c k l) := s
  obtain ⟨p, hp⟩ : ∃ p, gtP l k = p := ⟨_, rfl⟩
  rw [hp]
  have R0 : ∀ V, Below W.heap.size W V → Prd (fun w' => ∃ x : Later V, w' = x.val) g (o + k * 77) p := fun V hV => by rw [← hp]; exact (H.out.below hV).rd
  obtain ⟨q, hq⟩ : ∃ q, o + k * 77 = q := ⟨_, rfl⟩
  rw [hq] at R0
  have HP : Hid (gtP l k = p) := hp
  clear s hp
  go_enter Try.func48, Try.ntmps48
  go_wp2_with fail
  refine (port_any H.out).mono ?_
  rintro _ V ⟨rfl, b1⟩
  rw [hq]
  have B : Hid (Below W.heap.size W V) := b1
  clear b1 hq
  have N42 : 0 ≤ p.nm 42 ∧ p.nm 42 ≤ 255 := p.u8 rfl
  have RR : ∀ w0, Below V.heap.size V w0 → Prd (LC w0) g q p := fun w0 h0 => R0 w0 (below_over B.out h0)
  have AK : ∀ w0, Below V.heap.size V w0 → ∀ x : Later w0, Calls Try.prog 52 #[.pointer (some ⟨b, 0, none⟩)] x.val fun r W' => r = .returned (.bool (askP p)) ∧ ∃ y : Later w0, W' = y.val := fun w0 h0 => ask_later (H.out.below (below_over B.out h0)) HP.out
  clear R0
  go_upto_region 2 with fail
  refine wp_vals 42 6 50 3 9 (fun v w' => OwnR w' W.heap.size v b [(prpB p, 71), (ansB l k, 66)]) (by kernel_rfl) (by kernel_rfl) (E0 := [(0, .pointer (some ⟨b, 0, none⟩)), (3, .pointer (some ⟨g, q, none⟩))]) (by kernel_rfl) (fun _ => rfl) (fun v w1 w2 h1 h2 => OwnR.below h1 h2) (Has.cons rfl (Has.cons rfl (Has.nil rfl rfl))) ?_
  simp only [List.append_eq, List.cons_append, List.nil_append, List.take_succ_cons, List.take_zero, List.drop_succ_cons, List.drop_zero]
  refine p_put (v := .pointer (some ⟨b, 0, none⟩)) rfl (by decide) rfl (fun w0 h0 a A => yq rfl (Rn.qt (qmove rfl (A.ev rfl)))) ?_
  refine p_put (v := .pointer (some ⟨b, 0, none⟩)) rfl (by decide) rfl (fun w0 h0 a A => yq rfl (Rn.qt (qmove rfl (A.ev rfl)))) ?_
  refine p_put (v := .func (.func 66) #[.pointer (some ⟨b, 0, none⟩)] #[]) rfl (by decide) rfl (fun w0 h0 a A => yq rfl (Rn.qt (qfn rfl (A.ev rfl)))) ?_
  refine p_heavy rfl (by decide) rfl ⟨rfl, fun w0 h0 a A => ⟨54, #[.pointer (some ⟨b, 0, none⟩), .func (.func 66) #[.pointer (some ⟨b, 0, none⟩)] #[]], run_enter2 rfl (A.ev rfl) (A.ev rfl) (fun V => by go_simp), ?_⟩⟩ ?_
  · have q := ans_any (H.out.below (below_over B.out h0)) 66
    rw [HP.out] at q
    refine q.mono ?_
    rintro _ w' ⟨v, rfl, o1, b1⟩
    exact ⟨v, rfl, o1.base (below_over B.out h0).size, b1⟩
  refine p_put (v := .pointer (some ⟨g, q, none⟩)) rfl (by decide) rfl (fun w0 h0 a A => yq rfl (Rn.qt (qmove rfl (A.ev rfl)))) ?_
  refine p_put (v := .pointer (some ⟨g, q, none⟩)) rfl (by decide) rfl (fun w0 h0 a A => yq rfl (Rn.qt (qnil rfl (A.ev rfl)))) ?_
  refine p_put (v := .pointer (some ⟨g, q + 65, none⟩)) rfl (by decide) rfl (fun w0 h0 a A => yq rfl (Rn.qt (qfield rfl (A.ev rfl) fp38))) ?_
  refine p_put (v := .int .u8 (p.nm 65)) rfl (by decide) rfl (fun w0 h0 a A => yq rfl (Rn.qt (qload rfl (A.ev rfl) ((RR w0 h0).u8 rfl)))) ?_
  refine p_put (v := .pointer (some ⟨g, q, none⟩)) rfl (by decide) rfl (fun w0 h0 a A => yq rfl (Rn.qt (qmove rfl (A.ev rfl)))) ?_
  refine p_put (v := .pointer (some ⟨g, q, none⟩)) rfl (by decide) rfl (fun w0 h0 a A => yq rfl (Rn.qt (qnil rfl (A.ev rfl)))) ?_
  refine p_put (v := .pointer (some ⟨g, q + 40, none⟩)) rfl (by decide) rfl (fun w0 h0 a A => yq rfl (Rn.qt (qfield rfl (A.ev rfl) fp34))) ?_
  refine p_put (v := .pointer (some ⟨g, q + 40 + 3, none⟩)) rfl (by decide) rfl (fun w0 h0 a A => yq rfl (Rn.qt (qfield rfl (A.ev rfl) ft3))) ?_
  refine p_put (v := .int .u8 (p.nm 43)) rfl (by decide) rfl (fun w0 h0 a A => yq rfl (Rn.qt (qload rfl (A.ev rfl) ((RR w0 h0).dt rfl rfl)))) ?_
  refine p_put (v := .bool ((p.nm 65) != (p.nm 43))) rfl (by decide) rfl (fun w0 h0 a A => yq rfl (Rn.qt (qbin rfl (A.ev rfl) (A.ev rfl) (eg_u8 _ _ _ _ _) (ne_u8 _ _)))) ?_
  refine p_put (v := .bool ((p.nm 65) != (p.nm 43))) rfl (by decide) rfl (fun w0 h0 a A => yq rfl (Rn.qt (qmove rfl (A.ev rfl)))) ?_
  refine p_put (v := gd ((p.nm 65) != (p.nm 43)) false (.pointer (some ⟨b, 0, none⟩))) rfl (by decide) rfl (fun w0 h0 a A => yq1 rfl (A.gt rfl rfl) (fun e => Rn.qt (qmove rfl (A.ev rfl)))) ?_
  refine p_put (v := gd ((p.nm 65) != (p.nm 43)) false (.bool (askP p))) rfl (by decide) rfl (fun w0 h0 a A => yq1 rfl (A.gt rfl rfl) (fun e => qcall1 rfl (on e (A.ev rfl)) (fun V => by go_simp) (fun w hw => by obtain ⟨x, rfl⟩ := hw; exact AK w0 h0 x))) ?_
  refine p_put (v := .bool (((p.nm 65) != (p.nm 43)) || (askP p))) rfl (by decide) rfl (fun w0 h0 a A => yq rfl (Rn.qt (qpick rfl (A.ev rfl) (pkO rfl (A.ev rfl))))) ?_
  refine p_put (v := .pointer (some ⟨b, 0, none⟩)) rfl (by decide) rfl (fun w0 h0 a A => yq rfl (Rn.qt (qmove rfl (A.ev rfl)))) ?_
  refine p_put (v := .func (.func 47) #[.pointer (some ⟨b, 0, none⟩)] #[]) rfl (by decide) rfl (fun w0 h0 a A => yq rfl (Rn.qt (qfn rfl (A.ev rfl)))) ?_
  refine p_put (v := .agg #[.bool (((p.nm 65) != (p.nm 43)) || (askP p)), .func (.func 47) #[.pointer (some ⟨b, 0, none⟩)] #[]]) rfl (by decide) rfl (fun w0 h0 a A => yq rfl (Rn.qt (qrule rfl (A.ev rfl) (A.ev rfl)))) ?_
  refine p_put (v := .pointer (some ⟨g, q, none⟩)) rfl (by decide) rfl (fun w0 h0 a A => yq rfl (Rn.qt (qmove rfl (A.ev rfl)))) ?_
  refine p_put (v := .pointer (some ⟨g, q, none⟩)) rfl (by decide) rfl (fun w0 h0 a A => yq rfl (Rn.qt (qnil rfl (A.ev rfl)))) ?_
  refine p_put (v := .pointer (some ⟨g, q + 30, none⟩)) rfl (by decide) rfl (fun w0 h0 a A => yq rfl (Rn.qt (qfield rfl (A.ev rfl) fp30))) ?_
  refine p_put (v := .int .i64 (p.nm 30)) rfl (by decide) rfl (fun w0 h0 a A => yq rfl (Rn.qt (qload rfl (A.ev rfl) ((RR w0 h0).role rfl)))) ?_
  refine p_put (v := .bool ((p.nm 30) == 2)) rfl (by decide) rfl (fun w0 h0 a A => yq rfl (Rn.qt (qbin rfl (A.ev rfl) rfl (eg_role _ _ _ _ _) (eq_role _ _)))) ?_
  refine p_put (v := .bool ((p.nm 30) == 2)) rfl (by decide) rfl (fun w0 h0 a A => yq rfl (Rn.qt (qmove rfl (A.ev rfl)))) ?_
  refine p_put (v := gd ((p.nm 30) == 2) true (.pointer (some ⟨g, q, none⟩))) rfl (by decide) rfl (fun w0 h0 a A => yq1 rfl (A.gt rfl rfl) (fun e => Rn.qt (qmove rfl (A.ev rfl)))) ?_
  refine p_put (v := gd ((p.nm 30) == 2) true (.pointer (some ⟨g, q, none⟩))) rfl (by decide) rfl (fun w0 h0 a A => yq1 rfl (A.gt rfl rfl) (fun e => Rn.qt (qnil rfl (on e (A.ev rfl))))) ?_
  refine p_put (v := gd ((p.nm 30) == 2) true (.pointer (some ⟨g, q + 68, none⟩))) rfl (by decide) rfl (fun w0 h0 a A => yq1 rfl (A.gt rfl rfl) (fun e => Rn.qt (qfield rfl (on e (A.ev rfl)) fp41))) ?_
  refine p_put (v := gd ((p.nm 30) == 2) true (.int .u8 (p.nm 68))) rfl (by decide) rfl (fun w0 h0 a A => yq1 rfl (A.gt rfl rfl) (fun e => Rn.qt (qload rfl (on e (A.ev rfl)) ((RR w0 h0).u8 rfl)))) ?_
  refine p_put (v := gd ((p.nm 30) == 2) true (.pointer (some ⟨g, q, none⟩))) rfl (by decide) rfl (fun w0 h0 a A => yq1 rfl (A.gt rfl rfl) (fun e => Rn.qt (qmove rfl (A.ev rfl)))) ?_
  refine p_put (v := gd ((p.nm 30) == 2) true (.pointer (some ⟨g, q, none⟩))) rfl (by decide) rfl (fun w0 h0 a A => yq1 rfl (A.gt rfl rfl) (fun e => Rn.qt (qnil rfl (on e (A.ev rfl))))) ?_
  refine p_put (v := gd ((p.nm 30) == 2) true (.pointer (some ⟨g, q + 40, none⟩))) rfl (by decide) rfl (fun w0 h0 a A => yq1 rfl (A.gt rfl rfl) (fun e => Rn.qt (qfield rfl (on e (A.ev rfl)) fp34))) ?_
  refine p_put (v := gd ((p.nm 30) == 2) true (.pointer (some ⟨g, q + 40 + 2, none⟩))) rfl (by decide) rfl (fun w0 h0 a A => yq1 rfl (A.gt rfl rfl) (fun e => Rn.qt (qfield rfl (on e (A.ev rfl)) ft2))) ?_
  refine p_put (v := gd ((p.nm 30) == 2) true (.int .u8 (p.nm 42))) rfl (by decide) rfl (fun w0 h0 a A => yq1 rfl (A.gt rfl rfl) (fun e => Rn.qt (qload rfl (on e (A.ev rfl)) ((RR w0 h0).dt rfl rfl)))) ?_
  refine p_put (v := gd ((p.nm 30) == 2) true (.int .u8 (twN (p.nm 42)))) rfl (by decide) rfl (fun w0 h0 a A => yq1 rfl (A.gt rfl rfl) (fun e => qcall1 rfl (on e (A.ev rfl)) (fun V => by go_simp) (fun w hw => by obtain ⟨x, rfl⟩ := hw; exact Calls.later_of (tw_any (p.nm 42) x.val N42)))) ?_
  refine p_put (v := gd ((p.nm 30) == 2) true (.bool ((p.nm 68) != (twN (p.nm 42))))) rfl (by decide) rfl (fun w0 h0 a A => yq1 rfl (A.gt rfl rfl) (fun e => Rn.qt (qbin rfl (on e (A.ev rfl)) (on e (A.ev rfl)) (eg_u8 _ _ _ _ _) (ne_u8 _ _)))) ?_
  refine p_put (v := .bool (((p.nm 30) == 2) && ((p.nm 68) != (twN (p.nm 42))))) rfl (by decide) rfl (fun w0 h0 a A => yq rfl (Rn.qt (qpick rfl (A.ev rfl) (pkA (A.ev rfl) rfl)))) ?_
  refine p_put (v := .pointer (some ⟨b, 0, none⟩)) rfl (by decide) rfl (fun w0 h0 a A => yq rfl (Rn.qt (qmove rfl (A.ev rfl)))) ?_
  refine p_put (v := .func (.func 68) #[.pointer (some ⟨b, 0, none⟩)] #[]) rfl (by decide) rfl (fun w0 h0 a A => yq rfl (Rn.qt (qfn rfl (A.ev rfl)))) ?_
  refine p_put (v := .agg #[.bool (((p.nm 30) == 2) && ((p.nm 68) != (twN (p.nm 42)))), .func (.func 68) #[.pointer (some ⟨b, 0, none⟩)] #[]]) rfl (by decide) rfl (fun w0 h0 a A => yq rfl (Rn.qt (qrule rfl (A.ev rfl) (A.ev rfl)))) ?_
  refine p_nil ?_
  intro a z A bz HH
  obtain ⟨va, ha, oa⟩ := HH (by decide)
  have oa : OwnR z W.heap.size va b [(prpB p, 71), (ansB l k, 66)] := oa
  have bW := below_over B.out bz
  have A := Has.cons ha A
  have sb := bsR2 b ((p.nm 65 != p.nm 43) || askP p) ((p.nm 30 == 2) && (p.nm 68 != twN (p.nm 42))) 47 68 z
  obtain ⟨Y, hY⟩ : ∃ Y, z.alloc (.cells (rcs b [(((p.nm 65 != p.nm 43) || askP p), 47), (((p.nm 30 == 2) && (p.nm 68 != twN (p.nm 42))), 68)]).toArray 54) = Y := ⟨_, rfl⟩
  rw [hY] at sb
  have bY : Below z.heap.size z Y := by rw [← hY]; exact (Below.refl _ _).alloc (Nat.le_refl _) _
  have oY : OwnR Y z.heap.size (.slice (some ⟨z.heap.size, 0, none⟩) 2 2) b [(((p.nm 65 != p.nm 43) || askP p), 47), (((p.nm 30 == 2) && (p.nm 68 != twN (p.nm 42))), 68)] := by rw [← hY]; exact OwnR.new z b [(((p.nm 65 != p.nm 43) || askP p), 47), (((p.nm 30 == 2) && (p.nm 68 != twN (p.nm 42))), 68)] (by simp)
  obtain ⟨a2, c2, e2, r2, _⟩ := oY.form
  simp only [List.length_cons, List.length_nil, Value.slice.injEq] at e2
  obtain ⟨rfl, _, rfl⟩ := e2
  obtain ⟨v', Z, ap, oZ, gZ⟩ := (oa.below bY).app r2 (by simp) (Nat.le_trans bW.size bY.size) 51
  have F : Hid (OwnR Z W.heap.size v' b ([(prpB p, 71), (ansB l k, 66)] ++ [(((p.nm 65 != p.nm 43) || askP p), 47), (((p.nm 30 == 2) && (p.nm 68 != twN (p.nm 42))), 68)]) ∧ Below W.heap.size W Z) := by
    refine ⟨oZ, (below_over bW bY).trans (below_of_grown gZ (Nat.le_trans bW.size bY.size) (fun j e => ?_))⟩
    obtain ⟨a9, c9, rfl, _, h9⟩ := oa.form
    cases a9 with
    | none => cases e
    | some x9 => cases e; exact (h9 x9 rfl).1
  clear hY oa ha bW bY oY r2 oZ gZ HH
  refine wl_put (v := .slice (some ⟨z.heap.size, 0, none⟩) 2 2) (w' := Y) rfl (run_bsR rfl ?_ sb) ?_
  · simp only [List.map_toArray, List.map_cons, List.map_nil, A.ev (s := 26) rfl, A.ev (s := 47) rfl]
  · have A2 := A.put (d := 48) (v := .slice (some ⟨z.heap.size, 0, none⟩) 2 2) (by decide)
    refine wl_put (v := v') (w' := Z) rfl (run_apR rfl rfl (A2.ev rfl) (A2.ev rfl) ap) ?_
    have A3 := A2.put (d := 49) (v := v') (by decide)
    refine wl_put (v := v') (w' := Z) rfl (qassign (C := fun _ => True) rfl (A3.ev rfl) Z trivial) ?_
    · have A4 := A3.put (d := 2) (v := v') (by decide)
      obtain ⟨a4, h4⟩ : ∃ a4, (((a.put (some 48) (.slice (some ⟨z.heap.size, 0, none⟩) 2 2)).put (some 49) v').put (some 2) v') = a4 := ⟨_, rfl⟩
      rw [h4] at A4
      show wpList _ _ _ [] (((a.put (some 48) _).put (some 49) _).put (some 2) _) _
      rw [h4]
      clear h4 A3 A2 A
      go_wp2
      exact ret_slot Try.results48 A4 rfl ⟨_, rfl, F.out.1, F.out.2⟩
end Go.Proofs.Ytdlleecfmebenaa
