/-
  The functions that change a port, each for every port: their walks.
-/
import Derived.Test.YtlnammicialacabChs
namespace Go.Proofs.Ytlnammicialacab
set_option linter.unusedVariables false
set_option maxRecDepth 4000
set_option linter.unusedSimpArgs false
open Go.RowKit

attribute [local go_sem ↓] ldP stP ldM stM ldTm stTm ldV stV stB stU
attribute [local go_sem ↓] alP alM
attribute [local go_sem] alP_run alM_run
set_option maxHeartbeats 2000000 in
theorem changed_take (p : Pt) (m : Mg) (d : Nat) (w : World) (hm : RvAt w d 33 m.cs) :
    Calls Try.prog 14 #[.agg p.cs, .func (.func 18) #[] #[.pointer (some ⟨d, 0, none⟩)]] w fun r w' => r = .returned (.agg (takeP p m).cs) ∧ Below w.heap.size w w' := by
  obtain ⟨W, hW, r0, r1, bW, zW⟩ := two_p w p
  have H : Hid (RvAt W w.heap.size 36 p.cs ∧ RvAt W (w.heap.size + 1) 36 zeroP.cs ∧ Below w.heap.size w W ∧ W.heap.size = w.heap.size + 2 ∧ RvAt W d 33 m.cs) := ⟨r0, r1, bW, zW, hm.below bW⟩
  clear r0 r1 bW zW hm
  go_enter Try.func14, Try.ntmps14
  go_wp2_with fail
  refine (chg_take W w.heap.size d p m H.out.1 H.out.2.2.2.2).mono ?_
  rintro _ V ⟨rfl, hV, gV⟩
  have lV := hV.pld
  obtain ⟨U, sU, hU, gU⟩ := (H.out.2.1.keptBut gV (by simp)).pst (q := takeP p m)
  have G : Hid (RvAt U (w.heap.size + 1) 36 (takeP p m).cs ∧ Below w.heap.size w U) := ⟨hU, gro (gro H.out.2.2.1 gV (Nat.le_refl _) (by have := H.out.2.2.2.1; omega)) gU (by omega) (by have := H.out.2.2.2.1; have := gV.size; omega)⟩
  clear hV gV hU gU hW
  go_wp2_with (with_reducible exact ret_port Try.results14 (by with_unfolding_all rfl) (by with_unfolding_all rfl) G.out.1 ⟨rfl, G.out.2⟩)
set_option maxHeartbeats 2000000 in
theorem take_any (p : Pt) (m : Mg) (w : World) :
    Calls Try.prog 8 #[.agg p.cs, .agg m.cs] w fun r w' => r = .returned (.agg (takeP p m).cs) ∧ Below w.heap.size w w' := by
  obtain ⟨W, hW, r0, rm, r1, bW, zW⟩ := three_p w p m
  have H : Hid (RvAt W (w.heap.size + 1) 33 m.cs ∧ RvAt W (w.heap.size + 1 + 1) 36 zeroP.cs ∧ Below w.heap.size w W ∧ W.heap.size = w.heap.size + 3) := ⟨rm, r1, bW, zW⟩
  have l0 := r0.pld
  clear r0 rm r1 bW zW
  go_enter Try.func8, Try.ntmps8
  go_wp2_with fail
  refine (changed_take p m (w.heap.size + 1) W H.out.1).mono ?_
  rintro _ V ⟨rfl, bV⟩
  obtain ⟨U, sU, hU, gU⟩ := (H.out.2.1.below bV).pst (q := takeP p m)
  have G : Hid (RvAt U (w.heap.size + 1 + 1) 36 (takeP p m).cs ∧ Below w.heap.size w U) := ⟨hU, gro (below_over H.out.2.2.1 bV) gU (by omega) (by have := H.out.2.2.2; have := bV.size; omega)⟩
  clear bV hU gU hW l0
  go_wp2_with (with_reducible exact ret_port Try.results8 (by with_unfolding_all rfl) (by with_unfolding_all rfl) G.out.1 ⟨rfl, G.out.2⟩)
theorem ent_prop (x : Value) (V : World) : (callFunc 22 #[x]).run Try.prog V = .ok (.enter 22 #[x]) V := by go_simp
set_option maxHeartbeats 2000000 in
theorem prop_any (p : Pt) (w : World) :
    Calls Try.prog 12 #[.agg p.cs] w fun r w' => r = .returned (.agg (propP p).cs) ∧ Below w.heap.size w w' := by
  obtain ⟨W, hW, r0, r1, bW, zW⟩ := two_p w p
  have H : Hid (RvAt W (w.heap.size + 1) 36 zeroP.cs ∧ Below w.heap.size w W ∧ W.heap.size = w.heap.size + 2) := ⟨r1, bW, zW⟩
  have l0 := r0.pld
  clear r0 r1 bW zW
  go_enter Try.func12, Try.ntmps12
  go_wp2_with fail
  refine (changed_any _ _ chg_prop ent_prop p W).mono ?_
  rintro _ V ⟨rfl, bV⟩
  obtain ⟨U, sU, hU, gU⟩ := (H.out.1.below bV).pst (q := propP p)
  have G : Hid (RvAt U (w.heap.size + 1) 36 (propP p).cs ∧ Below w.heap.size w U) := ⟨hU, gro (below_over H.out.2.1 bV) gU (by omega) (by have := H.out.2.2; have := bV.size; omega)⟩
  clear bV hU gU hW l0
  go_wp2_with (with_reducible exact ret_port Try.results12 (by with_unfolding_all rfl) (by with_unfolding_all rfl) G.out.1 ⟨rfl, G.out.2⟩)
theorem ent_agr (x : Value) (V : World) : (callFunc 21 #[x]).run Try.prog V = .ok (.enter 21 #[x]) V := by go_simp
set_option maxHeartbeats 2000000 in
theorem agr_any (p : Pt) (w : World) :
    Calls Try.prog 11 #[.agg p.cs] w fun r w' => r = .returned (.agg (agrP p).cs) ∧ Below w.heap.size w w' := by
  obtain ⟨W, hW, r0, r1, bW, zW⟩ := two_p w p
  have H : Hid (RvAt W (w.heap.size + 1) 36 zeroP.cs ∧ Below w.heap.size w W ∧ W.heap.size = w.heap.size + 2) := ⟨r1, bW, zW⟩
  have l0 := r0.pld
  clear r0 r1 bW zW
  go_enter Try.func11, Try.ntmps11
  go_wp2_with fail
  refine (changed_any _ _ chg_agr ent_agr p W).mono ?_
  rintro _ V ⟨rfl, bV⟩
  obtain ⟨U, sU, hU, gU⟩ := (H.out.1.below bV).pst (q := agrP p)
  have G : Hid (RvAt U (w.heap.size + 1) 36 (agrP p).cs ∧ Below w.heap.size w U) := ⟨hU, gro (below_over H.out.2.1 bV) gU (by omega) (by have := H.out.2.2; have := bV.size; omega)⟩
  clear bV hU gU hW l0
  go_wp2_with (with_reducible exact ret_port Try.results11 (by with_unfolding_all rfl) (by with_unfolding_all rfl) G.out.1 ⟨rfl, G.out.2⟩)
theorem ent_disp (x : Value) (V : World) : (callFunc 20 #[x]).run Try.prog V = .ok (.enter 20 #[x]) V := by go_simp
set_option maxHeartbeats 2000000 in
theorem disp_any (p : Pt) (w : World) :
    Calls Try.prog 10 #[.agg p.cs] w fun r w' => r = .returned (.agg (dispP p).cs) ∧ Below w.heap.size w w' := by
  obtain ⟨W, hW, r0, r1, bW, zW⟩ := two_p w p
  have H : Hid (RvAt W (w.heap.size + 1) 36 zeroP.cs ∧ Below w.heap.size w W ∧ W.heap.size = w.heap.size + 2) := ⟨r1, bW, zW⟩
  have l0 := r0.pld
  clear r0 r1 bW zW
  go_enter Try.func10, Try.ntmps10
  go_wp2_with fail
  refine (changed_any _ _ chg_disp ent_disp p W).mono ?_
  rintro _ V ⟨rfl, bV⟩
  obtain ⟨U, sU, hU, gU⟩ := (H.out.1.below bV).pst (q := dispP p)
  have G : Hid (RvAt U (w.heap.size + 1) 36 (dispP p).cs ∧ Below w.heap.size w U) := ⟨hU, gro (below_over H.out.2.1 bV) gU (by omega) (by have := H.out.2.2; have := bV.size; omega)⟩
  clear bV hU gU hW l0
  go_wp2_with (with_reducible exact ret_port Try.results10 (by with_unfolding_all rfl) (by with_unfolding_all rfl) G.out.1 ⟨rfl, G.out.2⟩)
theorem ent_flag (x : Value) (V : World) : (callFunc 23 #[x]).run Try.prog V = .ok (.enter 23 #[x]) V := by go_simp
set_option maxHeartbeats 2000000 in
theorem flag_any (p : Pt) (w : World) :
    Calls Try.prog 13 #[.agg p.cs] w fun r w' => r = .returned (.agg (flagP p).cs) ∧ Below w.heap.size w w' := by
  obtain ⟨W, hW, r0, r1, bW, zW⟩ := two_p w p
  have H : Hid (RvAt W (w.heap.size + 1) 36 zeroP.cs ∧ Below w.heap.size w W ∧ W.heap.size = w.heap.size + 2) := ⟨r1, bW, zW⟩
  have l0 := r0.pld
  clear r0 r1 bW zW
  go_enter Try.func13, Try.ntmps13
  go_wp2_with fail
  refine (changed_any _ _ chg_flag ent_flag p W).mono ?_
  rintro _ V ⟨rfl, bV⟩
  obtain ⟨U, sU, hU, gU⟩ := (H.out.1.below bV).pst (q := flagP p)
  have G : Hid (RvAt U (w.heap.size + 1) 36 (flagP p).cs ∧ Below w.heap.size w U) := ⟨hU, gro (below_over H.out.2.1 bV) gU (by omega) (by have := H.out.2.2; have := bV.size; omega)⟩
  clear bV hU gU hW l0
  go_wp2_with (with_reducible exact ret_port Try.results13 (by with_unfolding_all rfl) (by with_unfolding_all rfl) G.out.1 ⟨rfl, G.out.2⟩)
theorem ent_prio (x : Value) (V : World) : (callFunc 19 #[x]).run Try.prog V = .ok (.enter 19 #[x]) V := by go_simp
set_option maxHeartbeats 2000000 in
theorem prio_any (p : Pt) (w : World) :
    Calls Try.prog 9 #[.agg p.cs] w fun r w' => r = .returned (.agg (prioP p).cs) ∧ Below w.heap.size w w' := by
  obtain ⟨W, hW, r0, r1, bW, zW⟩ := two_p w p
  have H : Hid (RvAt W (w.heap.size + 1) 36 zeroP.cs ∧ Below w.heap.size w W ∧ W.heap.size = w.heap.size + 2) := ⟨r1, bW, zW⟩
  have l0 := r0.pld
  clear r0 r1 bW zW
  go_enter Try.func9, Try.ntmps9
  go_wp2_with fail
  refine (changed_any _ _ chg_prio ent_prio p W).mono ?_
  rintro _ V ⟨rfl, bV⟩
  obtain ⟨U, sU, hU, gU⟩ := (H.out.1.below bV).pst (q := prioP p)
  have G : Hid (RvAt U (w.heap.size + 1) 36 (prioP p).cs ∧ Below w.heap.size w U) := ⟨hU, gro (below_over H.out.2.1 bV) gU (by omega) (by have := H.out.2.2; have := bV.size; omega)⟩
  clear bV hU gU hW l0
  go_wp2_with (with_reducible exact ret_port Try.results9 (by with_unfolding_all rfl) (by with_unfolding_all rfl) G.out.1 ⟨rfl, G.out.2⟩)
theorem ent_tim (x : Value) (V : World) : (callFunc 16 #[x]).run Try.prog V = .ok (.enter 16 #[x]) V := by go_simp
set_option maxHeartbeats 2000000 in
theorem tim_any (p : Pt) (w : World) :
    Calls Try.prog 6 #[.agg p.cs] w fun r w' => r = .returned (.agg (timP p).cs) ∧ Below w.heap.size w w' := by
  obtain ⟨W, hW, r0, r1, bW, zW⟩ := two_p w p
  have H : Hid (RvAt W (w.heap.size + 1) 36 zeroP.cs ∧ Below w.heap.size w W ∧ W.heap.size = w.heap.size + 2) := ⟨r1, bW, zW⟩
  have l0 := r0.pld
  clear r0 r1 bW zW
  go_enter Try.func6, Try.ntmps6
  go_wp2_with fail
  refine (changed_any _ _ chg_tim ent_tim p W).mono ?_
  rintro _ V ⟨rfl, bV⟩
  obtain ⟨U, sU, hU, gU⟩ := (H.out.1.below bV).pst (q := timP p)
  have G : Hid (RvAt U (w.heap.size + 1) 36 (timP p).cs ∧ Below w.heap.size w U) := ⟨hU, gro (below_over H.out.2.1 bV) gU (by omega) (by have := H.out.2.2; have := bV.size; omega)⟩
  clear bV hU gU hW l0
  go_wp2_with (with_reducible exact ret_port Try.results6 (by with_unfolding_all rfl) (by with_unfolding_all rfl) G.out.1 ⟨rfl, G.out.2⟩)
theorem ent_whi (x : Value) (V : World) : (callFunc 15 #[x]).run Try.prog V = .ok (.enter 15 #[x]) V := by go_simp
set_option maxHeartbeats 2000000 in
theorem whi_any (p : Pt) (w : World) :
    Calls Try.prog 5 #[.agg p.cs] w fun r w' => r = .returned (.agg (whiP p).cs) ∧ Below w.heap.size w w' := by
  obtain ⟨W, hW, r0, r1, bW, zW⟩ := two_p w p
  have H : Hid (RvAt W (w.heap.size + 1) 36 zeroP.cs ∧ Below w.heap.size w W ∧ W.heap.size = w.heap.size + 2) := ⟨r1, bW, zW⟩
  have l0 := r0.pld
  clear r0 r1 bW zW
  go_enter Try.func5, Try.ntmps5
  go_wp2_with fail
  refine (changed_any _ _ chg_whi ent_whi p W).mono ?_
  rintro _ V ⟨rfl, bV⟩
  obtain ⟨U, sU, hU, gU⟩ := (H.out.1.below bV).pst (q := whiP p)
  have G : Hid (RvAt U (w.heap.size + 1) 36 (whiP p).cs ∧ Below w.heap.size w U) := ⟨hU, gro (below_over H.out.2.1 bV) gU (by omega) (by have := H.out.2.2; have := bV.size; omega)⟩
  clear bV hU gU hW l0
  go_wp2_with (with_reducible exact ret_port Try.results5 (by with_unfolding_all rfl) (by with_unfolding_all rfl) G.out.1 ⟨rfl, G.out.2⟩)
end Go.Proofs.Ytlnammicialacab
