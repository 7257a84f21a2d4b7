/-
  The functions that change a port, each for every port: their walks.
-/
import Derived.Test.YtlneoegmlcbidaaChs
namespace Go.Proofs.Ytlneoegmlcbidaa
set_option linter.unusedVariables false
set_option maxRecDepth 4000
set_option linter.unusedSimpArgs false
open Go.RowKit

attribute [local go_sem ↓] ldP stP ldM stM ldTm stTm ldV stV stB stU
attribute [local go_sem ↓] alP alM
attribute [local go_sem] alP_run alM_run
set_option maxHeartbeats 2000000 in
theorem changed_take (p : Pt) (m : Mg) (d : Nat) (w : World) (hm : RvAt w d 35 m.cs) :
    Calls Try.prog 37 #[.agg p.cs, .func (.func 38) #[] #[.pointer (some ⟨d, 0, none⟩)]] w fun r w' => r = .returned (.agg (takeP p m).cs) ∧ Below w.heap.size w w' := by
  obtain ⟨W, hW, r0, r1, bW, zW⟩ := two_p w p
  have H : Hid (RvAt W w.heap.size 47 p.cs ∧ RvAt W (w.heap.size + 1) 47 zeroP.cs ∧ Below w.heap.size w W ∧ W.heap.size = w.heap.size + 2 ∧ RvAt W d 35 m.cs) := ⟨r0, r1, bW, zW, hm.below bW⟩
  clear r0 r1 bW zW hm
  go_enter Try.func37, Try.ntmps37
  go_wp2_with fail
  refine (chg_take W w.heap.size d p m H.out.1 H.out.2.2.2.2).mono ?_
  rintro _ V ⟨rfl, hV, gV⟩
  have lV := hV.pld
  obtain ⟨U, sU, hU, gU⟩ := (H.out.2.1.keptBut gV (by simp)).pst (q := takeP p m)
  have G : Hid (RvAt U (w.heap.size + 1) 47 (takeP p m).cs ∧ Below w.heap.size w U) := ⟨hU, gro (gro H.out.2.2.1 gV (Nat.le_refl _) (by have := H.out.2.2.2.1; omega)) gU (by omega) (by have := H.out.2.2.2.1; have := gV.size; omega)⟩
  clear hV gV hU gU hW
  go_wp2_with (with_reducible exact ret_port Try.results37 (by with_unfolding_all rfl) (by with_unfolding_all rfl) G.out.1 ⟨rfl, G.out.2⟩)
set_option maxHeartbeats 2000000 in
theorem take_any (p : Pt) (m : Mg) (w : World) :
    Calls Try.prog 22 #[.agg p.cs, .agg m.cs] w fun r w' => r = .returned (.agg (takeP p m).cs) ∧ Below w.heap.size w w' := by
  obtain ⟨W, hW, r0, rm, r1, bW, zW⟩ := three_p w p m
  have H : Hid (RvAt W (w.heap.size + 1) 35 m.cs ∧ RvAt W (w.heap.size + 1 + 1) 47 zeroP.cs ∧ Below w.heap.size w W ∧ W.heap.size = w.heap.size + 3) := ⟨rm, r1, bW, zW⟩
  have l0 := r0.pld
  clear r0 rm r1 bW zW
  go_enter Try.func22, Try.ntmps22
  go_wp2_with fail
  refine (changed_take p m (w.heap.size + 1) W H.out.1).mono ?_
  rintro _ V ⟨rfl, bV⟩
  obtain ⟨U, sU, hU, gU⟩ := (H.out.2.1.below bV).pst (q := takeP p m)
  have G : Hid (RvAt U (w.heap.size + 1 + 1) 47 (takeP p m).cs ∧ Below w.heap.size w U) := ⟨hU, gro (below_over H.out.2.2.1 bV) gU (by omega) (by have := H.out.2.2.2; have := bV.size; omega)⟩
  clear bV hU gU hW l0
  go_wp2_with (with_reducible exact ret_port Try.results22 (by with_unfolding_all rfl) (by with_unfolding_all rfl) G.out.1 ⟨rfl, G.out.2⟩)
theorem ent_prop (x : Value) (V : World) : (callFunc 82 #[x]).run Try.prog V = .ok (.enter 82 #[x]) V := by go_simp
set_option maxHeartbeats 2000000 in
theorem prop_any (p : Pt) (w : World) :
    Calls Try.prog 66 #[.agg p.cs] w fun r w' => r = .returned (.agg (propP p).cs) ∧ Below w.heap.size w w' := by
  obtain ⟨W, hW, r0, r1, bW, zW⟩ := two_p w p
  have H : Hid (RvAt W (w.heap.size + 1) 47 zeroP.cs ∧ Below w.heap.size w W ∧ W.heap.size = w.heap.size + 2) := ⟨r1, bW, zW⟩
  have l0 := r0.pld
  clear r0 r1 bW zW
  go_enter Try.func66, Try.ntmps66
  go_wp2_with fail
  refine (changed_any _ _ chg_prop ent_prop p W).mono ?_
  rintro _ V ⟨rfl, bV⟩
  obtain ⟨U, sU, hU, gU⟩ := (H.out.1.below bV).pst (q := propP p)
  have G : Hid (RvAt U (w.heap.size + 1) 47 (propP p).cs ∧ Below w.heap.size w U) := ⟨hU, gro (below_over H.out.2.1 bV) gU (by omega) (by have := H.out.2.2; have := bV.size; omega)⟩
  clear bV hU gU hW l0
  go_wp2_with (with_reducible exact ret_port Try.results66 (by with_unfolding_all rfl) (by with_unfolding_all rfl) G.out.1 ⟨rfl, G.out.2⟩)
theorem ent_agr (x : Value) (V : World) : (callFunc 84 #[x]).run Try.prog V = .ok (.enter 84 #[x]) V := by go_simp
set_option maxHeartbeats 2000000 in
theorem agr_any (p : Pt) (w : World) :
    Calls Try.prog 68 #[.agg p.cs] w fun r w' => r = .returned (.agg (agrP p).cs) ∧ Below w.heap.size w w' := by
  obtain ⟨W, hW, r0, r1, bW, zW⟩ := two_p w p
  have H : Hid (RvAt W (w.heap.size + 1) 47 zeroP.cs ∧ Below w.heap.size w W ∧ W.heap.size = w.heap.size + 2) := ⟨r1, bW, zW⟩
  have l0 := r0.pld
  clear r0 r1 bW zW
  go_enter Try.func68, Try.ntmps68
  go_wp2_with fail
  refine (changed_any _ _ chg_agr ent_agr p W).mono ?_
  rintro _ V ⟨rfl, bV⟩
  obtain ⟨U, sU, hU, gU⟩ := (H.out.1.below bV).pst (q := agrP p)
  have G : Hid (RvAt U (w.heap.size + 1) 47 (agrP p).cs ∧ Below w.heap.size w U) := ⟨hU, gro (below_over H.out.2.1 bV) gU (by omega) (by have := H.out.2.2; have := bV.size; omega)⟩
  clear bV hU gU hW l0
  go_wp2_with (with_reducible exact ret_port Try.results68 (by with_unfolding_all rfl) (by with_unfolding_all rfl) G.out.1 ⟨rfl, G.out.2⟩)
theorem ent_disp (x : Value) (V : World) : (callFunc 86 #[x]).run Try.prog V = .ok (.enter 86 #[x]) V := by go_simp
set_option maxHeartbeats 2000000 in
theorem disp_any (p : Pt) (w : World) :
    Calls Try.prog 70 #[.agg p.cs] w fun r w' => r = .returned (.agg (dispP p).cs) ∧ Below w.heap.size w w' := by
  obtain ⟨W, hW, r0, r1, bW, zW⟩ := two_p w p
  have H : Hid (RvAt W (w.heap.size + 1) 47 zeroP.cs ∧ Below w.heap.size w W ∧ W.heap.size = w.heap.size + 2) := ⟨r1, bW, zW⟩
  have l0 := r0.pld
  clear r0 r1 bW zW
  go_enter Try.func70, Try.ntmps70
  go_wp2_with fail
  refine (changed_any _ _ chg_disp ent_disp p W).mono ?_
  rintro _ V ⟨rfl, bV⟩
  obtain ⟨U, sU, hU, gU⟩ := (H.out.1.below bV).pst (q := dispP p)
  have G : Hid (RvAt U (w.heap.size + 1) 47 (dispP p).cs ∧ Below w.heap.size w U) := ⟨hU, gro (below_over H.out.2.1 bV) gU (by omega) (by have := H.out.2.2; have := bV.size; omega)⟩
  clear bV hU gU hW l0
  go_wp2_with (with_reducible exact ret_port Try.results70 (by with_unfolding_all rfl) (by with_unfolding_all rfl) G.out.1 ⟨rfl, G.out.2⟩)
theorem ent_flag (x : Value) (V : World) : (callFunc 83 #[x]).run Try.prog V = .ok (.enter 83 #[x]) V := by go_simp
set_option maxHeartbeats 2000000 in
theorem flag_any (p : Pt) (w : World) :
    Calls Try.prog 67 #[.agg p.cs] w fun r w' => r = .returned (.agg (flagP p).cs) ∧ Below w.heap.size w w' := by
  obtain ⟨W, hW, r0, r1, bW, zW⟩ := two_p w p
  have H : Hid (RvAt W (w.heap.size + 1) 47 zeroP.cs ∧ Below w.heap.size w W ∧ W.heap.size = w.heap.size + 2) := ⟨r1, bW, zW⟩
  have l0 := r0.pld
  clear r0 r1 bW zW
  go_enter Try.func67, Try.ntmps67
  go_wp2_with fail
  refine (changed_any _ _ chg_flag ent_flag p W).mono ?_
  rintro _ V ⟨rfl, bV⟩
  obtain ⟨U, sU, hU, gU⟩ := (H.out.1.below bV).pst (q := flagP p)
  have G : Hid (RvAt U (w.heap.size + 1) 47 (flagP p).cs ∧ Below w.heap.size w U) := ⟨hU, gro (below_over H.out.2.1 bV) gU (by omega) (by have := H.out.2.2; have := bV.size; omega)⟩
  clear bV hU gU hW l0
  go_wp2_with (with_reducible exact ret_port Try.results67 (by with_unfolding_all rfl) (by with_unfolding_all rfl) G.out.1 ⟨rfl, G.out.2⟩)
theorem ent_prio (x : Value) (V : World) : (callFunc 90 #[x]).run Try.prog V = .ok (.enter 90 #[x]) V := by go_simp
set_option maxHeartbeats 2000000 in
theorem prio_any (p : Pt) (w : World) :
    Calls Try.prog 79 #[.agg p.cs] w fun r w' => r = .returned (.agg (prioP p).cs) ∧ Below w.heap.size w w' := by
  obtain ⟨W, hW, r0, r1, bW, zW⟩ := two_p w p
  have H : Hid (RvAt W (w.heap.size + 1) 47 zeroP.cs ∧ Below w.heap.size w W ∧ W.heap.size = w.heap.size + 2) := ⟨r1, bW, zW⟩
  have l0 := r0.pld
  clear r0 r1 bW zW
  go_enter Try.func79, Try.ntmps79
  go_wp2_with fail
  refine (changed_any _ _ chg_prio ent_prio p W).mono ?_
  rintro _ V ⟨rfl, bV⟩
  obtain ⟨U, sU, hU, gU⟩ := (H.out.1.below bV).pst (q := prioP p)
  have G : Hid (RvAt U (w.heap.size + 1) 47 (prioP p).cs ∧ Below w.heap.size w U) := ⟨hU, gro (below_over H.out.2.1 bV) gU (by omega) (by have := H.out.2.2; have := bV.size; omega)⟩
  clear bV hU gU hW l0
  go_wp2_with (with_reducible exact ret_port Try.results79 (by with_unfolding_all rfl) (by with_unfolding_all rfl) G.out.1 ⟨rfl, G.out.2⟩)
theorem ent_tim (x : Value) (V : World) : (callFunc 91 #[x]).run Try.prog V = .ok (.enter 91 #[x]) V := by go_simp
set_option maxHeartbeats 2000000 in
theorem tim_any (p : Pt) (w : World) :
    Calls Try.prog 80 #[.agg p.cs] w fun r w' => r = .returned (.agg (timP p).cs) ∧ Below w.heap.size w w' := by
  obtain ⟨W, hW, r0, r1, bW, zW⟩ := two_p w p
  have H : Hid (RvAt W (w.heap.size + 1) 47 zeroP.cs ∧ Below w.heap.size w W ∧ W.heap.size = w.heap.size + 2) := ⟨r1, bW, zW⟩
  have l0 := r0.pld
  clear r0 r1 bW zW
  go_enter Try.func80, Try.ntmps80
  go_wp2_with fail
  refine (changed_any _ _ chg_tim ent_tim p W).mono ?_
  rintro _ V ⟨rfl, bV⟩
  obtain ⟨U, sU, hU, gU⟩ := (H.out.1.below bV).pst (q := timP p)
  have G : Hid (RvAt U (w.heap.size + 1) 47 (timP p).cs ∧ Below w.heap.size w U) := ⟨hU, gro (below_over H.out.2.1 bV) gU (by omega) (by have := H.out.2.2; have := bV.size; omega)⟩
  clear bV hU gU hW l0
  go_wp2_with (with_reducible exact ret_port Try.results80 (by with_unfolding_all rfl) (by with_unfolding_all rfl) G.out.1 ⟨rfl, G.out.2⟩)
theorem ent_whi (x : Value) (V : World) : (callFunc 85 #[x]).run Try.prog V = .ok (.enter 85 #[x]) V := by go_simp
set_option maxHeartbeats 2000000 in
theorem whi_any (p : Pt) (w : World) :
    Calls Try.prog 69 #[.agg p.cs] w fun r w' => r = .returned (.agg (whiP p).cs) ∧ Below w.heap.size w w' := by
  obtain ⟨W, hW, r0, r1, bW, zW⟩ := two_p w p
  have H : Hid (RvAt W (w.heap.size + 1) 47 zeroP.cs ∧ Below w.heap.size w W ∧ W.heap.size = w.heap.size + 2) := ⟨r1, bW, zW⟩
  have l0 := r0.pld
  clear r0 r1 bW zW
  go_enter Try.func69, Try.ntmps69
  go_wp2_with fail
  refine (changed_any _ _ chg_whi ent_whi p W).mono ?_
  rintro _ V ⟨rfl, bV⟩
  obtain ⟨U, sU, hU, gU⟩ := (H.out.1.below bV).pst (q := whiP p)
  have G : Hid (RvAt U (w.heap.size + 1) 47 (whiP p).cs ∧ Below w.heap.size w U) := ⟨hU, gro (below_over H.out.2.1 bV) gU (by omega) (by have := H.out.2.2; have := bV.size; omega)⟩
  clear bV hU gU hW l0
  go_wp2_with (with_reducible exact ret_port Try.results69 (by with_unfolding_all rfl) (by with_unfolding_all rfl) G.out.1 ⟨rfl, G.out.2⟩)
end Go.Proofs.Ytlneoegmlcbidaa
