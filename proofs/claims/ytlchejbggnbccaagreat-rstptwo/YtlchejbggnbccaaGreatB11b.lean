/-
  The machine's changes of a port: the walks of reselect, disabled, aged, updated and of the closures, each for every port. And what follows from it here.
-/
import Derived.Test.YtlchejbggnbccaaGreatBbb
import Derived.Test.YtlchejbggnbccaaGreatB11a
import Derived.Test.YtlchejbggnbccaaGreatBba
namespace Go.Proofs.YtlchejbggnbccaaGreat
set_option linter.unusedVariables false
set_option linter.unusedSimpArgs false
set_option maxRecDepth 4000
section
namespace S11
open Go.RowKit

attribute [local go_sem ↓] ldP stP ldM stM ldTm stTm ldV stV stB stU stI stW
attribute [local go_sem ↓] alP alM
attribute [local go_sem] alP_run alM_run
set_option maxHeartbeats 2000000 in
theorem rsl_any (p : Pt) (w : World) :
    Calls Tryz.prog 232 #[.agg p.cs] w fun r w' => r = .returned (.agg (rslP p).cs) ∧ Below w.heap.size w w' := by
  obtain ⟨W0, hW, S0⟩ := PS.start w p
  obtain ⟨W1, s1, S1⟩ := S0.setB kb21 true
  obtain ⟨W2, s2, S2⟩ := S1.setB kb22 false
  have lX := S2.ld
  obtain ⟨U, sU, G0⟩ := S2.tell (rslP p)
  have G : Hid (RvAt U (w.heap.size + 1) 74 (rslP p).cs ∧ Below w.heap.size w U) := G0
  clear G0 S0 S1 S2
  change (ldS 74 (.pointer (some ⟨w.heap.size, 0, none⟩))).run Tryz.prog W2 = .ok (.agg (rslP p).cs) W2 at lX
  go_enter Tryz.func232, Tryz.ntmps232
  go_wp2_with (with_reducible exact ret_port Tryz.results232 (by with_unfolding_all rfl) (by with_unfolding_all rfl) G.out.1 ⟨rfl, G.out.2⟩)
set_option maxHeartbeats 2000000 in
theorem dis_any (p : Pt) (w : World) :
    Calls Tryz.prog 200 #[.agg p.cs] w fun r w' => r = .returned (.agg (disP p).cs) ∧ Below w.heap.size w w' := by
  obtain ⟨W0, hW, S0⟩ := PS.start w p
  obtain ⟨W1, s1, S1⟩ := S0.setB kb14 false
  obtain ⟨W2, s2, S2⟩ := S1.setB kb13 false
  obtain ⟨W3, s3, S3⟩ := S2.setB kb12 false
  obtain ⟨W4, s4, S4⟩ := S3.setB kb3 false
  obtain ⟨W5, s5, S5⟩ := S4.setB kb4 false
  obtain ⟨W6, s6, S6⟩ := S5.setU ku69 (n := 0) (by omega)
  obtain ⟨W7, s7, S7⟩ := S6.setN infoI kn29 wi0
  obtain ⟨W8, s8, S8⟩ := S7.setN infoS kn72 wi1
  have lX := S8.ld
  have S : Hid (PS w W8 w.heap.size (w.heap.size + 1) (disQ p)) := S8
  change (ldS 74 (.pointer (some ⟨w.heap.size, 0, none⟩))).run Tryz.prog W8 = .ok (.agg (disQ p).cs) W8 at lX
  clear S0 S1 S2 S3 S4 S5 S6 S7 S8
  go_enter Tryz.func200, Tryz.ntmps200
  go_wp2_with fail
  refine (rsl_any (disQ p) W8).mono ?_
  rintro _ V ⟨rfl, bV⟩
  obtain ⟨U, sU, G0⟩ := (S.out.below bV).tell (disP p)
  have G : Hid (RvAt U (w.heap.size + 1) 74 (disP p).cs ∧ Below w.heap.size w U) := G0
  change (stS 74 (.pointer (some ⟨w.heap.size + 1, 0, none⟩)) (.agg (rslP (disQ p)).cs)).run Tryz.prog V = .ok () U at sU
  clear G0 bV S lX s1 s2 s3 s4 s5 s6 s7 s8
  go_wp2_with (with_reducible exact ret_port Tryz.results200 (by with_unfolding_all rfl) (by with_unfolding_all rfl) G.out.1 ⟨rfl, G.out.2⟩)
set_option maxHeartbeats 2000000 in
theorem agd_any (p : Pt) (w : World) :
    Calls Tryz.prog 233 #[.agg p.cs] w fun r w' => r = .returned (.agg (agdP p).cs) ∧ Below w.heap.size w w' := by
  obtain ⟨W0, hW, S0⟩ := PS.start w p
  obtain ⟨W1, s1, S1⟩ := S0.setN infoI kn29 wi1
  obtain ⟨W2, s2, S2⟩ := S1.setN infoS kn72 wi2
  have lX := S2.ld
  have S : Hid (PS w W2 w.heap.size (w.heap.size + 1) (agdQ p)) := S2
  change (ldS 74 (.pointer (some ⟨w.heap.size, 0, none⟩))).run Tryz.prog W2 = .ok (.agg (agdQ p).cs) W2 at lX
  clear S0 S1 S2
  go_enter Tryz.func233, Tryz.ntmps233
  go_wp2_with fail
  refine (rsl_any (agdQ p) W2).mono ?_
  rintro _ V ⟨rfl, bV⟩
  obtain ⟨U, sU, G0⟩ := (S.out.below bV).tell (agdP p)
  have G : Hid (RvAt U (w.heap.size + 1) 74 (agdP p).cs ∧ Below w.heap.size w U) := G0
  change (stS 74 (.pointer (some ⟨w.heap.size + 1, 0, none⟩)) (.agg (rslP (agdQ p)).cs)).run Tryz.prog V = .ok () U at sU
  clear G0 bV S lX s1 s2
  go_wp2_with (with_reducible exact ret_port Tryz.results233 (by with_unfolding_all rfl) (by with_unfolding_all rfl) G.out.1 ⟨rfl, G.out.2⟩)
set_option maxHeartbeats 2000000 in
theorem d1_any (p : Pt) (w : World) :
    Calls Tryz.prog 297 #[.agg p.cs] w fun r w' => r = .returned (.agg (d1P p).cs) ∧ Below w.heap.size w w' := by
  obtain ⟨W0, hW, S0⟩ := PS.start w p
  obtain ⟨W1, s1, S1⟩ := S0.setB kb4 false
  obtain ⟨W2, s2, S2⟩ := S1.setB kb13 false
  have lX := S2.ld
  obtain ⟨U, sU, G0⟩ := S2.tell (d1P p)
  have G : Hid (RvAt U (w.heap.size + 1) 74 (d1P p).cs ∧ Below w.heap.size w U) := G0
  clear G0 S0 S1 S2
  change (ldS 74 (.pointer (some ⟨w.heap.size, 0, none⟩))).run Tryz.prog W2 = .ok (.agg (d1P p).cs) W2 at lX
  go_enter Tryz.func297, Tryz.ntmps297
  go_wp2_with (with_reducible exact ret_port Tryz.results297 (by with_unfolding_all rfl) (by with_unfolding_all rfl) G.out.1 ⟨rfl, G.out.2⟩)
set_option maxHeartbeats 2000000 in
theorem d4_any (p : Pt) (w : World) :
    Calls Tryz.prog 302 #[.agg p.cs] w fun r w' => r = .returned (.agg (d4P p).cs) ∧ Below w.heap.size w w' := by
  obtain ⟨W0, hW, S0⟩ := PS.start w p
  obtain ⟨W1, s1, S1⟩ := S0.setN infoI kn29 wi3
  have lX := S1.ld
  have S : Hid (PS w W1 w.heap.size (w.heap.size + 1) (p.setN 29 kn29 3 wi3)) := S1
  change (ldS 74 (.pointer (some ⟨w.heap.size, 0, none⟩))).run Tryz.prog W1 = .ok (.agg (p.setN 29 kn29 3 wi3).cs) W1 at lX
  clear S0 S1
  go_enter Tryz.func302, Tryz.ntmps302
  go_wp2_with fail
  refine (rsl_any (p.setN 29 kn29 3 wi3) W1).mono ?_
  rintro _ V ⟨rfl, bV⟩
  obtain ⟨U, sU, G0⟩ := (S.out.below bV).tell (d4P p)
  have G : Hid (RvAt U (w.heap.size + 1) 74 (d4P p).cs ∧ Below w.heap.size w U) := G0
  change (stS 74 (.pointer (some ⟨w.heap.size + 1, 0, none⟩)) (.agg (rslP (p.setN 29 kn29 3 wi3)).cs)).run Tryz.prog V = .ok () U at sU
  clear G0 bV S lX s1
  go_wp2_with (with_reducible exact ret_port Tryz.results302 (by with_unfolding_all rfl) (by with_unfolding_all rfl) G.out.1 ⟨rfl, G.out.2⟩)
set_option maxHeartbeats 2000000 in
theorem d2_any (p : Pt) (w : World) :
    Calls Tryz.prog 298 #[.agg p.cs] w fun r w' => r = .returned (.agg (d2P p).cs) ∧ Below w.heap.size w w' := by
  obtain ⟨W0, hW, S0⟩ := PS.start w p
  have c := S0.var.bit (j := 3) rfl
  cases h : p.bt 3
  · rw [h] at c
    obtain ⟨W1, s1, S1⟩ := S0.setB kb3 false
    have lX := S1.ld
    have e : d2P p = p.setB 3 kb3 false := setB_eq p kb3 (by rw [h]; rfl)
    obtain ⟨U, sU, G0⟩ := S1.tell (p.setB 3 kb3 false)
    have G : Hid (RvAt U (w.heap.size + 1) 74 (p.setB 3 kb3 false).cs ∧ Below w.heap.size w U) := G0
    rw [e]
    clear G0 S0 S1 h e
    go_enter Tryz.func298, Tryz.ntmps298
    go_wp2_with (with_reducible exact ret_port Tryz.results298 (by with_unfolding_all rfl) (by with_unfolding_all rfl) G.out.1 ⟨rfl, G.out.2⟩)
  · rw [h] at c
    have l0 := S0.ld
    have e : d2P p = p.setB 3 kb3 (bosP p 3) := setB_eq p kb3 (by rw [h]; rfl)
    rw [e]
    have S : Hid (PS w W0 w.heap.size (w.heap.size + 1) p) := S0
    clear S0 h e
    go_enter Tryz.func298, Tryz.ntmps298
    go_wp2_with fail
    refine (bos_any p 3 W0).mono ?_
    rintro _ V ⟨rfl, bV⟩
    obtain ⟨W1, s1, S1⟩ := (S.out.below bV).setB kb3 (bosP p 3)
    have lX := S1.ld
    obtain ⟨U, sU, G0⟩ := S1.tell (p.setB 3 kb3 (bosP p 3))
    have G : Hid (RvAt U (w.heap.size + 1) 74 (p.setB 3 kb3 (bosP p 3)).cs ∧ Below w.heap.size w U) := G0
    clear G0 bV S1 S l0 c
    go_wp2_with (with_reducible exact ret_port Tryz.results298 (by with_unfolding_all rfl) (by with_unfolding_all rfl) G.out.1 ⟨rfl, G.out.2⟩)
set_option maxHeartbeats 2000000 in
theorem syn_any (p : Pt) (w : World) :
    Calls Tryz.prog 299 #[.agg p.cs] w fun r w' => r = .returned (.agg (synP p).cs) ∧ Below w.heap.size w w' := by
  obtain ⟨W0, hW, S0⟩ := PS.start w p
  have c25 := S0.var.bit (j := 25) rfl
  have c4 := S0.var.bit (j := 4) rfl
  obtain ⟨x, hx⟩ : ∃ x, (p.bt 25 && p.bt 4) = x := ⟨_, rfl⟩
  have e : synP p = p.setB 25 kb25 x := setB_eq p kb25 hx
  obtain ⟨W1, s1, S1⟩ := S0.setB kb25 x
  have lX := S1.ld
  obtain ⟨U, sU, G0⟩ := S1.tell (p.setB 25 kb25 x)
  have G : Hid (RvAt U (w.heap.size + 1) 74 (p.setB 25 kb25 x).cs ∧ Below w.heap.size w U) := G0
  rw [e]
  clear G0 S0 S1 e
  cases h : p.bt 25
  all_goals
    rw [h] at c25 hx
    simp only [Bool.false_and, Bool.true_and] at hx
    subst hx
    clear h
    go_enter Tryz.func299, Tryz.ntmps299
    go_wp2_with (with_reducible exact ret_port Tryz.results299 (by with_unfolding_all rfl) (by with_unfolding_all rfl) G.out.1 ⟨rfl, G.out.2⟩)
set_option maxHeartbeats 2000000 in
theorem oth_deed (p : Pt) (w : World) :
    Calls Tryz.prog 290 #[.agg p.cs] w fun r w' => r = .returned (.agg (othP p).cs) ∧ Below w.heap.size w w' := by
  obtain ⟨W0, hW, S0⟩ := PS.start w p
  have c48 := S0.var.num (j := 48) (k := .i64) rfl
  have l0 := S0.ld
  by_cases h : p.nm 48 = 2
  · rw [h] at c48
    have e : othP p = flagP p := if_pos h
    rw [e]
    have S : Hid (PS w W0 w.heap.size (w.heap.size + 1) p) := S0
    clear S0 h e
    go_enter Tryz.func290, Tryz.ntmps290
    go_wp2_with fail
    refine (flag_any p W0).mono ?_
    rintro _ V ⟨rfl, bV⟩
    obtain ⟨U, sU, G0⟩ := (S.out.below bV).tell (flagP p)
    have G : Hid (RvAt U (w.heap.size + 1) 74 (flagP p).cs ∧ Below w.heap.size w U) := G0
    clear G0 bV S l0 c48
    go_wp2_with (with_reducible exact ret_port Tryz.results290 (by with_unfolding_all rfl) (by with_unfolding_all rfl) G.out.1 ⟨rfl, G.out.2⟩)
  · have e : othP p = p := if_neg h
    rw [e]
    obtain ⟨U, sU, G0⟩ := S0.tell p
    have G : Hid (RvAt U (w.heap.size + 1) 74 p.cs ∧ Below w.heap.size w U) := G0
    clear G0 S0 e
    go_enter Tryz.func290, Tryz.ntmps290
    go_wp2_with (with_reducible exact ret_port Tryz.results290 (by with_unfolding_all rfl) (by with_unfolding_all rfl) G.out.1 ⟨rfl, G.out.2⟩)
set_option maxHeartbeats 2000000 in
theorem upd_any (p : Pt) (w : World) :
    Calls Tryz.prog 234 #[.agg p.cs] w fun r w' => r = .returned (.agg (updP p).cs) ∧ Below w.heap.size w w' := by
  obtain ⟨W0, hW, S0⟩ := PS.start w p
  have c4 := S0.var.bit (j := 4) rfl
  have l0 := S0.ld
  obtain ⟨A, hA⟩ : ∃ A, updA p = A := ⟨_, rfl⟩
  obtain ⟨B, hB⟩ : ∃ B, synP A = B := ⟨_, rfl⟩
  have e : updP p = curP (ownP (clrP B)) := by rw [← hB, ← hA]; rfl
  rw [e]
  have key : ∀ V, PS w V w.heap.size (w.heap.size + 1) p → ∃ V1, (stS 4 (.pointer (some ⟨w.heap.size, 4, none⟩)) (.bool (p.bt 4 && bosP p 2))).run Tryz.prog V = .ok () V1 ∧ V1.cell? ⟨w.heap.size, 25, none⟩ = some (.bool (A.bt 25)) ∧ V1.cell? ⟨w.heap.size, 4, none⟩ = some (.bool (A.bt 4)) ∧ ∃ V2, (stS 4 (.pointer (some ⟨w.heap.size, 25, none⟩)) (.bool (A.bt 25 && A.bt 4))).run Tryz.prog V1 = .ok () V2 ∧ PS w V2 w.heap.size (w.heap.size + 1) B := fun V S => by
    obtain ⟨V1, s1, S1⟩ := S.setB kb4 (p.bt 4 && bosP p 2)
    have S1' : PS w V1 w.heap.size (w.heap.size + 1) A := by rw [← hA]; exact S1
    obtain ⟨V2, s2, S2⟩ := S1'.setB kb25 (A.bt 25 && A.bt 4)
    exact ⟨V1, s1, S1'.var.bit rfl, S1'.var.bit rfl, V2, s2, by rw [← hB]; exact S2⟩
  have fin : ∀ V2, PS w V2 w.heap.size (w.heap.size + 1) B → ∃ V3 V4 V5 V6 V7 V8 V9 V10 U, (stS 4 (.pointer (some ⟨w.heap.size, 13, none⟩)) (.bool false)).run Tryz.prog V2 = .ok () V3 ∧ (stS 4 (.pointer (some ⟨w.heap.size, 12, none⟩)) (.bool false)).run Tryz.prog V3 = .ok () V4 ∧
      (ldS 36 (.pointer (some ⟨w.heap.size, 32, none⟩))).run Tryz.prog V4 = .ok (.agg (dsg (clrP B)).cs) V4 ∧ (ldS 24 (.pointer (some ⟨w.heap.size, 40, none⟩))).run Tryz.prog V4 = .ok (.agg (dsgT (clrP B)).cs) V4 ∧
      (stS 36 (.pointer (some ⟨w.heap.size, 36, none⟩)) (.agg (dsg (clrP B)).cs)).run Tryz.prog V4 = .ok () V5 ∧ (stS 24 (.pointer (some ⟨w.heap.size, 44, none⟩)) (.agg (dsgT (clrP B)).cs)).run Tryz.prog V5 = .ok () V6 ∧
      (stS 4 (.pointer (some ⟨w.heap.size, 28, none⟩)) (.bool false)).run Tryz.prog V6 = .ok () V7 ∧ (stS 4 (.pointer (some ⟨w.heap.size, 11, none⟩)) (.bool true)).run Tryz.prog V7 = .ok () V8 ∧ (stS 71 (.pointer (some ⟨w.heap.size, 29, none⟩)) (.int .i64 2)).run Tryz.prog V8 = .ok () V9 ∧ (stS 72 (.pointer (some ⟨w.heap.size, 72, none⟩)) (.int .i64 3)).run Tryz.prog V9 = .ok () V10 ∧ 
      (ldS 74 (.pointer (some ⟨w.heap.size, 0, none⟩))).run Tryz.prog V10 = .ok (.agg (curP (ownP (clrP B))).cs) V10 ∧ (stS 74 (.pointer (some ⟨w.heap.size + 1, 0, none⟩)) (.agg (curP (ownP (clrP B))).cs)).run Tryz.prog V10 = .ok () U ∧ RvAt U (w.heap.size + 1) 74 (curP (ownP (clrP B))).cs ∧ Below w.heap.size w U := fun V2 S2 => by
    obtain ⟨V3, s3, S3⟩ := S2.setB kb13 false
    obtain ⟨V4, s4, S4'⟩ := S3.setB kb12 false
    have S4 : PS w V4 w.heap.size (w.heap.size + 1) (clrP B) := S4'
    obtain ⟨V5, s5, S5⟩ := S4.putV (dsg (clrP B))
    obtain ⟨V6, s6, S6'⟩ := S5.putT (dsgT (clrP B))
    have S6 : PS w V6 w.heap.size (w.heap.size + 1) (ownP (clrP B)) := S6'
    obtain ⟨V7, s7, S7⟩ := S6.setB kb28 false
    obtain ⟨V8, s8, S8⟩ := S7.setB kb11 true
    obtain ⟨V9, s9, S9⟩ := S8.setN infoI kn29 wi2
    obtain ⟨V10, s10, S10'⟩ := S9.setN infoS kn72 wi3
    have S10 : PS w V10 w.heap.size (w.heap.size + 1) (curP (ownP (clrP B))) := S10'
    obtain ⟨U, sU, h1, h2⟩ := S10.tell (curP (ownP (clrP B)))
    exact ⟨V3, V4, V5, V6, V7, V8, V9, V10, U, s3, s4, S4.var.pdsg, S4.var.pdsT, s5, s6, s7, s8, s9, s10, S10.ld, sU, h1, h2⟩
  have K : Hid (∀ V, PS w V w.heap.size (w.heap.size + 1) p → _) := key
  have L : Hid (∀ V2, PS w V2 w.heap.size (w.heap.size + 1) B → _) := fin
  have S : Hid (PS w W0 w.heap.size (w.heap.size + 1) p) := S0
  have E : Hid (∀ b : Bool, (p.bt 4 && bosP p 2) = b → A.bt 4 = b) := fun b hb => by rw [← hA, ← hb]; exact setB_at p kb4 _
  clear key fin S0 e hA hB
  go_enter Tryz.func234, Tryz.ntmps234
  cases h : p.bt 4
  · rw [h] at c4
    obtain ⟨V1, t1, d25, d4, V2, t2, S2⟩ := K.out W0 S.out
    rw [h, Bool.false_and] at t1
    have e4 := E.out false (by rw [h]; rfl)
    rw [e4, Bool.and_false] at t2
    rw [e4] at d4
    obtain ⟨V3, V4, V5, V6, V7, V8, V9, V10, U, s3, s4, l1, l2, s5, s6, s7, s8, s9, s10, l3, sU, G0⟩ := L.out V2 S2
    have G : Hid (RvAt U (w.heap.size + 1) 74 (curP (ownP (clrP B))).cs ∧ Below w.heap.size w U) := G0
    clear G0 S2 S K L E h e4
    cases h25 : A.bt 25
    all_goals
      rw [h25] at d25
      clear h25
      go_wp2_with (with_reducible exact ret_port Tryz.results234 (by with_unfolding_all rfl) (by with_unfolding_all rfl) G.out.1 ⟨rfl, G.out.2⟩)
  · rw [h] at c4
    go_wp2_with fail
    refine (bos_any p 2 W0).mono ?_
    rintro _ V0 ⟨rfl, bV⟩
    obtain ⟨V1, t1, d25, d4, V2, t2, S2⟩ := K.out V0 (S.out.below bV)
    rw [h, Bool.true_and] at t1
    have e4 := E.out _ rfl
    rw [h, Bool.true_and] at e4
    rw [e4] at d4 t2
    obtain ⟨V3, V4, V5, V6, V7, V8, V9, V10, U, s3, s4, l1, l2, s5, s6, s7, s8, s9, s10, l3, sU, G0⟩ := L.out V2 S2
    have G : Hid (RvAt U (w.heap.size + 1) 74 (curP (ownP (clrP B))).cs ∧ Below w.heap.size w U) := G0
    obtain ⟨y, hy⟩ : ∃ y, bosP p 2 = y := ⟨_, rfl⟩
    rw [hy] at t1 t2 d4 ⊢
    clear G0 S2 S K L E h e4 bV l0 c4 hy
    cases h25 : A.bt 25
    all_goals
      rw [h25] at d25 t2
      simp only [Bool.false_and, Bool.true_and] at t2
      clear h25
      go_wp2_with (with_reducible exact ret_port Tryz.results234 (by with_unfolding_all rfl) (by with_unfolding_all rfl) G.out.1 ⟨rfl, G.out.2⟩)
end S11
end
section
namespace S11
open Go.RowKit

def fv (F : Nat) : Value := .func (.func F) #[] #[]
def dsL : Nat → List (Nat × (Pt → Pt))
  | 0 => [(297, d1P), (285, propP), (286, flagP), (298, d2P), (287, agrP), (299, synP), (300, prioP), (301, timP), (288, whiP), (302, d4P)]
  | 1 => [(285, propP), (286, flagP), (287, agrP), (288, whiP)]
  | 2 => [(289, dispP)]
  | 3 => [(287, agrP), (286, flagP)]
  | _ => [(290, othP)]
def ofK : Nat → Int
  | 0 => 1
  | 1 => 2
  | 2 => 3
  | 3 => 4
  | _ => 0
def dsC (k : Nat) : Array Value := ((dsL k).map fun d => fv d.1).toArray
def effC (s : Nat) : Array Value := #[.int .i64 1, .slice (some ⟨s, 0, none⟩) 10 10, .int .i64 2, .slice (some ⟨s + 1, 0, none⟩) 4 4, .int .i64 3, .slice (some ⟨s + 2, 0, none⟩) 1 1, .int .i64 4, .slice (some ⟨s + 3, 0, none⟩) 2 2, .int .i64 0, .slice (some ⟨s + 4, 0, none⟩) 1 1]
structure Deed (F : Nat) (f : Pt → Pt) : Prop where
  does : ∀ (p : Pt) (w : World), Calls Tryz.prog F #[.agg p.cs] w fun r w' => r = .returned (.agg (f p).cs) ∧ Below w.heap.size w w'
  enter : ∀ (x : Value) (V : World), (callFunc F #[x]).run Tryz.prog V = .ok (.enter F #[x]) V
theorem deed_d1 : Deed 297 d1P := ⟨d1_any, fun x V => by go_simp⟩
theorem deed_d2 : Deed 298 d2P := ⟨d2_any, fun x V => by go_simp⟩
theorem deed_syn : Deed 299 synP := ⟨syn_any, fun x V => by go_simp⟩
theorem deed_d4 : Deed 302 d4P := ⟨d4_any, fun x V => by go_simp⟩
theorem deed_oth : Deed 290 othP := ⟨oth_deed, fun x V => by go_simp⟩
theorem deed_prop : Deed 285 propP := ⟨prop_any, fun x V => by go_simp⟩
theorem deed_flag : Deed 286 flagP := ⟨flag_any, fun x V => by go_simp⟩
theorem deed_agr : Deed 287 agrP := ⟨agr_any, fun x V => by go_simp⟩
theorem deed_prio : Deed 300 prioP := ⟨prio_any, fun x V => by go_simp⟩
theorem deed_tim : Deed 301 timP := ⟨tim_any, fun x V => by go_simp⟩
theorem deed_whi : Deed 288 whiP := ⟨whi_any, fun x V => by go_simp⟩
theorem deed_disp : Deed 289 dispP := ⟨disp_any, fun x V => by go_simp⟩
theorem deeds (k : Nat) : ∀ d ∈ dsL k, Deed d.1 d.2 := by
  match k with
  | 0 =>
    intro d hd
    simp only [dsL, List.mem_cons, List.not_mem_nil, or_false] at hd
    rcases hd with rfl | rfl | rfl | rfl | rfl | rfl | rfl | rfl | rfl | rfl
    · exact deed_d1
    · exact deed_prop
    · exact deed_flag
    · exact deed_d2
    · exact deed_agr
    · exact deed_syn
    · exact deed_prio
    · exact deed_tim
    · exact deed_whi
    · exact deed_d4
  | 1 =>
    intro d hd
    simp only [dsL, List.mem_cons, List.not_mem_nil, or_false] at hd
    rcases hd with rfl | rfl | rfl | rfl
    · exact deed_prop
    · exact deed_flag
    · exact deed_agr
    · exact deed_whi
  | 2 =>
    intro d hd
    simp only [dsL, List.mem_cons, List.not_mem_nil, or_false] at hd
    subst hd
    exact deed_disp
  | 3 =>
    intro d hd
    simp only [dsL, List.mem_cons, List.not_mem_nil, or_false] at hd
    rcases hd with rfl | rfl
    · exact deed_agr
    · exact deed_flag
  | n + 4 =>
    intro d hd
    simp only [dsL, List.mem_cons, List.not_mem_nil, or_false] at hd
    subst hd
    exact deed_oth
def runTo (ds : List (Nat × (Pt → Pt))) (p : Pt) (i : Nat) : Pt := (ds.take i).foldl (fun q d => d.2 q) p
theorem runTo_next {ds : List (Nat × (Pt → Pt))} {p : Pt} {i : Nat} (h : i < ds.length) : runTo ds p (i + 1) = (ds[i]).2 (runTo ds p i) := by
  unfold runTo
  rw [List.take_add_one, List.getElem?_eq_getElem h, List.foldl_append]
  rfl
def doneK (k : Nat) (p : Pt) : Pt := runTo (dsL k) p (dsL k).length
def posI (n : Int) : Nat := if n = 1 then 0 else if n = 2 then 1 else if n = 3 then 2 else if n = 4 then 3 else 4
theorem posI_le (n : Int) : posI n ≤ 4 := by
  unfold posI
  (repeat' split) <;> omega
theorem posI_of {n : Int} (h : n = 0 ∨ n = 1 ∨ n = 2 ∨ n = 3 ∨ n = 4) : ofK (posI n) = n := by
  rcases h with rfl | rfl | rfl | rfl | rfl <;> rfl
theorem posI_ne {n : Int} {k : Nat} (h : n = 0 ∨ n = 1 ∨ n = 2 ∨ n = 3 ∨ n = 4) (hk : k < posI n) : ofK k ≠ n := by
  have := posI_le n
  rcases h with rfl | rfl | rfl | rfl | rfl
  · have : k < 4 := hk
    match k, this with
    | 0, _ => decide
    | 1, _ => decide
    | 2, _ => decide
    | 3, _ => decide
  · exact absurd hk (by decide +revert)
  · have : k < 1 := hk
    match k, this with
    | 0, _ => decide
  · have : k < 2 := hk
    match k, this with
    | 0, _ => decide
    | 1, _ => decide
  · have : k < 3 := hk
    match k, this with
    | 0, _ => decide
    | 1, _ => decide
    | 2, _ => decide
theorem infP_in (p : Pt) : infP p = 0 ∨ infP p = 1 ∨ infP p = 2 ∨ infP p = 3 ∨ infP p = 4 := by
  unfold infP ofDes
  (repeat' split) <;> omega
theorem done_rec (p : Pt) : doneK (posI (infP p)) p = recQ p := by
  have key : ∀ k, doneK k p = (dsL k).foldl (fun q d => d.2 q) p := fun k => by unfold doneK runTo; rw [List.take_length]
  rw [key]
  unfold recQ
  rcases infP_in p with h | h | h | h | h
  · rw [h, if_neg (by decide), if_neg (by decide), if_neg (by decide), if_neg (by decide)]
    simp only [show posI 0 = 4 from rfl, dsL, List.foldl_cons, List.foldl_nil]
  · rw [h, if_pos rfl]
    simp only [show posI 1 = 0 from rfl, dsL, List.foldl_cons, List.foldl_nil, supP]
  · rw [h, if_neg (by decide), if_pos rfl]
    simp only [show posI 2 = 1 from rfl, dsL, List.foldl_cons, List.foldl_nil]
  · rw [h, if_neg (by decide), if_neg (by decide), if_pos rfl]
    simp only [show posI 3 = 2 from rfl, dsL, List.foldl_cons, List.foldl_nil]
  · rw [h, if_neg (by decide), if_neg (by decide), if_neg (by decide), if_pos rfl]
    simp only [show posI 4 = 3 from rfl, dsL, List.foldl_cons, List.foldl_nil]
set_option maxHeartbeats 2000000 in
theorem supl_any (w : World) :
    Calls Tryz.prog 284 #[] w fun r w' => r = .returned (.slice (some ⟨w.heap.size, 0, none⟩) 10 10) ∧ w' = w.alloc (.cells (dsC 0) 158) := by
  go_enter Tryz.func284, Tryz.ntmps284
  go_wp2
  go_returns
  exact ⟨rfl, rfl⟩
structure EffAt (W : World) (e s : Nat) : Prop where
  row : RvAt W e 218 (effC s)
  ds : ∀ k, k < 5 → RvAt W (s + k) 158 (dsC k)
theorem EffAt.below {W V : World} {e s : Nat} (h : EffAt W e s) (k : Below W.heap.size W V) : EffAt V e s := ⟨h.row.below k, fun j hj => (h.ds j hj).below k⟩
theorem eff_laid (w : World) : ∃ W, ((((((w.alloc (.cells (dsC 0) 158)).alloc (.cells (dsC 1) 158)).alloc (.cells (dsC 2) 158)).alloc (.cells (dsC 3) 158)).alloc (.cells (dsC 4) 158)).alloc (.cells (effC w.heap.size) 218)) = W ∧ EffAt W (w.heap.size + 5) w.heap.size ∧ Below w.heap.size w W := by
  have new : ∀ (w : World) (cs : Array Value) (t : TypeId), ∃ W, w.alloc (.cells cs t) = W ∧ RvAt W w.heap.size t cs ∧ Below w.heap.size w W ∧ W.heap.size = w.heap.size + 1 := fun w cs t => ⟨_, rfl, RvAt.new w _ _, (Below.refl _ _).alloc (Nat.le_refl _) _, by simp⟩
  obtain ⟨A, hA, rA, bA, zA⟩ := new w (dsC 0) 158
  obtain ⟨B, hB, rB, bB, zB⟩ := new A (dsC 1) 158
  obtain ⟨C, hC, rC, bC, zC⟩ := new B (dsC 2) 158
  obtain ⟨D, hD, rD, bD, zD⟩ := new C (dsC 3) 158
  obtain ⟨E, hE, rE, bE, zE⟩ := new D (dsC 4) 158
  obtain ⟨F, hF, rF, bF, zF⟩ := new E (effC w.heap.size) 218
  rw [zA] at rB
  rw [zB, zA] at rC
  rw [zC, zB, zA] at rD
  rw [zD, zC, zB, zA] at rE
  rw [zE, zD, zC, zB, zA] at rF
  refine ⟨F, by rw [hA, hB, hC, hD, hE, hF], ⟨rF, fun k hk => ?_⟩, below_over (below_over (below_over (below_over (below_over bA bB) bC) bD) bE) bF⟩
  match k, hk with
  | 0, _ => exact ((((rA.below bB).below bC).below bD).below bE).below bF
  | 1, _ => exact (((rB.below bC).below bD).below bE).below bF
  | 2, _ => exact ((rC.below bD).below bE).below bF
  | 3, _ => exact (rD.below bE).below bF
  | 4, _ => exact rE.below bF
set_option maxHeartbeats 4000000 in
theorem eff_any (w : World) :
    Calls Tryz.prog 260 #[] w fun r w' => r = .returned (.slice (some ⟨w.heap.size + 5, 0, none⟩) 5 5) ∧ EffAt w' (w.heap.size + 5) w.heap.size ∧ Below w.heap.size w w' := by
  obtain ⟨W, hW, H0⟩ := eff_laid w
  have H : Hid (EffAt W (w.heap.size + 5) w.heap.size ∧ Below w.heap.size w W) := H0
  clear H0
  have HW : Hid (_ = W) := hW
  clear hW
  go_enter Tryz.func260, Tryz.ntmps260
  go_wp2_with fail
  refine (supl_any w).mono ?_
  rintro _ V ⟨rfl, hV⟩
  subst hV
  go_wp2
  go_returns
  refine ⟨rfl, ?_⟩
  have e := HW.out
  have h := H.out
  rw [← e] at h
  exact h
end S11
end
section
namespace S11
open Go.RowKit

theorem infoE : (Tryz.prog.info? 218).map (·.size) = some 2 := by kernel_rfl
theorem rtE : RowTy 218 2 := ⟨infoE, _, Tryz.underlying218, rfl⟩
theorem ldE (x : Value) : Instr.loadAt 218 x = ldS 218 x := rfl
theorem stE (x y : Value) : Instr.storeAt 218 x y = stS 218 x y := rfl
def eC (s k : Nat) : Array Value := #[.int .i64 (ofK k), .slice (some ⟨s + k, 0, none⟩) (dsL k).length (dsL k).length]
theorem EffAt.ld {W : World} {e s k : Nat} (h : EffAt W e s) (hk : k < 5) : (ldS 218 (.pointer (some ⟨e, k * 2, none⟩))).run Tryz.prog W = .ok (.agg (eC s k)) W := by
  refine run_loadAt_mid W e (k * 2) 218 (eC s k).toList _ (fun j v hv => h.row.cell _ _ ?_) Tryz.underlying218 rfl infoE
  match k, hk, j, hv with
  | 0, _, 0, hv => exact hv
  | 0, _, 1, hv => exact hv
  | 1, _, 0, hv => exact hv
  | 1, _, 1, hv => exact hv
  | 2, _, 0, hv => exact hv
  | 2, _, 1, hv => exact hv
  | 3, _, 0, hv => exact hv
  | 3, _, 1, hv => exact hv
  | 4, _, 0, hv => exact hv
  | 4, _, 1, hv => exact hv
  | 0, _, j + 2, hv => simp [eC] at hv
  | 1, _, j + 2, hv => simp [eC] at hv
  | 2, _, j + 2, hv => simp [eC] at hv
  | 3, _, j + 2, hv => simp [eC] at hv
  | 4, _, j + 2, hv => simp [eC] at hv
theorem eC_one (s k : Nat) : ∀ v ∈ (eC s k).toList, v.oneCell' = true := by
  intro v hv
  simp only [eC, List.mem_cons, List.not_mem_nil, or_false] at hv
  rcases hv with rfl | rfl <;> rfl
attribute [local go_sem ↓] ldP stP stB stU stI stW ldE stE
attribute [local go_sem ↓] alP alM
attribute [local go_sem] alP_run alM_run
set_option maxHeartbeats 4000000 in
theorem rec_any (p : Pt) (w : World) :
    Calls Tryz.prog 235 #[.agg p.cs] w fun r w' => r = .returned (.agg (recP p).cs) ∧ Below w.heap.size w w' := by
  obtain ⟨W0, hW, S0⟩ := PS.start w p
  have l0 := S0.ld
  have S : Hid (PS w W0 w.heap.size (w.heap.size + 1) p) := S0
  clear S0
  go_enter Tryz.func235, Tryz.ntmps235
  go_wp2_with fail
  go_step3
  go_wp2_with fail
  refine (inf_any p W0).mono ?_
  rintro _ W1 ⟨rfl, b1⟩
  have S1 : Hid (PS w W1 w.heap.size (w.heap.size + 1) p) := S.out.below b1
  clear b1 l0 S hW
  obtain ⟨N, hN⟩ : ∃ N, infP p = N := ⟨_, rfl⟩
  rw [hN]
  have IN : Hid (N = 0 ∨ N = 1 ∨ N = 2 ∨ N = 3 ∨ N = 4) := by rw [← hN]; exact infP_in p
  have DN : Hid (doneK (posI N) p = recQ p) := by rw [← hN]; exact done_rec p
  clear hN
  go_wp2_with fail
  go_step3
  go_wp2_with fail
  refine (eff_any W1).mono ?_
  rintro _ W2 ⟨rfl, E2, b2⟩
  obtain ⟨z, hz⟩ : ∃ z, W1.heap.size = z := ⟨_, rfl⟩
  rw [hz] at E2 ⊢
  have G : Hid (PS w W2 w.heap.size (w.heap.size + 1) p ∧ EffAt W2 (z + 5) z) := ⟨S1.out.below b2, E2⟩
  clear S1 E2 b2 hz
  go_wp2_with fail
  go_loopw [12] (fun v12 wr => ∃ k : Nat, k ≤ posI N ∧ v12 = .int .i64 k ∧ PS w wr w.heap.size (w.heap.size + 1) p ∧ EffAt wr (z + 5) z) (fun v12 _ => 5 - (intOf v12).toNat)
  case atStart => exact ⟨0, by omega, rfl, G.out.1, G.out.2⟩
  case round =>
    obtain ⟨k, hk, rfl, hS, hE⟩ := hrel
    have hk4 := posI_le N
    have hk5 : k < 5 := by omega
    have hin0 : (0 : Int) ≤ (k : Int) := by omega
    have hin1 : (k : Int) < 5 := by omega
    have le := hE.ld hk5
    obtain ⟨V, sV, rV, bV, zV⟩ := row_new rtE wr #[.int .i64 0, .slice none 0 0] (eC z k) rfl rfl (eC_one z k)
    have c0 := rV.cell 0 (.int .i64 (ofK k)) rfl
    have c1 := rV.cell 1 (.slice (some ⟨z + k, 0, none⟩) (dsL k).length (dsL k).length) rfl
    have J : Hid (PS w V w.heap.size (w.heap.size + 1) p ∧ EffAt V (z + 5) z ∧ RvAt V wr.heap.size 218 (eC z k)) := ⟨hS.below bV, hE.below bV, rV⟩
    clear hS hE rV bV zV
    by_cases hkp : k < posI N
    · have hne : ¬ ofK k = N := posI_ne IN.out hkp
      go_wp2
      go_roundw
      case rel => exact ⟨k + 1, by omega, by go_num, J.out.1, J.out.2.1⟩
      case measure => simp [intOf]; omega
    · have hkN : k = posI N := by omega
      have hof : ofK k = N := by rw [hkN]; exact posI_of IN.out
      have D2 : Hid (runTo (dsL k) p (dsL k).length = recQ p) := by have := DN.out; rw [← hkN] at this; exact this
      have R2 : Hid (RvAt V (z + k) 158 (dsC k)) := J.out.2.1.ds k hk5
      have Q2 : Hid (∀ d ∈ dsL k, Deed d.1 d.2) := deeds k
      rw [hof] at c0
      obtain ⟨ds, hds⟩ : ∃ ds, dsL k = ds := ⟨_, rfl⟩
      have hdsc : dsC k = (ds.map fun d => fv d.1).toArray := by rw [← hds]; rfl
      rw [hdsc] at R2
      rw [hds] at c1 D2 Q2
      obtain ⟨n, hn⟩ : ∃ n, ds.length = n := ⟨_, rfl⟩
      rw [hn] at c1 D2
      have HN : Hid (ds.length = n) := hn
      have hn10 : n ≤ 10 := by
        rw [← hn, ← hds]
        match k, hk5 with
        | 0, _ => decide
        | 1, _ => decide
        | 2, _ => decide
        | 3, _ => decide
        | 4, _ => decide
      clear hof hdsc hds hn hkN hkp
      obtain ⟨wo, rfl⟩ : ∃ wo : World, wo = wr := ⟨_, rfl⟩
      go_wp2_with fail
      go_loopw [23] (fun v23 wr => ∃ i : Nat, i ≤ n ∧ v23 = .int .i64 i ∧ PS w wr w.heap.size (w.heap.size + 1) (runTo ds p i) ∧ RvAt wr (z + k) 158 (ds.map fun d => fv d.1).toArray) (fun v23 _ => n - (intOf v23).toNat)
      case atStart => exact ⟨0, by omega, rfl, J.out.1, R2.out⟩
      case round =>
        obtain ⟨i, hi, rfl, hS, hR⟩ := hrel
        have hi0 : (0 : Int) ≤ (i : Int) := by omega
        by_cases hit : i < n
        · have hi1 : (i : Int) < (n : Int) := by omega
          have hid : i < ds.length := by rw [HN.out]; exact hit
          have cf := hR.cell i (fv (ds[i]).1) (by simp [List.getElem?_eq_getElem hid])
          have dd := Q2.out (ds[i]) (List.getElem_mem _)
          have hnx : runTo ds p (i + 1) = (ds[i]).2 (runTo ds p i) := runTo_next hid
          obtain ⟨F, hF⟩ : ∃ F, (ds[i]).1 = F := ⟨_, rfl⟩
          obtain ⟨f, hf⟩ : ∃ f, (ds[i]).2 = f := ⟨_, rfl⟩
          rw [hF] at cf dd
          rw [hf] at dd hnx
          obtain ⟨q, hq⟩ : ∃ q, runTo ds p i = q := ⟨_, rfl⟩
          rw [hq] at hS hnx
          have lq := hS.ld
          have en := dd.enter
          have DO : Hid (∀ (p : Pt) (w : World), _) := dd.does
          have M : Hid (PS w wr w.heap.size (w.heap.size + 1) q ∧ RvAt wr (z + k) 158 (ds.map fun d => fv d.1).toArray ∧ runTo ds p (i + 1) = f q) := ⟨hS, hR, hnx⟩
          unfold fv at cf
          clear hS hR hnx hq hf hF dd hid c0 c1 le sV
          go_wp2_with fail
          refine (DO.out q _).mono ?_
          rintro _ X ⟨rfl, bX⟩
          obtain ⟨Y, sY, hY, gY⟩ := (M.out.1.below bX).var.pst (q := f q)
          have SY := (M.out.1.below bX).go hY gY
          have T : Hid (PS w Y w.heap.size (w.heap.size + 1) (runTo ds p (i + 1)) ∧ RvAt Y (z + k) 158 (ds.map fun d => fv d.1).toArray) := by
            refine ⟨by rw [M.out.2.2]; exact SY, (M.out.2.1.below bX).keptBut gY ?_⟩
            have := (M.out.1.below bX).var.apart (M.out.2.1.below bX) (by decide)
            simpa using this.symm
          clear SY bX lq cf hY gY
          go_wp2
          go_roundw
          case rel => exact ⟨i + 1, by omega, by go_num, T.out.1, T.out.2⟩
          case measure => simp [intOf]; omega
        · have hin : i = n := by omega
          subst hin
          have hi1 : ¬ (i : Int) < (i : Int) := by omega
          rw [D2.out] at hS
          obtain ⟨Y, sY, SY⟩ := hS.setB kb14 false
          have lY := SY.ld
          obtain ⟨U, sU, G0⟩ := SY.tell (recP p)
          have GG : Hid (RvAt U (w.heap.size + 1) 74 (recP p).cs ∧ Below w.heap.size w U) := G0
          change (ldS 74 (.pointer (some ⟨w.heap.size, 0, none⟩))).run Tryz.prog Y = .ok (.agg (recP p).cs) Y at lY
          clear hS hR SY G0 c0 c1 le sV
          go_wp2_with (with_reducible exact ret_port Tryz.results235 (by with_unfolding_all rfl) (by with_unfolding_all rfl) GG.out.1 ⟨rfl, GG.out.2⟩)
end S11
end
section
namespace S11
open Go.RowKit

attribute [local go_sem ↓] ldP stP ldM stM ldTm stTm ldV stV stB stU stI stW
attribute [local go_sem ↓] alP alM
attribute [local go_sem] alP_run alM_run
set_option maxHeartbeats 4000000 in
theorem fds_any (p : Pt) (w : World) :
    Calls Tryz.prog 201 #[.agg p.cs] w fun r w' => r = .returned (.tuple #[.agg (tellO p (fdsO p)).cs, .bool (fdsO p).isSome]) ∧ Below w.heap.size w w' := by
  obtain ⟨W0, hW, S0⟩ := PS.start w p
  have l0 := S0.ld
  have c2 := S0.var.bit (j := 2) rfl
  have c14 := S0.var.bit (j := 14) rfl
  have H0 : Hid (PS w W0 w.heap.size (w.heap.size + 1) p) := S0
  clear S0
  cases h2 : p.bt 2
  · rw [h2] at c2
    cases h14 : p.bt 14
    · rw [h14] at c14
      have EQ : Hid (fdsO p = none) := show fdsO p = _ by simp [fdsO, h2, h14]
      have ER : Hid (Ending.returned (.tuple #[.agg (p).cs, .bool false]) = Ending.returned (.tuple #[.agg (tellO p (fdsO p)).cs, .bool (fdsO p).isSome])) := show Ending.returned _ = _ by rw [EQ.out]; rfl
      clear EQ
      clear h2 h14
      go_enter Tryz.func201, Tryz.ntmps201
      obtain ⟨U, sU, G0⟩ := H0.out.tell p
      have G : Hid (RvAt U (w.heap.size + 1) 74 p.cs ∧ Below w.heap.size w U) := G0
      clear G0 H0
      go_wp2_with (with_reducible exact ret_pb Tryz.results201 (by with_unfolding_all rfl) (by with_unfolding_all rfl) (by with_unfolding_all rfl) G.out.1 ⟨ER.out, G.out.2⟩)
    · rw [h14] at c14
      have EQ : Hid (fdsO p = some (disP p)) := show fdsO p = _ by simp [fdsO, h2, h14]
      have ER : Hid (Ending.returned (.tuple #[.agg (disP p).cs, .bool true]) = Ending.returned (.tuple #[.agg (tellO p (fdsO p)).cs, .bool (fdsO p).isSome])) := show Ending.returned _ = _ by rw [EQ.out]; rfl
      clear EQ
      clear h2 h14
      go_enter Tryz.func201, Tryz.ntmps201
      go_wp2_with fail
      refine (dis_any p W0).mono ?_
      rintro _ V ⟨rfl, bV⟩
      obtain ⟨U, sU, G0⟩ := (H0.out.below bV).tell (disP p)
      have G : Hid (RvAt U (w.heap.size + 1) 74 (disP p).cs ∧ Below w.heap.size w U) := G0
      clear G0 H0 bV hW l0 c2 c14
      go_wp2_with (with_reducible exact ret_pb Tryz.results201 (by with_unfolding_all rfl) (by with_unfolding_all rfl) (by with_unfolding_all rfl) G.out.1 ⟨ER.out, G.out.2⟩)
  · rw [h2] at c2
    have EQ : Hid (fdsO p = some (agdP p)) := show fdsO p = _ by simp [fdsO, h2]
    have ER : Hid (Ending.returned (.tuple #[.agg (agdP p).cs, .bool true]) = Ending.returned (.tuple #[.agg (tellO p (fdsO p)).cs, .bool (fdsO p).isSome])) := show Ending.returned _ = _ by rw [EQ.out]; rfl
    clear EQ
    clear h2
    go_enter Tryz.func201, Tryz.ntmps201
    go_wp2_with fail
    refine (agd_any p W0).mono ?_
    rintro _ V ⟨rfl, bV⟩
    obtain ⟨U, sU, G0⟩ := (H0.out.below bV).tell (agdP p)
    have G : Hid (RvAt U (w.heap.size + 1) 74 (agdP p).cs ∧ Below w.heap.size w U) := G0
    clear G0 H0 bV hW l0 c2 c14
    go_wp2_with (with_reducible exact ret_pb Tryz.results201 (by with_unfolding_all rfl) (by with_unfolding_all rfl) (by with_unfolding_all rfl) G.out.1 ⟨ER.out, G.out.2⟩)
set_option maxHeartbeats 4000000 in
theorem fag_any (p : Pt) (w : World) :
    Calls Tryz.prog 202 #[.agg p.cs] w fun r w' => r = .returned (.tuple #[.agg (tellO p (fagO p)).cs, .bool (fagO p).isSome]) ∧ Below w.heap.size w w' := by
  obtain ⟨W0, hW, S0⟩ := PS.start w p
  have l0 := S0.ld
  have c22 := S0.var.bit (j := 22) rfl
  have c28 := S0.var.bit (j := 28) rfl
  have H0 : Hid (PS w W0 w.heap.size (w.heap.size + 1) p) := S0
  clear S0
  cases h22 : p.bt 22
  · rw [h22] at c22
    have EQ : Hid (fagO p = none) := show fagO p = _ by simp [fagO, h22]
    have ER : Hid (Ending.returned (.tuple #[.agg (p).cs, .bool false]) = Ending.returned (.tuple #[.agg (tellO p (fagO p)).cs, .bool (fagO p).isSome])) := show Ending.returned _ = _ by rw [EQ.out]; rfl
    clear EQ
    clear h22
    go_enter Tryz.func202, Tryz.ntmps202
    obtain ⟨U, sU, G0⟩ := H0.out.tell p
    have G : Hid (RvAt U (w.heap.size + 1) 74 p.cs ∧ Below w.heap.size w U) := G0
    clear G0 H0
    go_wp2_with (with_reducible exact ret_pb Tryz.results202 (by with_unfolding_all rfl) (by with_unfolding_all rfl) (by with_unfolding_all rfl) G.out.1 ⟨ER.out, G.out.2⟩)
  · rw [h22] at c22
    cases h28 : p.bt 28
    · rw [h28] at c28
      have EQ : Hid (fagO p = none) := show fagO p = _ by simp [fagO, h22, h28]
      have ER : Hid (Ending.returned (.tuple #[.agg (p).cs, .bool false]) = Ending.returned (.tuple #[.agg (tellO p (fagO p)).cs, .bool (fagO p).isSome])) := show Ending.returned _ = _ by rw [EQ.out]; rfl
      clear EQ
      clear h22 h28
      go_enter Tryz.func202, Tryz.ntmps202
      obtain ⟨U, sU, G0⟩ := H0.out.tell p
      have G : Hid (RvAt U (w.heap.size + 1) 74 p.cs ∧ Below w.heap.size w U) := G0
      clear G0 H0
      go_wp2_with (with_reducible exact ret_pb Tryz.results202 (by with_unfolding_all rfl) (by with_unfolding_all rfl) (by with_unfolding_all rfl) G.out.1 ⟨ER.out, G.out.2⟩)
    · rw [h28] at c28
      have EQ : Hid (fagO p = some (updP p)) := show fagO p = _ by simp [fagO, h22, h28]
      have ER : Hid (Ending.returned (.tuple #[.agg (updP p).cs, .bool true]) = Ending.returned (.tuple #[.agg (tellO p (fagO p)).cs, .bool (fagO p).isSome])) := show Ending.returned _ = _ by rw [EQ.out]; rfl
      clear EQ
      clear h22 h28
      go_enter Tryz.func202, Tryz.ntmps202
      go_wp2_with fail
      refine (upd_any p W0).mono ?_
      rintro _ V ⟨rfl, bV⟩
      obtain ⟨U, sU, G0⟩ := (H0.out.below bV).tell (updP p)
      have G : Hid (RvAt U (w.heap.size + 1) 74 (updP p).cs ∧ Below w.heap.size w U) := G0
      clear G0 H0 bV hW l0 c22 c28
      go_wp2_with (with_reducible exact ret_pb Tryz.results202 (by with_unfolding_all rfl) (by with_unfolding_all rfl) (by with_unfolding_all rfl) G.out.1 ⟨ER.out, G.out.2⟩)
set_option maxHeartbeats 4000000 in
theorem fcu_any (p : Pt) (w : World) :
    Calls Tryz.prog 203 #[.agg p.cs] w fun r w' => r = .returned (.tuple #[.agg (tellO p (fcuO p)).cs, .bool (fcuO p).isSome]) ∧ Below w.heap.size w w' := by
  obtain ⟨W0, hW, S0⟩ := PS.start w p
  have l0 := S0.ld
  have c14 := S0.var.bit (j := 14) rfl
  have c22 := S0.var.bit (j := 22) rfl
  have c28 := S0.var.bit (j := 28) rfl
  have c29 := S0.var.num (j := 29) (k := .i64) rfl
  have c69 := S0.var.num (j := 69) (k := .u8) rfl
  have H0 : Hid (PS w W0 w.heap.size (w.heap.size + 1) p) := S0
  clear S0
  cases h14 : p.bt 14
  · rw [h14] at c14
    cases h22 : p.bt 22
    · rw [h22] at c22
      by_cases e29_3 : p.nm 29 = 3
      · rw [e29_3] at c29
        by_cases e69_0 : p.nm 69 = 0
        · rw [e69_0] at c69
          cases h28 : p.bt 28
          · rw [h28] at c28
            have EQ : Hid (fcuO p = some (agdP p)) := show fcuO p = _ by simp [fcuO, h14, h22, e29_3, e69_0, h28]
            have ER : Hid (Ending.returned (.tuple #[.agg (agdP p).cs, .bool true]) = Ending.returned (.tuple #[.agg (tellO p (fcuO p)).cs, .bool (fcuO p).isSome])) := show Ending.returned _ = _ by rw [EQ.out]; rfl
            clear EQ
            clear e29_3
            clear e69_0
            clear h14 h22 h28
            go_enter Tryz.func203, Tryz.ntmps203
            go_wp2_with fail
            refine (agd_any p W0).mono ?_
            rintro _ V ⟨rfl, bV⟩
            obtain ⟨U, sU, G0⟩ := (H0.out.below bV).tell (agdP p)
            have G : Hid (RvAt U (w.heap.size + 1) 74 (agdP p).cs ∧ Below w.heap.size w U) := G0
            clear G0 H0 bV hW l0 c14 c22 c28 c29 c69
            go_wp2_with (with_reducible exact ret_pb Tryz.results203 (by with_unfolding_all rfl) (by with_unfolding_all rfl) (by with_unfolding_all rfl) G.out.1 ⟨ER.out, G.out.2⟩)
          · rw [h28] at c28
            have EQ : Hid (fcuO p = none) := show fcuO p = _ by simp [fcuO, h14, h22, e29_3, e69_0, h28]
            have ER : Hid (Ending.returned (.tuple #[.agg (p).cs, .bool false]) = Ending.returned (.tuple #[.agg (tellO p (fcuO p)).cs, .bool (fcuO p).isSome])) := show Ending.returned _ = _ by rw [EQ.out]; rfl
            clear EQ
            clear e29_3
            clear e69_0
            clear h14 h22 h28
            go_enter Tryz.func203, Tryz.ntmps203
            obtain ⟨U, sU, G0⟩ := H0.out.tell p
            have G : Hid (RvAt U (w.heap.size + 1) 74 p.cs ∧ Below w.heap.size w U) := G0
            clear G0 H0
            go_wp2_with (with_reducible exact ret_pb Tryz.results203 (by with_unfolding_all rfl) (by with_unfolding_all rfl) (by with_unfolding_all rfl) G.out.1 ⟨ER.out, G.out.2⟩)
        · skip
          have EQ : Hid (fcuO p = none) := show fcuO p = _ by simp [fcuO, h14, h22, e29_3, e69_0]
          have ER : Hid (Ending.returned (.tuple #[.agg (p).cs, .bool false]) = Ending.returned (.tuple #[.agg (tellO p (fcuO p)).cs, .bool (fcuO p).isSome])) := show Ending.returned _ = _ by rw [EQ.out]; rfl
          clear EQ
          clear e29_3
          obtain ⟨K69, g69⟩ : ∃ K, p.nm 69 = K := ⟨_, rfl⟩
          rw [g69] at c69 e69_0
          have q69_0 : (K69 == 0) = false := by simp [e69_0]
          have n69_0 : (K69 != 0) = true := by simp [e69_0]
          clear g69
          clear h14 h22
          go_enter Tryz.func203, Tryz.ntmps203
          obtain ⟨U, sU, G0⟩ := H0.out.tell p
          have G : Hid (RvAt U (w.heap.size + 1) 74 p.cs ∧ Below w.heap.size w U) := G0
          clear G0 H0
          go_wp2_with (with_reducible exact ret_pb Tryz.results203 (by with_unfolding_all rfl) (by with_unfolding_all rfl) (by with_unfolding_all rfl) G.out.1 ⟨ER.out, G.out.2⟩)
      · skip
        have EQ : Hid (fcuO p = none) := show fcuO p = _ by simp [fcuO, h14, h22, e29_3]
        have ER : Hid (Ending.returned (.tuple #[.agg (p).cs, .bool false]) = Ending.returned (.tuple #[.agg (tellO p (fcuO p)).cs, .bool (fcuO p).isSome])) := show Ending.returned _ = _ by rw [EQ.out]; rfl
        clear EQ
        obtain ⟨K29, g29⟩ : ∃ K, p.nm 29 = K := ⟨_, rfl⟩
        rw [g29] at c29 e29_3
        have q29_3 : (K29 == 3) = false := by simp [e29_3]
        have n29_3 : (K29 != 3) = true := by simp [e29_3]
        clear g29
        clear h14 h22
        go_enter Tryz.func203, Tryz.ntmps203
        obtain ⟨U, sU, G0⟩ := H0.out.tell p
        have G : Hid (RvAt U (w.heap.size + 1) 74 p.cs ∧ Below w.heap.size w U) := G0
        clear G0 H0
        go_wp2_with (with_reducible exact ret_pb Tryz.results203 (by with_unfolding_all rfl) (by with_unfolding_all rfl) (by with_unfolding_all rfl) G.out.1 ⟨ER.out, G.out.2⟩)
    · rw [h22] at c22
      cases h28 : p.bt 28
      · rw [h28] at c28
        by_cases e29_3 : p.nm 29 = 3
        · rw [e29_3] at c29
          by_cases e69_0 : p.nm 69 = 0
          · rw [e69_0] at c69
            have EQ : Hid (fcuO p = some (agdP p)) := show fcuO p = _ by simp [fcuO, h14, h22, h28, e29_3, e69_0]
            have ER : Hid (Ending.returned (.tuple #[.agg (agdP p).cs, .bool true]) = Ending.returned (.tuple #[.agg (tellO p (fcuO p)).cs, .bool (fcuO p).isSome])) := show Ending.returned _ = _ by rw [EQ.out]; rfl
            clear EQ
            clear e29_3
            clear e69_0
            clear h14 h22 h28
            go_enter Tryz.func203, Tryz.ntmps203
            go_wp2_with fail
            refine (agd_any p W0).mono ?_
            rintro _ V ⟨rfl, bV⟩
            obtain ⟨U, sU, G0⟩ := (H0.out.below bV).tell (agdP p)
            have G : Hid (RvAt U (w.heap.size + 1) 74 (agdP p).cs ∧ Below w.heap.size w U) := G0
            clear G0 H0 bV hW l0 c14 c22 c28 c29 c69
            go_wp2_with (with_reducible exact ret_pb Tryz.results203 (by with_unfolding_all rfl) (by with_unfolding_all rfl) (by with_unfolding_all rfl) G.out.1 ⟨ER.out, G.out.2⟩)
          · skip
            have EQ : Hid (fcuO p = none) := show fcuO p = _ by simp [fcuO, h14, h22, h28, e29_3, e69_0]
            have ER : Hid (Ending.returned (.tuple #[.agg (p).cs, .bool false]) = Ending.returned (.tuple #[.agg (tellO p (fcuO p)).cs, .bool (fcuO p).isSome])) := show Ending.returned _ = _ by rw [EQ.out]; rfl
            clear EQ
            clear e29_3
            obtain ⟨K69, g69⟩ : ∃ K, p.nm 69 = K := ⟨_, rfl⟩
            rw [g69] at c69 e69_0
            have q69_0 : (K69 == 0) = false := by simp [e69_0]
            have n69_0 : (K69 != 0) = true := by simp [e69_0]
            clear g69
            clear h14 h22 h28
            go_enter Tryz.func203, Tryz.ntmps203
            obtain ⟨U, sU, G0⟩ := H0.out.tell p
            have G : Hid (RvAt U (w.heap.size + 1) 74 p.cs ∧ Below w.heap.size w U) := G0
            clear G0 H0
            go_wp2_with (with_reducible exact ret_pb Tryz.results203 (by with_unfolding_all rfl) (by with_unfolding_all rfl) (by with_unfolding_all rfl) G.out.1 ⟨ER.out, G.out.2⟩)
        · skip
          have EQ : Hid (fcuO p = none) := show fcuO p = _ by simp [fcuO, h14, h22, h28, e29_3]
          have ER : Hid (Ending.returned (.tuple #[.agg (p).cs, .bool false]) = Ending.returned (.tuple #[.agg (tellO p (fcuO p)).cs, .bool (fcuO p).isSome])) := show Ending.returned _ = _ by rw [EQ.out]; rfl
          clear EQ
          obtain ⟨K29, g29⟩ : ∃ K, p.nm 29 = K := ⟨_, rfl⟩
          rw [g29] at c29 e29_3
          have q29_3 : (K29 == 3) = false := by simp [e29_3]
          have n29_3 : (K29 != 3) = true := by simp [e29_3]
          clear g29
          clear h14 h22 h28
          go_enter Tryz.func203, Tryz.ntmps203
          obtain ⟨U, sU, G0⟩ := H0.out.tell p
          have G : Hid (RvAt U (w.heap.size + 1) 74 p.cs ∧ Below w.heap.size w U) := G0
          clear G0 H0
          go_wp2_with (with_reducible exact ret_pb Tryz.results203 (by with_unfolding_all rfl) (by with_unfolding_all rfl) (by with_unfolding_all rfl) G.out.1 ⟨ER.out, G.out.2⟩)
      · rw [h28] at c28
        have EQ : Hid (fcuO p = some (updP p)) := show fcuO p = _ by simp [fcuO, h14, h22, h28]
        have ER : Hid (Ending.returned (.tuple #[.agg (updP p).cs, .bool true]) = Ending.returned (.tuple #[.agg (tellO p (fcuO p)).cs, .bool (fcuO p).isSome])) := show Ending.returned _ = _ by rw [EQ.out]; rfl
        clear EQ
        clear h14 h22 h28
        go_enter Tryz.func203, Tryz.ntmps203
        go_wp2_with fail
        refine (upd_any p W0).mono ?_
        rintro _ V ⟨rfl, bV⟩
        obtain ⟨U, sU, G0⟩ := (H0.out.below bV).tell (updP p)
        have G : Hid (RvAt U (w.heap.size + 1) 74 (updP p).cs ∧ Below w.heap.size w U) := G0
        clear G0 H0 bV hW l0 c14 c22 c28 c29 c69
        go_wp2_with (with_reducible exact ret_pb Tryz.results203 (by with_unfolding_all rfl) (by with_unfolding_all rfl) (by with_unfolding_all rfl) G.out.1 ⟨ER.out, G.out.2⟩)
  · rw [h14] at c14
    cases h28 : p.bt 28
    · rw [h28] at c28
      have EQ : Hid (fcuO p = some (recP p)) := show fcuO p = _ by simp [fcuO, h14, h28]
      have ER : Hid (Ending.returned (.tuple #[.agg (recP p).cs, .bool true]) = Ending.returned (.tuple #[.agg (tellO p (fcuO p)).cs, .bool (fcuO p).isSome])) := show Ending.returned _ = _ by rw [EQ.out]; rfl
      clear EQ
      clear h14 h28
      go_enter Tryz.func203, Tryz.ntmps203
      go_wp2_with fail
      refine (rec_any p W0).mono ?_
      rintro _ V ⟨rfl, bV⟩
      obtain ⟨U, sU, G0⟩ := (H0.out.below bV).tell (recP p)
      have G : Hid (RvAt U (w.heap.size + 1) 74 (recP p).cs ∧ Below w.heap.size w U) := G0
      clear G0 H0 bV hW l0 c14 c22 c28 c29 c69
      go_wp2_with (with_reducible exact ret_pb Tryz.results203 (by with_unfolding_all rfl) (by with_unfolding_all rfl) (by with_unfolding_all rfl) G.out.1 ⟨ER.out, G.out.2⟩)
    · rw [h28] at c28
      cases h22 : p.bt 22
      · rw [h22] at c22
        by_cases e29_3 : p.nm 29 = 3
        · rw [e29_3] at c29
          by_cases e69_0 : p.nm 69 = 0
          · rw [e69_0] at c69
            have EQ : Hid (fcuO p = none) := show fcuO p = _ by simp [fcuO, h14, h28, h22, e29_3, e69_0]
            have ER : Hid (Ending.returned (.tuple #[.agg (p).cs, .bool false]) = Ending.returned (.tuple #[.agg (tellO p (fcuO p)).cs, .bool (fcuO p).isSome])) := show Ending.returned _ = _ by rw [EQ.out]; rfl
            clear EQ
            clear e29_3
            clear e69_0
            clear h14 h28 h22
            go_enter Tryz.func203, Tryz.ntmps203
            obtain ⟨U, sU, G0⟩ := H0.out.tell p
            have G : Hid (RvAt U (w.heap.size + 1) 74 p.cs ∧ Below w.heap.size w U) := G0
            clear G0 H0
            go_wp2_with (with_reducible exact ret_pb Tryz.results203 (by with_unfolding_all rfl) (by with_unfolding_all rfl) (by with_unfolding_all rfl) G.out.1 ⟨ER.out, G.out.2⟩)
          · skip
            have EQ : Hid (fcuO p = none) := show fcuO p = _ by simp [fcuO, h14, h28, h22, e29_3, e69_0]
            have ER : Hid (Ending.returned (.tuple #[.agg (p).cs, .bool false]) = Ending.returned (.tuple #[.agg (tellO p (fcuO p)).cs, .bool (fcuO p).isSome])) := show Ending.returned _ = _ by rw [EQ.out]; rfl
            clear EQ
            clear e29_3
            obtain ⟨K69, g69⟩ : ∃ K, p.nm 69 = K := ⟨_, rfl⟩
            rw [g69] at c69 e69_0
            have q69_0 : (K69 == 0) = false := by simp [e69_0]
            have n69_0 : (K69 != 0) = true := by simp [e69_0]
            clear g69
            clear h14 h28 h22
            go_enter Tryz.func203, Tryz.ntmps203
            obtain ⟨U, sU, G0⟩ := H0.out.tell p
            have G : Hid (RvAt U (w.heap.size + 1) 74 p.cs ∧ Below w.heap.size w U) := G0
            clear G0 H0
            go_wp2_with (with_reducible exact ret_pb Tryz.results203 (by with_unfolding_all rfl) (by with_unfolding_all rfl) (by with_unfolding_all rfl) G.out.1 ⟨ER.out, G.out.2⟩)
        · skip
          have EQ : Hid (fcuO p = none) := show fcuO p = _ by simp [fcuO, h14, h28, h22, e29_3]
          have ER : Hid (Ending.returned (.tuple #[.agg (p).cs, .bool false]) = Ending.returned (.tuple #[.agg (tellO p (fcuO p)).cs, .bool (fcuO p).isSome])) := show Ending.returned _ = _ by rw [EQ.out]; rfl
          clear EQ
          obtain ⟨K29, g29⟩ : ∃ K, p.nm 29 = K := ⟨_, rfl⟩
          rw [g29] at c29 e29_3
          have q29_3 : (K29 == 3) = false := by simp [e29_3]
          have n29_3 : (K29 != 3) = true := by simp [e29_3]
          clear g29
          clear h14 h28 h22
          go_enter Tryz.func203, Tryz.ntmps203
          obtain ⟨U, sU, G0⟩ := H0.out.tell p
          have G : Hid (RvAt U (w.heap.size + 1) 74 p.cs ∧ Below w.heap.size w U) := G0
          clear G0 H0
          go_wp2_with (with_reducible exact ret_pb Tryz.results203 (by with_unfolding_all rfl) (by with_unfolding_all rfl) (by with_unfolding_all rfl) G.out.1 ⟨ER.out, G.out.2⟩)
      · rw [h22] at c22
        have EQ : Hid (fcuO p = some (updP p)) := show fcuO p = _ by simp [fcuO, h14, h28, h22]
        have ER : Hid (Ending.returned (.tuple #[.agg (updP p).cs, .bool true]) = Ending.returned (.tuple #[.agg (tellO p (fcuO p)).cs, .bool (fcuO p).isSome])) := show Ending.returned _ = _ by rw [EQ.out]; rfl
        clear EQ
        clear h14 h28 h22
        go_enter Tryz.func203, Tryz.ntmps203
        go_wp2_with fail
        refine (upd_any p W0).mono ?_
        rintro _ V ⟨rfl, bV⟩
        obtain ⟨U, sU, G0⟩ := (H0.out.below bV).tell (updP p)
        have G : Hid (RvAt U (w.heap.size + 1) 74 (updP p).cs ∧ Below w.heap.size w U) := G0
        clear G0 H0 bV hW l0 c14 c22 c28 c29 c69
        go_wp2_with (with_reducible exact ret_pb Tryz.results203 (by with_unfolding_all rfl) (by with_unfolding_all rfl) (by with_unfolding_all rfl) G.out.1 ⟨ER.out, G.out.2⟩)
set_option maxHeartbeats 4000000 in
theorem step_any (p : Pt) (w : World) :
    Calls Tryz.prog 165 #[.agg p.cs] w fun r w' => r = .returned (.tuple #[.agg (tellO p (stepO p)).cs, .bool (stepO p).isSome]) ∧ Below w.heap.size w w' := by
  obtain ⟨W0, hW, S0⟩ := PS.start w p
  have l0 := S0.ld
  have c2 := S0.var.bit (j := 2) rfl
  have c29 := S0.var.num (j := 29) (k := .i64) rfl
  have c72 := S0.var.num (j := 72) (k := .i64) rfl
  have H0 : Hid (PS w W0 w.heap.size (w.heap.size + 1) p) := S0
  clear S0
  cases h2 : p.bt 2
  · rw [h2] at c2
    by_cases e29_0 : p.nm 29 = 0
    · rw [e29_0] at c29
      by_cases e72_1 : p.nm 72 = 1
      · rw [e72_1] at c72
        have EQ : Hid (stepO p = fdsO p) := show stepO p = _ by simp [stepO, h2, e29_0, e72_1]
        have ER : Hid (Ending.returned (.tuple #[.agg (tellO p (fdsO p)).cs, .bool (fdsO p).isSome]) = Ending.returned (.tuple #[.agg (tellO p (stepO p)).cs, .bool (stepO p).isSome])) := show Ending.returned _ = _ by rw [EQ.out]
        clear EQ
        clear e29_0
        clear e72_1
        clear h2
        go_enter Tryz.func165, Tryz.ntmps165
        go_wp2_with fail
        refine (fds_any p W0).mono ?_
        rintro _ V ⟨rfl, bV⟩
        obtain ⟨U, sU, G0⟩ := (H0.out.below bV).tell (tellO p (fdsO p))
        have G : Hid (RvAt U (w.heap.size + 1) 74 (tellO p (fdsO p)).cs ∧ Below w.heap.size w U) := G0
        clear G0 H0 bV hW l0 c2 c29 c72
        go_wp2_with (with_reducible exact ret_pb Tryz.results165 (by with_unfolding_all rfl) (by with_unfolding_all rfl) (by with_unfolding_all rfl) G.out.1 ⟨ER.out, G.out.2⟩)
      · skip
        by_cases e72_2 : p.nm 72 = 2
        · rw [e72_2] at c72
          have EQ : Hid (stepO p = fagO p) := show stepO p = _ by simp [stepO, h2, e29_0, e72_1, e72_2]
          have ER : Hid (Ending.returned (.tuple #[.agg (tellO p (fagO p)).cs, .bool (fagO p).isSome]) = Ending.returned (.tuple #[.agg (tellO p (stepO p)).cs, .bool (stepO p).isSome])) := show Ending.returned _ = _ by rw [EQ.out]
          clear EQ
          clear e29_0
          clear e72_1
          clear e72_2
          clear h2
          go_enter Tryz.func165, Tryz.ntmps165
          go_wp2_with fail
          refine (fag_any p W0).mono ?_
          rintro _ V ⟨rfl, bV⟩
          obtain ⟨U, sU, G0⟩ := (H0.out.below bV).tell (tellO p (fagO p))
          have G : Hid (RvAt U (w.heap.size + 1) 74 (tellO p (fagO p)).cs ∧ Below w.heap.size w U) := G0
          clear G0 H0 bV hW l0 c2 c29 c72
          go_wp2_with (with_reducible exact ret_pb Tryz.results165 (by with_unfolding_all rfl) (by with_unfolding_all rfl) (by with_unfolding_all rfl) G.out.1 ⟨ER.out, G.out.2⟩)
        · skip
          by_cases e72_3 : p.nm 72 = 3
          · rw [e72_3] at c72
            have EQ : Hid (stepO p = fcuO p) := show stepO p = _ by simp [stepO, h2, e29_0, e72_1, e72_2, e72_3]
            have ER : Hid (Ending.returned (.tuple #[.agg (tellO p (fcuO p)).cs, .bool (fcuO p).isSome]) = Ending.returned (.tuple #[.agg (tellO p (stepO p)).cs, .bool (stepO p).isSome])) := show Ending.returned _ = _ by rw [EQ.out]
            clear EQ
            clear e29_0
            clear e72_1
            clear e72_2
            clear e72_3
            clear h2
            go_enter Tryz.func165, Tryz.ntmps165
            go_wp2_with fail
            refine (fcu_any p W0).mono ?_
            rintro _ V ⟨rfl, bV⟩
            obtain ⟨U, sU, G0⟩ := (H0.out.below bV).tell (tellO p (fcuO p))
            have G : Hid (RvAt U (w.heap.size + 1) 74 (tellO p (fcuO p)).cs ∧ Below w.heap.size w U) := G0
            clear G0 H0 bV hW l0 c2 c29 c72
            go_wp2_with (with_reducible exact ret_pb Tryz.results165 (by with_unfolding_all rfl) (by with_unfolding_all rfl) (by with_unfolding_all rfl) G.out.1 ⟨ER.out, G.out.2⟩)
          · skip
            have EQ : Hid (stepO p = some (disP p)) := show stepO p = _ by simp [stepO, h2, e29_0, e72_1, e72_2, e72_3]
            have ER : Hid (Ending.returned (.tuple #[.agg (disP p).cs, .bool true]) = Ending.returned (.tuple #[.agg (tellO p (stepO p)).cs, .bool (stepO p).isSome])) := show Ending.returned _ = _ by rw [EQ.out]; rfl
            clear EQ
            clear e29_0
            obtain ⟨K72, g72⟩ : ∃ K, p.nm 72 = K := ⟨_, rfl⟩
            rw [g72] at c72 e72_1 e72_2 e72_3
            have q72_1 : (K72 == 1) = false := by simp [e72_1]
            have n72_1 : (K72 != 1) = true := by simp [e72_1]
            have q72_2 : (K72 == 2) = false := by simp [e72_2]
            have n72_2 : (K72 != 2) = true := by simp [e72_2]
            have q72_3 : (K72 == 3) = false := by simp [e72_3]
            have n72_3 : (K72 != 3) = true := by simp [e72_3]
            clear g72
            clear h2
            go_enter Tryz.func165, Tryz.ntmps165
            go_wp2_with fail
            refine (dis_any p W0).mono ?_
            rintro _ V ⟨rfl, bV⟩
            obtain ⟨U, sU, G0⟩ := (H0.out.below bV).tell (disP p)
            have G : Hid (RvAt U (w.heap.size + 1) 74 (disP p).cs ∧ Below w.heap.size w U) := G0
            clear G0 H0 bV hW l0 c2 c29 c72
            go_wp2_with (with_reducible exact ret_pb Tryz.results165 (by with_unfolding_all rfl) (by with_unfolding_all rfl) (by with_unfolding_all rfl) G.out.1 ⟨ER.out, G.out.2⟩)
    · skip
      have EQ : Hid (stepO p = some (disP p)) := show stepO p = _ by simp [stepO, h2, e29_0]
      have ER : Hid (Ending.returned (.tuple #[.agg (disP p).cs, .bool true]) = Ending.returned (.tuple #[.agg (tellO p (stepO p)).cs, .bool (stepO p).isSome])) := show Ending.returned _ = _ by rw [EQ.out]; rfl
      clear EQ
      obtain ⟨K29, g29⟩ : ∃ K, p.nm 29 = K := ⟨_, rfl⟩
      rw [g29] at c29 e29_0
      have q29_0 : (K29 == 0) = false := by simp [e29_0]
      have n29_0 : (K29 != 0) = true := by simp [e29_0]
      clear g29
      clear h2
      go_enter Tryz.func165, Tryz.ntmps165
      go_wp2_with fail
      refine (dis_any p W0).mono ?_
      rintro _ V ⟨rfl, bV⟩
      obtain ⟨U, sU, G0⟩ := (H0.out.below bV).tell (disP p)
      have G : Hid (RvAt U (w.heap.size + 1) 74 (disP p).cs ∧ Below w.heap.size w U) := G0
      clear G0 H0 bV hW l0 c2 c29 c72
      go_wp2_with (with_reducible exact ret_pb Tryz.results165 (by with_unfolding_all rfl) (by with_unfolding_all rfl) (by with_unfolding_all rfl) G.out.1 ⟨ER.out, G.out.2⟩)
  · rw [h2] at c2
    by_cases e72_1 : p.nm 72 = 1
    · rw [e72_1] at c72
      have EQ : Hid (stepO p = fdsO p) := show stepO p = _ by simp [stepO, h2, e72_1]
      have ER : Hid (Ending.returned (.tuple #[.agg (tellO p (fdsO p)).cs, .bool (fdsO p).isSome]) = Ending.returned (.tuple #[.agg (tellO p (stepO p)).cs, .bool (stepO p).isSome])) := show Ending.returned _ = _ by rw [EQ.out]
      clear EQ
      clear e72_1
      clear h2
      go_enter Tryz.func165, Tryz.ntmps165
      go_wp2_with fail
      refine (fds_any p W0).mono ?_
      rintro _ V ⟨rfl, bV⟩
      obtain ⟨U, sU, G0⟩ := (H0.out.below bV).tell (tellO p (fdsO p))
      have G : Hid (RvAt U (w.heap.size + 1) 74 (tellO p (fdsO p)).cs ∧ Below w.heap.size w U) := G0
      clear G0 H0 bV hW l0 c2 c29 c72
      go_wp2_with (with_reducible exact ret_pb Tryz.results165 (by with_unfolding_all rfl) (by with_unfolding_all rfl) (by with_unfolding_all rfl) G.out.1 ⟨ER.out, G.out.2⟩)
    · skip
      by_cases e72_2 : p.nm 72 = 2
      · rw [e72_2] at c72
        have EQ : Hid (stepO p = fagO p) := show stepO p = _ by simp [stepO, h2, e72_1, e72_2]
        have ER : Hid (Ending.returned (.tuple #[.agg (tellO p (fagO p)).cs, .bool (fagO p).isSome]) = Ending.returned (.tuple #[.agg (tellO p (stepO p)).cs, .bool (stepO p).isSome])) := show Ending.returned _ = _ by rw [EQ.out]
        clear EQ
        clear e72_1
        clear e72_2
        clear h2
        go_enter Tryz.func165, Tryz.ntmps165
        go_wp2_with fail
        refine (fag_any p W0).mono ?_
        rintro _ V ⟨rfl, bV⟩
        obtain ⟨U, sU, G0⟩ := (H0.out.below bV).tell (tellO p (fagO p))
        have G : Hid (RvAt U (w.heap.size + 1) 74 (tellO p (fagO p)).cs ∧ Below w.heap.size w U) := G0
        clear G0 H0 bV hW l0 c2 c29 c72
        go_wp2_with (with_reducible exact ret_pb Tryz.results165 (by with_unfolding_all rfl) (by with_unfolding_all rfl) (by with_unfolding_all rfl) G.out.1 ⟨ER.out, G.out.2⟩)
      · skip
        by_cases e72_3 : p.nm 72 = 3
        · rw [e72_3] at c72
          have EQ : Hid (stepO p = fcuO p) := show stepO p = _ by simp [stepO, h2, e72_1, e72_2, e72_3]
          have ER : Hid (Ending.returned (.tuple #[.agg (tellO p (fcuO p)).cs, .bool (fcuO p).isSome]) = Ending.returned (.tuple #[.agg (tellO p (stepO p)).cs, .bool (stepO p).isSome])) := show Ending.returned _ = _ by rw [EQ.out]
          clear EQ
          clear e72_1
          clear e72_2
          clear e72_3
          clear h2
          go_enter Tryz.func165, Tryz.ntmps165
          go_wp2_with fail
          refine (fcu_any p W0).mono ?_
          rintro _ V ⟨rfl, bV⟩
          obtain ⟨U, sU, G0⟩ := (H0.out.below bV).tell (tellO p (fcuO p))
          have G : Hid (RvAt U (w.heap.size + 1) 74 (tellO p (fcuO p)).cs ∧ Below w.heap.size w U) := G0
          clear G0 H0 bV hW l0 c2 c29 c72
          go_wp2_with (with_reducible exact ret_pb Tryz.results165 (by with_unfolding_all rfl) (by with_unfolding_all rfl) (by with_unfolding_all rfl) G.out.1 ⟨ER.out, G.out.2⟩)
        · skip
          have EQ : Hid (stepO p = some (disP p)) := show stepO p = _ by simp [stepO, h2, e72_1, e72_2, e72_3]
          have ER : Hid (Ending.returned (.tuple #[.agg (disP p).cs, .bool true]) = Ending.returned (.tuple #[.agg (tellO p (stepO p)).cs, .bool (stepO p).isSome])) := show Ending.returned _ = _ by rw [EQ.out]; rfl
          clear EQ
          obtain ⟨K72, g72⟩ : ∃ K, p.nm 72 = K := ⟨_, rfl⟩
          rw [g72] at c72 e72_1 e72_2 e72_3
          have q72_1 : (K72 == 1) = false := by simp [e72_1]
          have n72_1 : (K72 != 1) = true := by simp [e72_1]
          have q72_2 : (K72 == 2) = false := by simp [e72_2]
          have n72_2 : (K72 != 2) = true := by simp [e72_2]
          have q72_3 : (K72 == 3) = false := by simp [e72_3]
          have n72_3 : (K72 != 3) = true := by simp [e72_3]
          clear g72
          clear h2
          go_enter Tryz.func165, Tryz.ntmps165
          go_wp2_with fail
          refine (dis_any p W0).mono ?_
          rintro _ V ⟨rfl, bV⟩
          obtain ⟨U, sU, G0⟩ := (H0.out.below bV).tell (disP p)
          have G : Hid (RvAt U (w.heap.size + 1) 74 (disP p).cs ∧ Below w.heap.size w U) := G0
          clear G0 H0 bV hW l0 c2 c29 c72
          go_wp2_with (with_reducible exact ret_pb Tryz.results165 (by with_unfolding_all rfl) (by with_unfolding_all rfl) (by with_unfolding_all rfl) G.out.1 ⟨ER.out, G.out.2⟩)
end S11
end
section
namespace S11
open Go.RowKit

def gtP (l : List Pt) (i : Nat) : Pt := l.getD i zeroP
theorem gtP_at {l : List Pt} {i : Nat} (h : i < l.length) : l[i]? = some (gtP l i) := by
  simp [gtP, List.getD_eq_getElem?_getD, List.getElem?_eq_getElem h]
attribute [local go_sem ↓] ldP stP ldT stT apE st32 st4
end S11
end
section
namespace S11
open Go.RowKit

attribute [local go_sem ↓] ldP stP ldT stT apE st32 st4
theorem one_t (w : World) (h : Hd) (x : Value) : ∃ W, w.alloc (.cells (trc h x) 39) = W ∧ RvAt W w.heap.size 39 (trc h x) ∧ Below w.heap.size w W ∧ W.heap.size = w.heap.size + 1 :=
  ⟨_, rfl, RvAt.new w _ _, (Below.refl _ _).alloc (Nat.le_refl _) _, by simp⟩
end S11
end
section
namespace S11
open Go.RowKit

attribute [local go_sem ↓] ldP stP ldT stT apE st32
theorem there_any (h : Hd) (a : Option Addr) (n c : Nat) (i : Int) (w : World) (hn : n ≤ 1000) :
    Calls Tryz.prog 67 #[.agg (trc h (.slice a n c)), .int .i64 i] w fun r w' => r = .returned (.bool (decide (0 ≤ i) && decide (i < n))) ∧ Below w.heap.size w w' := by
  obtain ⟨W, hW, r0, bW, zW⟩ := one_t w h (.slice a n c)
  have c16 := r0.t16
  have F : Hid (Below w.heap.size w W) := bW
  clear r0 bW zW
  go_enter Tryz.func67, Tryz.ntmps67
  by_cases h1 : 0 ≤ i
  · by_cases h2 : i < (n : Int)
    · go_wp2
      go_ret
      exact ⟨by simp [h1, h2], F.out⟩
    · go_wp2
      go_ret
      exact ⟨by simp [h1, h2], F.out⟩
  · go_wp2
    go_ret
    exact ⟨by simp; omega, F.out⟩
theorem nil_yes (w : World) : (binOp .eql 37 (.slice none 0 0) (.slice none 0 0)).run Tryz.prog w = .ok (.bool true) w := by kernel_rfl
theorem nil_no (x : Addr) (n c : Nat) (w : World) : (binOp .eql 37 (.slice (some x) n c) (.slice none 0 0)).run Tryz.prog w = .ok (.bool false) w := by kernel_rfl
attribute [local go_sem] nil_yes nil_no
set_option maxHeartbeats 2000000 in
theorem clone_any (a : Option Addr) (n c : Nat) (l : List Pt) (w : World) (hs : SlAt w a n c l) (hn : n ≤ 1000) :
    Calls Tryz.prog 88 #[.slice a n c] w fun r w' => ∃ v, r = .returned v ∧ Own w' w.heap.size v l ∧ Below w.heap.size w w' := by
  cases a with
  | none =>
    obtain ⟨rfl, rfl⟩ := hs.nil rfl
    have hl : l = [] := List.eq_nil_of_length_eq_zero hs.len
    subst hl
    go_enter Tryz.func88, Tryz.ntmps88
    go_wp2
    go_ret
    exact ⟨_, rfl, Own.nil _ _, Below.refl _ _⟩
  | some x =>
    obtain ⟨W1, hW1⟩ : ∃ W1, w.alloc (.cells #[] 74) = W1 := ⟨_, rfl⟩
    have b1 : Below w.heap.size w W1 := by rw [← hW1]; exact (Below.refl _ _).alloc (Nat.le_refl _) _
    have o1 : Own W1 w.heap.size (.slice (some ⟨w.heap.size, 0, none⟩) 0 0) [] := by rw [← hW1]; exact zero_new w _ (Nat.le_refl _)
    obtain ⟨v, W2, ap, o2, g2⟩ := o1.app (hs.below b1) (by have := hs.len; simp; omega) b1.size 37
    rw [List.nil_append] at o2
    have b2 : Below w.heap.size w W2 := b1.trans (below_of_grown g2 b1.size (fun j e => by cases e; exact Nat.le_refl _))
    have F : Hid (Own W2 w.heap.size v l ∧ Below w.heap.size w W2) := ⟨o2, b2⟩
    clear hs b1 o1 o2 g2 b2 hn
    go_enter Tryz.func88, Tryz.ntmps88
    go_wp2
    go_ret
    exact ⟨v, rfl, F.out.1, F.out.2⟩
theorem three_t (w : World) (h : Hd) (x : Value) (p : Pt) : ∃ W, ((w.alloc (.cells (trc h x) 39)).alloc (.cells p.cs 74)).alloc (.cells #[.int .u64 0, .int .u8 0, .int .u8 0, .int .u8 0, .int .u8 0, .int .u8 0, .bool false, .int .u16 0, .int .u64 0, .int .u32 0, .int .u64 0, .int .u16 0, .int .u8 0, .int .u8 0, .int .u8 0, .int .u8 0, .slice none 0 0] 39) = W ∧ RvAt W w.heap.size 39 (trc h x) ∧ RvAt W (w.heap.size + 1) 74 p.cs ∧ RvAt W (w.heap.size + 1 + 1) 39 (trc zeroH (.slice none 0 0)) ∧ Below w.heap.size w W ∧ W.heap.size = w.heap.size + 3 := by
  obtain ⟨A, hA, rA, bA, zA⟩ := one_t w h x
  obtain ⟨D, hD, rD, bD, zD⟩ := new_p A p
  have hC : RvAt (D.alloc (.cells zeroT 39)) D.heap.size 39 zeroT := RvAt.new D _ _
  have bC : Below D.heap.size D (D.alloc (.cells zeroT 39)) := (Below.refl _ _).alloc (Nat.le_refl _) _
  rw [zeroT_is, zD, zA] at hC
  rw [zA] at rD
  rw [hA, hD]
  rw [zeroT_is] at bC
  refine ⟨_, rfl, ?_⟩
  change RvAt (D.alloc (.cells zeroT 39)) _ _ _ ∧ RvAt (D.alloc (.cells zeroT 39)) _ _ _ ∧ RvAt (D.alloc (.cells zeroT 39)) _ _ _ ∧ Below _ _ (D.alloc (.cells zeroT 39)) ∧ (D.alloc (.cells zeroT 39)).heap.size = _
  rw [zeroT_is]
  exact ⟨(rA.below bD).below bC, rD.below bC, hC, below_over (below_over bA bD) bC, by simp; omega⟩
set_option maxHeartbeats 4000000 in
theorem repl_any (h : Hd) (a : Option Addr) (n c : Nat) (l : List Pt) (k : Nat) (p : Pt) (w : World) (hs : SlAt w a n c l) (hn : n ≤ 1000) (hk : k < n) :
    Calls Tryz.prog 68 #[.agg (trc h (.slice a n c)), .int .i64 (k : Int), .agg p.cs] w fun r w' => ∃ g c', r = .returned (.agg (trc h (.slice (some ⟨g, 0, none⟩) n c'))) ∧ w.heap.size ≤ g ∧ SlAt w' (some ⟨g, 0, none⟩) n c' (l.set k p) ∧ Below w.heap.size w w' := by
  obtain ⟨W, hW, r0, rp, r1, bW, zW⟩ := three_t w h (.slice a n c) p
  have c16 := r0.t16
  have H : Hid (SlAt W a n c l ∧ n ≤ 1000 ∧ l.length = n ∧ RvAt W w.heap.size 39 (trc h (.slice a n c)) ∧ RvAt W (w.heap.size + 1 + 1) 39 (trc zeroH (.slice none 0 0)) ∧ Below w.heap.size w W ∧ W.heap.size = w.heap.size + 3 ∧ RvAt W (w.heap.size + 1) 74 p.cs) := ⟨hs.below bW, hn, hs.len, r0, r1, bW, zW, rp⟩
  clear hs hn r0 r1 bW zW rp
  go_enter Tryz.func68, Tryz.ntmps68
  go_wp2_with fail
  refine (clone_any a n c l W H.out.1 H.out.2.1).mono ?_
  rintro _ W2 ⟨v, rfl, o2, b2⟩
  have z2 := H.out.2.2.2.2.2.2.1
  have hl := H.out.2.2.1
  obtain ⟨W3, s3, r3, g3⟩ := (H.out.2.2.2.1.below b2).tset o2.one
  have o3 := o2.keptBut g3 (o2.apart (by omega))
  have q3 := (H.out.2.2.2.2.1.below b2).keptBut g3 (by simp only [ne_eq, Option.some.injEq]; omega)
  have p3 := (H.out.2.2.2.2.2.2.2.below b2).keptBut g3 (by simp only [ne_eq, Option.some.injEq]; omega)
  have b3 : Below w.heap.size w W3 := gro (below_over H.out.2.2.2.2.2.1 b2) g3 (Nat.le_refl _) (by have := b2.size; omega)
  have lp := p3.pld
  have hin0 : (0 : Int) ≤ (k : Int) := by omega
  have hin1 : (k : Int) < (n : Int) := by omega
  clear b2 g3 o2 c16 hW
  rcases o3.pat with ⟨hv, hle⟩ | ⟨g, cc, hv, hg, hp⟩
  · rw [hle] at hl; simp at hl; omega
  · rw [hl] at hv
    subst hv
    have c16 := r3.t16
    obtain ⟨V, sV, pV, gV⟩ := hp.stp (i := k) (p := p) (by omega) rfl
    have r5 := r3.keptBut gV (by simp; omega)
    have q5 := q3.keptBut gV (by simp; omega)
    have l5 := r5.tld
    obtain ⟨W6, s6, r6, g6⟩ := q5.tst (g := h) (y := .slice (some ⟨g, 0, none⟩) n cc) rfl
    have p6 := pV.keptBut g6 (by simp; omega)
    have b6 : Below w.heap.size w W6 := gro (gro b3 gV (by omega) b3.size) g6 (by omega) (by have := b3.size; have := gV.size; omega)
    have s6' := p6.sl
    rw [List.length_set, hl] at s6'
    have F : Hid (RvAt W6 (w.heap.size + 1 + 1) 39 (trc h (.slice (some ⟨g, 0, none⟩) n cc)) ∧ w.heap.size ≤ g ∧ SlAt W6 (some ⟨g, 0, none⟩) n cc (l.set k p) ∧ Below w.heap.size w W6) := ⟨r6, by omega, s6', b6⟩
    clear hp pV gV r5 q5 r6 g6 p6 b6 s6' hg r3 q3 p3 b3 o3 hl z2 hk
    go_wp2
    refine bodyPost_ret (results_row rtT Tryz.results68 _ _ _ _ rfl F.out.1 (trc_size _ _)) rfl ?_
    exact ⟨g, cc, rfl, F.out.2⟩
end S11
end
end Go.Proofs.YtlchejbggnbccaaGreat
