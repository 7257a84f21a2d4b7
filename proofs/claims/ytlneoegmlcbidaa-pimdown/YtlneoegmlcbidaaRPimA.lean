/-
  The definition's changes of a port: the walks of disabled, aged and updated, each for every port.
-/
import Derived.Test.YtlneoegmlcbidaaPim
namespace Go.Proofs.Ytlneoegmlcbidaa
set_option linter.unusedVariables false
set_option maxRecDepth 4000
set_option linter.unusedSimpArgs false
open Go.RowKit

attribute [local go_sem ↓] ldP stP ldM stM ldTm stTm ldV stV stB stU stI stW
attribute [local go_sem ↓] alP alM
attribute [local go_sem] alP_run alM_run
set_option maxHeartbeats 2000000 in
theorem rdis_any (p : Pt) (w : World) :
    Calls Try.prog 33 #[.agg p.cs] w fun r w' => r = .returned (.agg (disP p).cs) ∧ Below w.heap.size w w' := by
  obtain ⟨W0, hW, S0⟩ := PS.start w p
  obtain ⟨W1, s1, S1⟩ := S0.setB kb14 false
  obtain ⟨W2, s2, S2⟩ := S1.setB kb13 false
  obtain ⟨W3, s3, S3⟩ := S2.setB kb12 false
  obtain ⟨W4, s4, S4⟩ := S3.setB kb3 false
  obtain ⟨W5, s5, S5⟩ := S4.setB kb4 false
  obtain ⟨W6, s6, S6⟩ := S5.setU ku69 (n := 0) (by omega)
  obtain ⟨W7, s7, S7⟩ := S6.setN infoI kn29 wi0
  obtain ⟨W8, s8, S8⟩ := S7.setB kb21 true
  obtain ⟨W9, s9, S9⟩ := S8.setB kb22 false
  obtain ⟨W10, s10, S10⟩ := S9.setN infoS kn72 wi1
  rw [dis_ref p] at S10
  have lX := S10.ld
  obtain ⟨U, sU, G0⟩ := S10.tell (disP p)
  have G : Hid (RvAt U (w.heap.size + 1) 47 (disP p).cs ∧ Below w.heap.size w U) := G0
  clear G0 S0 S1 S2 S3 S4 S5 S6 S7 S8 S9 S10
  go_enter Try.func33, Try.ntmps33
  go_wp2_with (with_reducible exact ret_port Try.results33 (by with_unfolding_all rfl) (by with_unfolding_all rfl) G.out.1 ⟨rfl, G.out.2⟩)
set_option maxHeartbeats 2000000 in
theorem ragd_any (p : Pt) (w : World) :
    Calls Try.prog 34 #[.agg p.cs] w fun r w' => r = .returned (.agg (agdP p).cs) ∧ Below w.heap.size w w' := by
  obtain ⟨W0, hW, S0⟩ := PS.start w p
  obtain ⟨W1, s1, S1⟩ := S0.setN infoI kn29 wi1
  obtain ⟨W2, s2, S2⟩ := S1.setB kb21 true
  obtain ⟨W3, s3, S3⟩ := S2.setB kb22 false
  obtain ⟨W4, s4, S4⟩ := S3.setN infoS kn72 wi2
  rw [agd_ref p] at S4
  have lX := S4.ld
  obtain ⟨U, sU, G0⟩ := S4.tell (agdP p)
  have G : Hid (RvAt U (w.heap.size + 1) 47 (agdP p).cs ∧ Below w.heap.size w U) := G0
  clear G0 S0 S1 S2 S3 S4
  go_enter Try.func34, Try.ntmps34
  go_wp2_with (with_reducible exact ret_port Try.results34 (by with_unfolding_all rfl) (by with_unfolding_all rfl) G.out.1 ⟨rfl, G.out.2⟩)
set_option maxHeartbeats 2000000 in
theorem rupd_any (p : Pt) (w : World) :
    Calls Try.prog 35 #[.agg p.cs] w fun r w' => r = .returned (.agg (updP p).cs) ∧ Below w.heap.size w w' := by
  obtain ⟨W0, hW, S0⟩ := PS.start w p
  have c4 := S0.var.bit (j := 4) rfl
  have l0 := S0.ld
  obtain ⟨A, hA⟩ : ∃ A, updA p = A := ⟨_, rfl⟩
  obtain ⟨B, hB⟩ : ∃ B, synP A = B := ⟨_, rfl⟩
  have e : updP p = curP (ownP (clrP B)) := by rw [← hB, ← hA]; rfl
  rw [e]
  have key : ∀ V, PS w V w.heap.size (w.heap.size + 1) p → ∃ V1, (stS 4 (.pointer (some ⟨w.heap.size, 4, none⟩)) (.bool (p.bt 4 && bosP p 2))).run Try.prog V = .ok () V1 ∧ V1.cell? ⟨w.heap.size, 25, none⟩ = some (.bool (A.bt 25)) ∧ V1.cell? ⟨w.heap.size, 4, none⟩ = some (.bool (A.bt 4)) ∧ ∃ V2, (stS 4 (.pointer (some ⟨w.heap.size, 25, none⟩)) (.bool (A.bt 25 && A.bt 4))).run Try.prog V1 = .ok () V2 ∧ PS w V2 w.heap.size (w.heap.size + 1) B := fun V S => by
    obtain ⟨V1, s1, S1⟩ := S.setB kb4 (p.bt 4 && bosP p 2)
    have S1' : PS w V1 w.heap.size (w.heap.size + 1) A := by rw [← hA]; exact S1
    obtain ⟨V2, s2, S2⟩ := S1'.setB kb25 (A.bt 25 && A.bt 4)
    exact ⟨V1, s1, S1'.var.bit rfl, S1'.var.bit rfl, V2, s2, by rw [← hB]; exact S2⟩
  have fin : ∀ V2, PS w V2 w.heap.size (w.heap.size + 1) B → ∃ V3 V4 V5 V6 V7 V8 V9 V10 U, (stS 4 (.pointer (some ⟨w.heap.size, 13, none⟩)) (.bool false)).run Try.prog V2 = .ok () V3 ∧ (stS 4 (.pointer (some ⟨w.heap.size, 12, none⟩)) (.bool false)).run Try.prog V3 = .ok () V4 ∧
      (ldS 28 (.pointer (some ⟨w.heap.size, 32, none⟩))).run Try.prog V4 = .ok (.agg (dsg (clrP B)).cs) V4 ∧ (ldS 24 (.pointer (some ⟨w.heap.size, 40, none⟩))).run Try.prog V4 = .ok (.agg (dsgT (clrP B)).cs) V4 ∧
      (stS 28 (.pointer (some ⟨w.heap.size, 36, none⟩)) (.agg (dsg (clrP B)).cs)).run Try.prog V4 = .ok () V5 ∧ (stS 24 (.pointer (some ⟨w.heap.size, 44, none⟩)) (.agg (dsgT (clrP B)).cs)).run Try.prog V5 = .ok () V6 ∧
      (stS 4 (.pointer (some ⟨w.heap.size, 28, none⟩)) (.bool false)).run Try.prog V6 = .ok () V7 ∧ (stS 44 (.pointer (some ⟨w.heap.size, 29, none⟩)) (.int .i64 2)).run Try.prog V7 = .ok () V8 ∧ (stS 4 (.pointer (some ⟨w.heap.size, 11, none⟩)) (.bool true)).run Try.prog V8 = .ok () V9 ∧ (stS 45 (.pointer (some ⟨w.heap.size, 72, none⟩)) (.int .i64 3)).run Try.prog V9 = .ok () V10 ∧ 
      (ldS 47 (.pointer (some ⟨w.heap.size, 0, none⟩))).run Try.prog V10 = .ok (.agg (curP (ownP (clrP B))).cs) V10 ∧ (stS 47 (.pointer (some ⟨w.heap.size + 1, 0, none⟩)) (.agg (curP (ownP (clrP B))).cs)).run Try.prog V10 = .ok () U ∧ RvAt U (w.heap.size + 1) 47 (curP (ownP (clrP B))).cs ∧ Below w.heap.size w U := fun V2 S2 => by
    obtain ⟨V3, s3, S3⟩ := S2.setB kb13 false
    obtain ⟨V4, s4, S4'⟩ := S3.setB kb12 false
    have S4 : PS w V4 w.heap.size (w.heap.size + 1) (clrP B) := S4'
    obtain ⟨V5, s5, S5⟩ := S4.putV (dsg (clrP B))
    obtain ⟨V6, s6, S6'⟩ := S5.putT (dsgT (clrP B))
    have S6 : PS w V6 w.heap.size (w.heap.size + 1) (ownP (clrP B)) := S6'
    obtain ⟨V7, s7, S7⟩ := S6.setB kb28 false
    obtain ⟨V8, s8, S8⟩ := S7.setN infoI kn29 wi2
    obtain ⟨V9, s9, S9⟩ := S8.setB kb11 true
    obtain ⟨V10, s10, S10'⟩ := S9.setN infoS kn72 wi3
    rw [cur_ref] at S10'
    have S10 : PS w V10 w.heap.size (w.heap.size + 1) (curP (ownP (clrP B))) := S10'
    obtain ⟨U, sU, h1, h2⟩ := S10.tell (curP (ownP (clrP B)))
    exact ⟨V3, V4, V5, V6, V7, V8, V9, V10, U, s3, s4, S4.var.pdsg, S4.var.pdsT, s5, s6, s7, s8, s9, s10, S10.ld, sU, h1, h2⟩
  have K : Hid (∀ V, PS w V w.heap.size (w.heap.size + 1) p → _) := key
  have L : Hid (∀ V2, PS w V2 w.heap.size (w.heap.size + 1) B → _) := fin
  have S : Hid (PS w W0 w.heap.size (w.heap.size + 1) p) := S0
  have E : Hid (∀ b : Bool, (p.bt 4 && bosP p 2) = b → A.bt 4 = b) := fun b hb => by rw [← hA, ← hb]; exact setB_at p kb4 _
  clear key fin S0 e hA hB
  go_enter Try.func35, Try.ntmps35
  cases h : p.bt 4
  · rw [h] at c4
    obtain ⟨V1, t1, d25, d4, V2, t2, S2⟩ := K.out W0 S.out
    rw [h, Bool.false_and] at t1
    have e4 := E.out false (by rw [h]; rfl)
    rw [e4, Bool.and_false] at t2
    rw [e4] at d4
    obtain ⟨V3, V4, V5, V6, V7, V8, V9, V10, U, s3, s4, l1, l2, s5, s6, s7, s8, s9, s10, l3, sU, G0⟩ := L.out V2 S2
    have G : Hid (RvAt U (w.heap.size + 1) 47 (curP (ownP (clrP B))).cs ∧ Below w.heap.size w U) := G0
    clear G0 S2 S K L E h e4
    cases h25 : A.bt 25
    all_goals
      rw [h25] at d25
      clear h25
      go_wp2_with (with_reducible exact ret_port Try.results35 (by with_unfolding_all rfl) (by with_unfolding_all rfl) G.out.1 ⟨rfl, G.out.2⟩)
  · rw [h] at c4
    go_wp2_with fail
    refine (rbos_any p 2 W0).mono ?_
    rintro _ V0 ⟨rfl, bV⟩
    obtain ⟨V1, t1, d25, d4, V2, t2, S2⟩ := K.out V0 (S.out.below bV)
    rw [h, Bool.true_and] at t1
    have e4 := E.out _ rfl
    rw [h, Bool.true_and] at e4
    rw [e4] at d4 t2
    obtain ⟨V3, V4, V5, V6, V7, V8, V9, V10, U, s3, s4, l1, l2, s5, s6, s7, s8, s9, s10, l3, sU, G0⟩ := L.out V2 S2
    have G : Hid (RvAt U (w.heap.size + 1) 47 (curP (ownP (clrP B))).cs ∧ Below w.heap.size w U) := G0
    obtain ⟨y, hy⟩ : ∃ y, bosP p 2 = y := ⟨_, rfl⟩
    rw [hy] at t1 t2 d4 ⊢
    clear G0 S2 S K L E h e4 bV l0 c4 hy
    cases h25 : A.bt 25
    all_goals
      rw [h25] at d25 t2
      simp only [Bool.false_and, Bool.true_and] at t2
      clear h25
      go_wp2_with (with_reducible exact ret_port Try.results35 (by with_unfolding_all rfl) (by with_unfolding_all rfl) G.out.1 ⟨rfl, G.out.2⟩)
end Go.Proofs.Ytlneoegmlcbidaa
