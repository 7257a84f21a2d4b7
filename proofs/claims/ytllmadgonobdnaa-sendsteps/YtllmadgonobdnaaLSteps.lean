/-
  SendSteps: its walk, for every tree.
-/
import Derived.Test.YtllmadgonobdnaaLawS
import Derived.Test.YtllmadgonobdnaaOpen
namespace Go.Proofs.Ytllmadgonobdnaa
set_option linter.unusedVariables false
set_option maxRecDepth 4000
set_option linter.unusedSimpArgs false
open Go.RowKit

attribute [local go_sem ↓] ldP stP ldT stT eqgM eqlM
set_option maxHeartbeats 16000000 in
theorem SendSteps_walk (h : Hd) (a0 : Option Addr) (n0 c0 : Nat) (l : List Pt) (i : Int) (w : World) (hs : SlAt w a0 n0 c0 l) (hi : -9223372036854775808 ≤ i ∧ i ≤ 9223372036854775807) :
    Calls Try.prog 3 #[.agg (trc h (.slice a0 n0 c0)), .int .i64 i] w fun r w' => r = .returned (.bool true) ∧ Below w.heap.size w w' := by
  obtain ⟨W, hW, r0, bW, zW⟩ := one_t w h (.slice a0 n0 c0)
  have l0 := r0.tld
  have H : Hid (SlAt W a0 n0 c0 l ∧ RvAt W w.heap.size 31 (trc h (.slice a0 n0 c0)) ∧ Below w.heap.size w W) := ⟨hs.below bW, r0, bW⟩
  clear hs r0 bW zW hi
  go_enter Try.func3, Try.ntmps3
  go_wp2_with fail
  refine (few_any h a0 n0 c0 l W H.out.1).mono ?_
  rintro _ W1 ⟨v, rfl, o1, b1⟩
  obtain ⟨ls, a, n, c, V, hlen, hn, rfl, sV, t, gV⟩ := few_in H.out.2.1 H.out.2.2 (Nat.le_refl _) b1 o1
  have G : Hid (TQ w V w.heap.size h a n c ls) := t
  have HN : Hid (ls.length = n) := hlen
  have hn1 : n ≤ 1000 := by omega
  have hn10 : n ≤ 10 := hn
  have lV := t.ld
  clear o1 b1 gV t l0 H hlen hW hn
  obtain ⟨O1, hO1⟩ : ∃ z, ptxI h ls i = z := ⟨_, rfl⟩
  obtain ⟨U1, hU1⟩ : ∃ z, ptxV h ls i = z := ⟨_, rfl⟩
  obtain ⟨O2, hO2⟩ : ∃ z, ppmI ls i = z := ⟨_, rfl⟩
  have EO1 : Hid (ptxI h ls i = O1) := hO1
  have EU1 : Hid (ptxV h ls i = U1) := hU1
  have EO2 : Hid (ppmI ls i = O2) := hO2
  clear hO1 hU1 hO2
  go_wp2_with fail
  refine (ptx_any h a n c ls i V G.out.sl hn1).mono ?_
  rintro _ X1 ⟨a1, c1, v1, rfl, s1, u1, b1⟩
  rw [EO1.out] at s1 ⊢
  rw [EU1.out] at u1
  obtain ⟨Y1, y1, t1, d1⟩ := TQ.new (w := w) (h := h) s1 (below_over G.out.bel b1)
  obtain ⟨i1, hi1⟩ : ∃ z, X1.heap.size = z := ⟨_, rfl⟩
  rw [hi1] at y1 t1
  have G1 : Hid (TQ w Y1 w.heap.size h a n c ls ∧ TQ w Y1 i1 h a1 n c1 (O1.getD ls) ∧ OutAt Y1 v1 U1) := ⟨(G.out.below b1).below d1, t1, u1.below d1⟩
  have l1 := G1.out.1.ld
  clear s1 b1 t1 d1 u1 G lV sV
  go_wp2_with fail
  refine (rptx_any h a n c ls i Y1 G1.out.1.sl hn1).mono ?_
  rintro _ X2 ⟨a2, c2, v2, rfl, s2, u2, b2⟩
  rw [EO1.out] at s2 ⊢
  rw [EU1.out] at u2
  obtain ⟨Y2, y2, t2, d2⟩ := TQ.new (w := w) (h := h) s2 (below_over G1.out.1.bel b2)
  obtain ⟨i2, hi2⟩ : ∃ z, X2.heap.size = z := ⟨_, rfl⟩
  rw [hi2] at y2 t2
  have G2 : Hid (TQ w Y2 w.heap.size h a n c ls ∧ TQ w Y2 i1 h a1 n c1 (O1.getD ls) ∧ OutAt Y2 v1 U1 ∧ TQ w Y2 i2 h a2 n c2 (O1.getD ls) ∧ OutAt Y2 v2 U1) := ⟨(G1.out.1.below b2).below d2, (G1.out.2.1.below b2).below d2, (G1.out.2.2.below b2).below d2, t2, u2.below d2⟩
  have l2 := G2.out.1.ld
  clear s2 b2 t2 d2 u2 G1 l1 y1 hi1
  go_wp2_with fail
  refine (ppm_any h a n c ls i Y2 G2.out.1.sl hn1).mono ?_
  rintro _ X3 ⟨a3, c3, rfl, s3, b3⟩
  rw [EO2.out] at s3 ⊢
  obtain ⟨Y3, y3, t3, d3⟩ := TQ.new (w := w) (h := h) s3 (below_over G2.out.1.bel b3)
  obtain ⟨i3, hi3⟩ : ∃ z, X3.heap.size = z := ⟨_, rfl⟩
  rw [hi3] at y3 t3
  have G3 : Hid (TQ w Y3 w.heap.size h a n c ls ∧ TQ w Y3 i1 h a1 n c1 (O1.getD ls) ∧ OutAt Y3 v1 U1 ∧ TQ w Y3 i2 h a2 n c2 (O1.getD ls) ∧ OutAt Y3 v2 U1 ∧ TQ w Y3 i3 h a3 n c3 (O2.getD ls)) := ⟨(G2.out.1.below b3).below d3, (G2.out.2.1.below b3).below d3, (G2.out.2.2.1.below b3).below d3, (G2.out.2.2.2.1.below b3).below d3, (G2.out.2.2.2.2.below b3).below d3, t3⟩
  have l3 := G3.out.1.ld
  clear s3 b3 t3 d3 G2 l2 y2 hi2
  go_wp2_with fail
  refine (rppm_any h a n c ls i Y3 G3.out.1.sl hn1).mono ?_
  rintro _ X4 ⟨a4, c4, rfl, s4, b4⟩
  rw [EO2.out] at s4 ⊢
  obtain ⟨Y4, y4, t4, d4⟩ := TQ.new (w := w) (h := h) s4 (below_over G3.out.1.bel b4)
  obtain ⟨i4, hi4⟩ : ∃ z, X4.heap.size = z := ⟨_, rfl⟩
  rw [hi4] at y4 t4
  have G4 : Hid (TQ w Y4 w.heap.size h a n c ls ∧ TQ w Y4 i1 h a1 n c1 (O1.getD ls) ∧ OutAt Y4 v1 U1 ∧ TQ w Y4 i2 h a2 n c2 (O1.getD ls) ∧ OutAt Y4 v2 U1 ∧ TQ w Y4 i3 h a3 n c3 (O2.getD ls) ∧ TQ w Y4 i4 h a4 n c4 (O2.getD ls)) := ⟨(G3.out.1.below b4).below d4, (G3.out.2.1.below b4).below d4, (G3.out.2.2.1.below b4).below d4, (G3.out.2.2.2.1.below b4).below d4, (G3.out.2.2.2.2.1.below b4).below d4, (G3.out.2.2.2.2.2.below b4).below d4, t4⟩
  clear s4 b4 t4 d4 G3 l3 y3 hi3
  go_upto_region 6 with fail
  clear y4 hi4
  have f0 := fun q : Later Y4 => (G4.out.1.below q.below).ld
  have f1 := fun q : Later Y4 => (G4.out.2.1.below q.below).ld
  have f2 := fun q : Later Y4 => (G4.out.2.2.2.1.below q.below).ld
  have f3 := fun q : Later Y4 => (G4.out.2.2.2.2.2.1.below q.below).ld
  have f4 := fun q : Later Y4 => (G4.out.2.2.2.2.2.2.below q.below).ld
  have P1 : Hid (∀ q : Later Y4, Calls Try.prog 12 #[.agg (trc h (.slice a1 n c1)), .agg (trc h (.slice a2 n c2))] q.val fun r w' => r = .returned (.bool true) ∧ Below q.val.heap.size q.val w') := fun q => by
    have := rsame_any h h a1 a2 n n c1 c2 (O1.getD ls) (O1.getD ls) q.val (G4.out.2.1.below q.below).sl (G4.out.2.2.2.1.below q.below).sl hn1 hn1
    rw [sameT_self] at this
    exact this
  have P2 : Hid (∀ q : Later Y4, Calls Try.prog 13 #[v1, v2] q.val fun r w' => r = .returned (.bool true) ∧ Below q.val.heap.size q.val w') := fun q => souts_any U1 v1 v2 q.val (G4.out.2.2.1.below q.below) (G4.out.2.2.2.2.1.below q.below)
  have P3 : Hid (∀ q : Later Y4, Calls Try.prog 12 #[.agg (trc h (.slice a3 n c3)), .agg (trc h (.slice a4 n c4))] q.val fun r w' => r = .returned (.bool true) ∧ Below q.val.heap.size q.val w') := fun q => by
    have := rsame_any h h a3 a4 n n c3 c4 (O2.getD ls) (O2.getD ls) q.val (G4.out.2.2.2.2.2.1.below q.below).sl (G4.out.2.2.2.2.2.2.below q.below).sl hn1 hn1
    rw [sameT_self] at this
    exact this
  obtain ⟨M, hM⟩ : ∃ z, msgI ls i = z := ⟨_, rfl⟩
  have P4 : Hid (∀ q : Later Y4, Calls Try.prog 14 #[.agg (trc h (.slice a n c)), .int .i64 i] q.val fun r w' => r = .returned (.agg M.cs) ∧ Below q.val.heap.size q.val w') := fun q => by
    have := mes_any h a n c ls i q.val (G4.out.1.below q.below).sl hn1
    rw [hM] at this
    exact this
  have P5 : Hid (∀ q : Later Y4, Calls Try.prog 15 #[.agg (trc h (.slice a n c)), .int .i64 i] q.val fun r w' => r = .returned (.agg M.cs) ∧ Below q.val.heap.size q.val w') := fun q => by
    have := rmes_any h a n c ls i q.val (G4.out.1.below q.below).sl hn1
    rw [hM] at this
    exact this
  have P6 : Hid (∀ q : Later Y4, Calls Try.prog 16 #[] q.val fun r w' => r = .returned (.bool true) ∧ Below q.val.heap.size q.val w') := fun q => awake_any q.val
  have em : M.eq M = true := Row.eq_self M
  have F : Hid (Below w.heap.size w Y4) := G4.out.1.bel
  obtain ⟨B1, hB1⟩ : ∃ z, O1.isSome = z := ⟨_, rfl⟩
  obtain ⟨B2, hB2⟩ : ∃ z, O2.isSome = z := ⟨_, rfl⟩
  rw [hB1, hB2]
  have eb1 : (B1 == B1) = true := beq_self_eq_true B1
  have eb2 : (B2 == B2) = true := beq_self_eq_true B2
  clear G4 hM hB1 hB2
  refine wp_region_later (by kernel_rfl) (by kernel_rfl) ?_
  repeat (go_big_quiet_step (first | exact rfl | (go_at_call 12; first | with_reducible exact Calls.later_of (P1.out _) | with_reducible exact Calls.later_of (P3.out _)) | (go_at_call 13; with_reducible exact Calls.later_of (P2.out _)) | (go_at_call 14; with_reducible exact Calls.later_of (P4.out _)) | (go_at_call 15; with_reducible exact Calls.later_of (P5.out _)) | (go_at_call 16; with_reducible exact Calls.later_of (P6.out _))))
  refine wpQuiet_nil ?_
  rintro _ ⟨z, rfl⟩
  have FZ : Hid (Below w.heap.size w z.val) := below_over F.out z.below
  clear f0 f1 f2 f3 f4
  go_wp2
  go_ret
  exact ⟨rfl, FZ.out⟩
end Go.Proofs.Ytllmadgonobdnaa
