/-
  SendFalls: its walk, for every tree.
-/
import Derived.Test.YtllmadgonobdnaaStl
import Derived.Test.YtllmadgonobdnaaOpen
namespace Go.Proofs.Ytllmadgonobdnaa
set_option linter.unusedVariables false
set_option maxRecDepth 4000
set_option linter.unusedSimpArgs false
open Go.RowKit

attribute [local go_sem ↓] ldP stP stB stU stW ldT stT alP
attribute [local go_sem] alP_run
theorem gtP_map {l : List Pt} {k : Nat} (h : k < l.length) : gtP (l.map tickP) k = tickP (gtP l k) := by
  have h1 := gtP_at (l := l.map tickP) (i := k) (by rw [List.length_map]; exact h)
  rw [List.getElem?_map, gtP_at h] at h1
  exact (Option.some.inj h1).symm
set_option maxHeartbeats 16000000 in
theorem SendFalls_walk (h : Hd) (a0 : Option Addr) (n0 c0 : Nat) (l : List Pt) (i : Int) (w : World) (hs : SlAt w a0 n0 c0 l) (hi : -9223372036854775808 ≤ i ∧ i ≤ 9223372036854775807) :
    Calls Try.prog 6 #[.agg (trc h (.slice a0 n0 c0)), .int .i64 i] w fun r w' => r = .returned (.bool true) ∧ Below w.heap.size w w' := by
  obtain ⟨W, hW, r0, bW, zW⟩ := one_t w h (.slice a0 n0 c0)
  have l0 := r0.tld
  have H : Hid (SlAt W a0 n0 c0 l ∧ RvAt W w.heap.size 31 (trc h (.slice a0 n0 c0)) ∧ Below w.heap.size w W) := ⟨hs.below bW, r0, bW⟩
  clear hs r0 bW zW hi
  go_enter Try.func6, Try.ntmps6
  go_wp2_with fail
  refine (few_any h a0 n0 c0 l W H.out.1).mono ?_
  rintro _ W1 ⟨v, rfl, o1, b1⟩
  obtain ⟨ls, a, n, c, V, hlen, hn, rfl, sV, t, gV⟩ := few_in H.out.2.1 H.out.2.2 (Nat.le_refl _) b1 o1
  have G : Hid (TQ w V w.heap.size h a n c ls) := t
  have HN : Hid (ls.length = n) := hlen
  have hn1 : n ≤ 1000 := by omega
  have hn10 : n ≤ 10 := hn
  have lV := t.ld
  clear o1 b1 gV t l0 H hlen hW hn
  go_wp2_with fail
  refine (has_any h a n c i V hn1).mono ?_
  rintro _ V3 ⟨rfl, b3⟩
  have G3 : Hid (TQ w V3 w.heap.size h a n c ls) := G.out.below b3
  have F3 : Hid (Below w.heap.size w V3) := G3.out.bel
  clear b3 G lV sV
  by_cases hi : 0 ≤ i ∧ i < (n : Int)
  rotate_left
  · have eb : (decide (0 ≤ i) && decide (i < (n : Int))) = false := by simp; omega
    rw [eb]
    clear eb hi G3
    go_wp2_with fail
    refine (awake_any _).mono ?_
    rintro _ VA ⟨rfl, bA⟩
    have FA : Hid (Below w.heap.size w VA) := below_over F3.out bA
    clear bA
    go_wp2
    go_ret
    exact ⟨rfl, FA.out⟩
  have eb : (decide (0 ≤ i) && decide (i < (n : Int))) = true := by simp; omega
  rw [eb]
  clear eb
  obtain ⟨k, hk⟩ : ∃ k : Nat, i = (k : Int) := ⟨i.toNat, by omega⟩
  subst hk
  have hin0 : (0 : Int) ≤ (k : Int) := by omega
  have hin1 : (k : Int) < (n : Int) := by omega
  have HK : Hid (k < n) := by exact (by omega : k < n)
  obtain ⟨g0, o0, rfl⟩ := G3.out.sl.some' (by omega)
  have c16 := G3.out.var.t16
  have lp := G3.out.sl.ld (gtP_at (i := k) (by rw [HN.out]; exact HK.out))
  obtain ⟨W0, s0, T0, b0⟩ := TPQ.new G3.out (by omega) (gtP ls k)
  obtain ⟨Z, hZ⟩ : ∃ z, V3.heap.size = z := ⟨_, rfl⟩
  rw [hZ] at s0 T0
  clear b0 G3 hi
  obtain ⟨V1, e1, T1⟩ := T0.setB kb2 true
  obtain ⟨V2, e2, T2⟩ := T1.setN kn76 wi0
  have T2 : TPQ w V2 h (some ⟨g0, o0, none⟩) n c ls Z (staP (gtP ls k)) := T2
  obtain ⟨r0, hr0⟩ : ∃ z, staP (gtP ls k) = z := ⟨_, rfl⟩
  rw [hr0] at T2
  have K2 : Hid (TPQ w V2 h (some ⟨g0, o0, none⟩) n c ls Z r0) := T2
  have HR0 : Hid (staP (gtP ls k) = r0) := hr0
  have lt0 := T2.t.ld
  have lq0 := T2.v.pld
  clear T0 T1 T2 hr0
  go_wp2_with fail
  refine (with_any h (some ⟨g0, o0, none⟩) n c ls k r0 V2 K2.out.t.sl hn1 HK.out).mono ?_
  rintro _ X0 ⟨g9, c0, rfl, f0, s0_, b0⟩
  obtain ⟨Y0, y0, tq0, gg0⟩ := (K2.out.t.below b0).st s0_
  obtain ⟨l0, hl0⟩ : ∃ z, ls.set k r0 = z := ⟨_, rfl⟩
  rw [hl0] at tq0
  obtain ⟨a0_, ha0⟩ : ∃ z : Option Addr, some ⟨g9, 0, none⟩ = z := ⟨_, rfl⟩
  have S0 : Hid (TQ w Y0 w.heap.size h (some ⟨g9, 0, none⟩) n c0 l0 ∧ l0.length = n ∧ gtP l0 k = r0) := ⟨tq0, by rw [← hl0, List.length_set]; exact HN.out, by rw [← hl0]; exact gtP_put (by rw [HN.out]; exact HK.out)⟩
  clear f0 s0_ b0 tq0 gg0 lt0 lq0 K2 e1 e2 c16 lp hZ s0 hl0 ha0 a0_ HN
  have lt1 := S0.out.1.ld
  go_wp2_with fail
  refine (settle_in h (some ⟨g9, 0, none⟩) n c0 l0 k Y0 S0.out.1.sl hn1 HK.out).mono ?_
  rintro _ X1 ⟨a1, c1, rfl, fr1, s1, b1⟩
  obtain ⟨l1, hl1⟩ : ∃ z, setL 6 l0 k = z := ⟨_, rfl⟩
  rw [hl1] at s1
  obtain ⟨Y1, y1, tq1, gg1⟩ := (S0.out.1.below b1).st s1
  have S1 : Hid (TQ w Y1 w.heap.size h a1 n c1 l1 ∧ l1.length = n ∧ Ck 3 (gtP l1 k)) := ⟨tq1, by rw [← hl1]; rw [setL_len]; exact S0.out.2.1, by rw [← hl1]; rw [setL_at _ _ _ (by rw [S0.out.2.1]; exact HK.out)]; rw [S0.out.2.2, ← HR0.out]; exact f_start _⟩
  clear s1 b1 tq1 gg1 hl1 fr1
  go_wp2_with fail
  refine wp_loop_rounds 4 ?_
  clear y0 lt1 S0 HR0
  rw [rounds_succ]
  have lt2 := S1.out.1.ld
  go_wp2_with fail
  refine (rtick_any h a1 n c1 l1 Y1 S1.out.1.sl hn1).mono ?_
  rintro _ T2 ⟨v2, rfl, o2, d2⟩
  obtain ⟨p2, e2, hv2, q2, fo2⟩ := o2.form
  rw [List.length_map, S1.out.2.1] at hv2 q2
  subst hv2
  have M2 : Hid (TQ w T2 w.heap.size h a1 n c1 l1 ∧ SlAt T2 p2 n e2 (l1.map tickP)) := ⟨S1.out.1.below d2, q2⟩
  clear o2 q2 lt2
  go_wp2_with fail
  refine (settle_in h p2 n e2 (l1.map tickP) k T2 M2.out.2 hn1 HK.out).mono ?_
  rintro _ X2 ⟨a2, c2, rfl, fr2, s2, b2⟩
  obtain ⟨l2, hl2⟩ : ∃ z, setL 6 (l1.map tickP) k = z := ⟨_, rfl⟩
  rw [hl2] at s2
  obtain ⟨Y2, y2, tq2, gg2⟩ := (M2.out.1.below b2).st s2
  have S2 : Hid (TQ w Y2 w.heap.size h a2 n c2 l2 ∧ l2.length = n ∧ Ck 2 (gtP l2 k)) := ⟨tq2, by rw [← hl2]; rw [setL_len, List.length_map]; exact S1.out.2.1, by rw [← hl2]; rw [setL_at _ _ _ (by rw [List.length_map, S1.out.2.1]; exact HK.out), gtP_map (by rw [S1.out.2.1]; exact HK.out)]; exact f_ck (j := 2) S1.out.2.2 (by decide)⟩
  clear s2 b2 tq2 gg2 hl2 fr2
  go_wp2_with fail
  clear y1 S1 M2
  rw [rounds_succ]
  have lt3 := S2.out.1.ld
  go_wp2_with fail
  refine (rtick_any h a2 n c2 l2 Y2 S2.out.1.sl hn1).mono ?_
  rintro _ T3 ⟨v3, rfl, o3, d3⟩
  obtain ⟨p3, e3, hv3, q3, fo3⟩ := o3.form
  rw [List.length_map, S2.out.2.1] at hv3 q3
  subst hv3
  have M3 : Hid (TQ w T3 w.heap.size h a2 n c2 l2 ∧ SlAt T3 p3 n e3 (l2.map tickP)) := ⟨S2.out.1.below d3, q3⟩
  clear o3 q3 lt3
  go_wp2_with fail
  refine (settle_in h p3 n e3 (l2.map tickP) k T3 M3.out.2 hn1 HK.out).mono ?_
  rintro _ X3 ⟨a3, c3, rfl, fr3, s3, b3⟩
  obtain ⟨l3, hl3⟩ : ∃ z, setL 6 (l2.map tickP) k = z := ⟨_, rfl⟩
  rw [hl3] at s3
  obtain ⟨Y3, y3, tq3, gg3⟩ := (M3.out.1.below b3).st s3
  have S3 : Hid (TQ w Y3 w.heap.size h a3 n c3 l3 ∧ l3.length = n ∧ Ck 1 (gtP l3 k)) := ⟨tq3, by rw [← hl3]; rw [setL_len, List.length_map]; exact S2.out.2.1, by rw [← hl3]; rw [setL_at _ _ _ (by rw [List.length_map, S2.out.2.1]; exact HK.out), gtP_map (by rw [S2.out.2.1]; exact HK.out)]; exact f_ck (j := 1) S2.out.2.2 (by decide)⟩
  clear s3 b3 tq3 gg3 hl3 fr3
  go_wp2_with fail
  clear y2 S2 M3
  rw [rounds_succ]
  have lt4 := S3.out.1.ld
  go_wp2_with fail
  refine (rtick_any h a3 n c3 l3 Y3 S3.out.1.sl hn1).mono ?_
  rintro _ T4 ⟨v4, rfl, o4, d4⟩
  obtain ⟨p4, e4, hv4, q4, fo4⟩ := o4.form
  rw [List.length_map, S3.out.2.1] at hv4 q4
  subst hv4
  have M4 : Hid (TQ w T4 w.heap.size h a3 n c3 l3 ∧ SlAt T4 p4 n e4 (l3.map tickP)) := ⟨S3.out.1.below d4, q4⟩
  clear o4 q4 lt4
  go_wp2_with fail
  refine (settle_in h p4 n e4 (l3.map tickP) k T4 M4.out.2 hn1 HK.out).mono ?_
  rintro _ X4 ⟨a4, c4, rfl, fr4, s4, b4⟩
  obtain ⟨l4, hl4⟩ : ∃ z, setL 6 (l3.map tickP) k = z := ⟨_, rfl⟩
  rw [hl4] at s4
  obtain ⟨Y4, y4, tq4, gg4⟩ := (M4.out.1.below b4).st s4
  have S4 : Hid (TQ w Y4 w.heap.size h a4 n c4 l4 ∧ l4.length = n ∧ Se true (gtP l4 k)) := ⟨tq4, by rw [← hl4]; rw [setL_len, List.length_map]; exact S3.out.2.1, by rw [← hl4]; rw [setL_at _ _ _ (by rw [List.length_map, S3.out.2.1]; exact HK.out), gtP_map (by rw [S3.out.2.1]; exact HK.out)]; exact f_sense S3.out.2.2⟩
  clear s4 b4 tq4 gg4 hl4 fr4
  go_wp2_with fail
  clear y3 S3 M4
  rw [rounds_succ]
  obtain ⟨gA, oA, hA⟩ := S4.out.1.sl.some' (by have := HK.out; omega)
  subst hA
  have c16 := S4.out.1.var.t16
  have hkl : k < l4.length := by rw [S4.out.2.1]; exact HK.out
  have lp := S4.out.1.sl.ld (gtP_at hkl)
  have c76 := S4.out.1.sl.cell (gtP_at hkl) ((gtP l4 k).num (j := 76) (k := .i64) rfl) (by omega)
  rw [S4.out.2.2.2.2.1] at c76
  have c23 := S4.out.1.sl.cell (gtP_at hkl) ((gtP l4 k).bit (j := 23) rfl) (by omega)
  rw [S4.out.2.2.2.1] at c23
  have hle : ¬ (n : Int) ≤ (k : Int) := by omega
  obtain ⟨R0, z0, T0, b0⟩ := TPQ.new S4.out.1 (by have := HK.out; omega) (gtP l4 k)
  obtain ⟨Z, hZ⟩ : ∃ z, Y4.heap.size = z := ⟨_, rfl⟩
  rw [hZ] at z0 T0
  obtain ⟨Y5, e5, T5⟩ := T0.setB kb16 true
  obtain ⟨r5, hr5⟩ : ∃ z, (gtP l4 k).setB 16 kb16 true = z := ⟨_, rfl⟩
  rw [hr5] at T5
  have S5 : Hid (TPQ w Y5 h (some ⟨gA, oA, none⟩) n c4 l4 Z r5 ∧ l4.length = n ∧ (gtP l4 k).setB 16 kb16 true = r5 ∧ Se true (gtP l4 k)) := ⟨T5, S4.out.2.1, hr5, S4.out.2.2⟩
  clear T0 T5 b0 hr5 hkl S4
  have lt6 := S5.out.1.t.ld
  have lq6 := S5.out.1.v.pld
  go_wp2_with fail
  refine (with_any h (some ⟨gA, oA, none⟩) n c4 l4 k r5 Y5 S5.out.1.t.sl hn1 HK.out).mono ?_
  rintro _ T6 ⟨p6, e6, rfl, f6, q6, d6⟩
  have M6 : Hid (TPQ w T6 h (some ⟨gA, oA, none⟩) n c4 l4 Z r5 ∧ SlAt T6 (some ⟨p6, 0, none⟩) n e6 (l4.set k r5)) := ⟨S5.out.1.below d6, q6⟩
  clear f6 d6 q6 lt6 lq6
  go_wp2_with fail
  refine (settle_in h (some ⟨p6, 0, none⟩) n e6 (l4.set k r5) k T6 M6.out.2 hn1 HK.out).mono ?_
  rintro _ X6 ⟨a6, c6, rfl, fr6, s6, b6⟩
  obtain ⟨l6, hl6⟩ : ∃ z, setL 6 (l4.set k r5) k = z := ⟨_, rfl⟩
  rw [hl6] at s6
  obtain ⟨Y6, y6, tq6, gg6⟩ := (M6.out.1.below b6).t.st s6
  have S6 : Hid (TQ w Y6 w.heap.size h a6 n c6 l6 ∧ l6.length = n ∧ Fa 3 (gtP l6 k)) := ⟨tq6, by rw [← hl6]; rw [setL_len, List.length_set]; exact S5.out.2.1, by rw [← hl6]; rw [setL_at _ _ _ (by rw [List.length_set, S5.out.2.1]; exact HK.out), gtP_put (by rw [S5.out.2.1]; exact HK.out)]; rw [← S5.out.2.2.1]; exact f_fall S5.out.2.2.2⟩
  have RZ6 : Hid (RvAt Y6 Z 53 r5.cs ∧ w.heap.size ≤ Z ∧ Z < Y6.heap.size) := by
    have q := ((M6.out.1.below b6).v.keptBut gg6 (by have := (M6.out.1.below b6).v.apart (M6.out.1.below b6).t.var (by decide); simpa using this))
    exact ⟨q, M6.out.1.hz, q.lt⟩
  clear s6 b6 tq6 gg6 hl6 fr6
  obtain ⟨gB, oB, hB⟩ := S6.out.1.sl.some' (by have := HK.out; omega)
  subst hB
  have d16 := S6.out.1.var.t16
  have hkl : k < l6.length := by rw [S6.out.2.1]; exact HK.out
  have d76 := S6.out.1.sl.cell (gtP_at hkl) ((gtP l6 k).num (j := 76) (k := .i64) rfl) (by omega)
  rw [S6.out.2.2.2.2.1] at d76
  have d23 := S6.out.1.sl.cell (gtP_at hkl) ((gtP l6 k).bit (j := 23) rfl) (by omega)
  rw [S6.out.2.2.2.1] at d23
  clear hkl S5 M6 c16 lp c76 c23 y4 e5 z0 hZ
  go_wp2_with fail
  refine wp_loop_rounds 4 ?_
  clear y6 d16 d76 d23
  rw [rounds_succ]
  have lt7 := S6.out.1.ld
  go_wp2_with fail
  refine (rtick_any h (some ⟨gB, oB, none⟩) n c6 l6 Y6 S6.out.1.sl hn1).mono ?_
  rintro _ T7 ⟨v7, rfl, o7, d7⟩
  obtain ⟨p7, e7, hv7, q7, fo7⟩ := o7.form
  rw [List.length_map, S6.out.2.1] at hv7 q7
  subst hv7
  have M7 : Hid (TQ w T7 w.heap.size h (some ⟨gB, oB, none⟩) n c6 l6 ∧ SlAt T7 p7 n e7 (l6.map tickP)) := ⟨S6.out.1.below d7, q7⟩
  have RZT7 : Hid (RvAt T7 Z 53 r5.cs) := RZ6.out.1.below d7
  have NZ7 : Hid (∀ x, p7 = some x → x.block ≠ Z) := fun x hx => by have q1 := (fo7 x hx).1; have q2 := RZ6.out.1.lt; omega
  clear o7 q7 lt7
  go_wp2_with fail
  refine (settle_in h p7 n e7 (l6.map tickP) k T7 M7.out.2 hn1 HK.out).mono ?_
  rintro _ X7 ⟨a7, c7, rfl, fr7, s7, b7⟩
  obtain ⟨l7, hl7⟩ : ∃ z, setL 6 (l6.map tickP) k = z := ⟨_, rfl⟩
  rw [hl7] at s7
  obtain ⟨Y7, y7, tq7, gg7⟩ := (M7.out.1.below b7).st s7
  have S7 : Hid (TQ w Y7 w.heap.size h a7 n c7 l7 ∧ l7.length = n ∧ Fa 2 (gtP l7 k)) := ⟨tq7, by rw [← hl7]; rw [setL_len, List.length_map]; exact S6.out.2.1, by rw [← hl7]; rw [setL_at _ _ _ (by rw [List.length_map, S6.out.2.1]; exact HK.out), gtP_map (by rw [S6.out.2.1]; exact HK.out)]; exact f_fa (j := 2) S6.out.2.2 (by decide)⟩
  have RZ7 : Hid (RvAt Y7 Z 53 r5.cs ∧ w.heap.size ≤ Z) := ⟨(RZT7.out.below b7).keptBut gg7 (by have := (RZT7.out.below b7).apart (M7.out.1.below b7).var (by decide); simpa using this), RZ6.out.2.1⟩
  have NY7 : Hid (∀ x, a7 = some x → x.block ≠ Z) := fun x hx => by
    rcases fr7 with q | q
    · exact NZ7.out x (by rw [← q]; exact hx)
    · have q1 := q x hx; have q2 := RZT7.out.lt; omega
  clear s7 b7 tq7 gg7 hl7 fr7
  go_wp2_with fail
  clear S6 M7 RZT7 RZ6
  rw [rounds_succ]
  have lt8 := S7.out.1.ld
  go_wp2_with fail
  refine (rtick_any h a7 n c7 l7 Y7 S7.out.1.sl hn1).mono ?_
  rintro _ T8 ⟨v8, rfl, o8, d8⟩
  obtain ⟨p8, e8, hv8, q8, fo8⟩ := o8.form
  rw [List.length_map, S7.out.2.1] at hv8 q8
  subst hv8
  have M8 : Hid (TQ w T8 w.heap.size h a7 n c7 l7 ∧ SlAt T8 p8 n e8 (l7.map tickP)) := ⟨S7.out.1.below d8, q8⟩
  have RZT8 : Hid (RvAt T8 Z 53 r5.cs) := RZ7.out.1.below d8
  have NZ8 : Hid (∀ x, p8 = some x → x.block ≠ Z) := fun x hx => by have q1 := (fo8 x hx).1; have q2 := RZ7.out.1.lt; omega
  clear o8 q8 lt8
  go_wp2_with fail
  refine (settle_in h p8 n e8 (l7.map tickP) k T8 M8.out.2 hn1 HK.out).mono ?_
  rintro _ X8 ⟨a8, c8, rfl, fr8, s8, b8⟩
  obtain ⟨l8, hl8⟩ : ∃ z, setL 6 (l7.map tickP) k = z := ⟨_, rfl⟩
  rw [hl8] at s8
  obtain ⟨Y8, y8, tq8, gg8⟩ := (M8.out.1.below b8).st s8
  have S8 : Hid (TQ w Y8 w.heap.size h a8 n c8 l8 ∧ l8.length = n ∧ Fa 1 (gtP l8 k)) := ⟨tq8, by rw [← hl8]; rw [setL_len, List.length_map]; exact S7.out.2.1, by rw [← hl8]; rw [setL_at _ _ _ (by rw [List.length_map, S7.out.2.1]; exact HK.out), gtP_map (by rw [S7.out.2.1]; exact HK.out)]; exact f_fa (j := 1) S7.out.2.2 (by decide)⟩
  have RZ8 : Hid (RvAt Y8 Z 53 r5.cs ∧ w.heap.size ≤ Z) := ⟨(RZT8.out.below b8).keptBut gg8 (by have := (RZT8.out.below b8).apart (M8.out.1.below b8).var (by decide); simpa using this), RZ7.out.2⟩
  have NY8 : Hid (∀ x, a8 = some x → x.block ≠ Z) := fun x hx => by
    rcases fr8 with q | q
    · exact NZ8.out x (by rw [← q]; exact hx)
    · have q1 := q x hx; have q2 := RZT8.out.lt; omega
  clear s8 b8 tq8 gg8 hl8 fr8
  go_wp2_with fail
  clear y7 S7 M8 RZT8 RZ7
  rw [rounds_succ]
  have lt9 := S8.out.1.ld
  go_wp2_with fail
  refine (rtick_any h a8 n c8 l8 Y8 S8.out.1.sl hn1).mono ?_
  rintro _ T9 ⟨v9, rfl, o9, d9⟩
  obtain ⟨p9, e9, hv9, q9, fo9⟩ := o9.form
  rw [List.length_map, S8.out.2.1] at hv9 q9
  subst hv9
  have M9 : Hid (TQ w T9 w.heap.size h a8 n c8 l8 ∧ SlAt T9 p9 n e9 (l8.map tickP)) := ⟨S8.out.1.below d9, q9⟩
  have RZT9 : Hid (RvAt T9 Z 53 r5.cs) := RZ8.out.1.below d9
  have NZ9 : Hid (∀ x, p9 = some x → x.block ≠ Z) := fun x hx => by have q1 := (fo9 x hx).1; have q2 := RZ8.out.1.lt; omega
  clear o9 q9 lt9
  go_wp2_with fail
  refine (settle_in h p9 n e9 (l8.map tickP) k T9 M9.out.2 hn1 HK.out).mono ?_
  rintro _ X9 ⟨a9, c9, rfl, fr9, s9, b9⟩
  obtain ⟨l9, hl9⟩ : ∃ z, setL 6 (l8.map tickP) k = z := ⟨_, rfl⟩
  rw [hl9] at s9
  obtain ⟨Y9, y9, tq9, gg9⟩ := (M9.out.1.below b9).st s9
  have S9 : Hid (TQ w Y9 w.heap.size h a9 n c9 l9 ∧ l9.length = n ∧ Se false (gtP l9 k)) := ⟨tq9, by rw [← hl9]; rw [setL_len, List.length_map]; exact S8.out.2.1, by rw [← hl9]; rw [setL_at _ _ _ (by rw [List.length_map, S8.out.2.1]; exact HK.out), gtP_map (by rw [S8.out.2.1]; exact HK.out)]; exact f_back S8.out.2.2⟩
  have RZ9 : Hid (RvAt Y9 Z 53 r5.cs ∧ w.heap.size ≤ Z) := ⟨(RZT9.out.below b9).keptBut gg9 (by have := (RZT9.out.below b9).apart (M9.out.1.below b9).var (by decide); simpa using this), RZ8.out.2⟩
  have NY9 : Hid (∀ x, a9 = some x → x.block ≠ Z) := fun x hx => by
    rcases fr9 with q | q
    · exact NZ9.out x (by rw [← q]; exact hx)
    · have q1 := q x hx; have q2 := RZT9.out.lt; omega
  clear s9 b9 tq9 gg9 hl9 fr9
  go_wp2_with fail
  clear y8 S8 M9 RZT9 RZ8
  rw [rounds_succ]
  obtain ⟨gC, oC, hC⟩ := S9.out.1.sl.some' (by have := HK.out; omega)
  subst hC
  have c16 := S9.out.1.var.t16
  have hkl : k < l9.length := by rw [S9.out.2.1]; exact HK.out
  have lp := S9.out.1.sl.ld (gtP_at hkl)
  have S9' : TPQ w Y9 h (some ⟨gC, oC, none⟩) n c9 l9 Z r5 := ⟨S9.out.1, RZ9.out.1, RZ9.out.2, NY9.out⟩
  obtain ⟨R1, z1, T1⟩ := S9'.st (gtP l9 k)
  obtain ⟨Y10, e10, T10⟩ := T1.setB kb15 true
  obtain ⟨r10, hr10⟩ : ∃ z, (gtP l9 k).setB 15 kb15 true = z := ⟨_, rfl⟩
  rw [hr10] at T10
  have S10 : Hid (TPQ w Y10 h (some ⟨gC, oC, none⟩) n c9 l9 Z r10 ∧ l9.length = n ∧ (gtP l9 k).setB 15 kb15 true = r10 ∧ Se false (gtP l9 k)) := ⟨T10, S9.out.2.1, hr10, S9.out.2.2⟩
  clear S9' T1 T10 hr10 hkl S9 RZ9
  have lt11 := S10.out.1.t.ld
  have lq11 := S10.out.1.v.pld
  go_wp2_with fail
  refine (with_any h (some ⟨gC, oC, none⟩) n c9 l9 k r10 Y10 S10.out.1.t.sl hn1 HK.out).mono ?_
  rintro _ T11 ⟨p11, e11, rfl, f11, q11, d11⟩
  have M11 : Hid (TPQ w T11 h (some ⟨gC, oC, none⟩) n c9 l9 Z r10 ∧ SlAt T11 (some ⟨p11, 0, none⟩) n e11 (l9.set k r10)) := ⟨S10.out.1.below d11, q11⟩
  clear f11 d11 q11 lt11 lq11
  go_wp2_with fail
  refine (settle_in h (some ⟨p11, 0, none⟩) n e11 (l9.set k r10) k T11 M11.out.2 hn1 HK.out).mono ?_
  rintro _ X11 ⟨a11, c11, rfl, fr11, s11, b11⟩
  obtain ⟨l11, hl11⟩ : ∃ z, setL 6 (l9.set k r10) k = z := ⟨_, rfl⟩
  rw [hl11] at s11
  obtain ⟨Y11, y11, tq11, gg11⟩ := (M11.out.1.below b11).t.st s11
  have S11 : Hid (TQ w Y11 w.heap.size h a11 n c11 l11 ∧ l11.length = n ∧ Ck 3 (gtP l11 k)) := ⟨tq11, by rw [← hl11]; rw [setL_len, List.length_set]; exact S10.out.2.1, by rw [← hl11]; rw [setL_at _ _ _ (by rw [List.length_set, S10.out.2.1]; exact HK.out), gtP_put (by rw [S10.out.2.1]; exact HK.out)]; rw [← S10.out.2.2.1]; exact f_end S10.out.2.2.2⟩
  have RZ11 : Hid (RvAt Y11 Z 53 r10.cs ∧ w.heap.size ≤ Z ∧ Z < Y11.heap.size) := by
    have q := ((M11.out.1.below b11).v.keptBut gg11 (by have := (M11.out.1.below b11).v.apart (M11.out.1.below b11).t.var (by decide); simpa using this))
    exact ⟨q, M11.out.1.hz, q.lt⟩
  clear s11 b11 tq11 gg11 hl11 fr11
  obtain ⟨gD, oD, hD⟩ := S11.out.1.sl.some' (by have := HK.out; omega)
  subst hD
  have d16 := S11.out.1.var.t16
  have hkl : k < l11.length := by rw [S11.out.2.1]; exact HK.out
  have d76 := S11.out.1.sl.cell (gtP_at hkl) ((gtP l11 k).num (j := 76) (k := .i64) rfl) (by omega)
  rw [S11.out.2.2.2.2.1] at d76
  have d23 := S11.out.1.sl.cell (gtP_at hkl) ((gtP l11 k).bit (j := 23) rfl) (by omega)
  rw [S11.out.2.2.2.1] at d23
  have FF : Hid (Below w.heap.size w Y11) := S11.out.1.bel
  clear hkl S10 M11 c16 lp y9 e10 z1 S11 RZ11
  go_wp2_with fail
  refine (awake_any _).mono ?_
  rintro _ VA ⟨rfl, bA⟩
  have FA : Hid (Below w.heap.size w VA) := below_over FF.out bA
  clear bA
  go_wp2
  go_ret
  exact ⟨rfl, FA.out⟩
end Go.Proofs.Ytllmadgonobdnaa
