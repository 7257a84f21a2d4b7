/-
  What a message does, by the definition: the walks of superior and receives, each for every port.
-/
import Derived.Test.YtlneoegmlcbidaaRPimA
namespace Go.Proofs.Ytlneoegmlcbidaa
set_option linter.unusedVariables false
set_option maxRecDepth 4000
set_option linter.unusedSimpArgs false
open Go.RowKit

attribute [local go_sem ↓] ldP stP ldM stM ldTm stTm ldV stV stB stU stI stW
attribute [local go_sem ↓] alP alM
attribute [local go_sem] alP_run alM_run
set_option maxHeartbeats 4000000 in
theorem rsup_any (p : Pt) (w : World) :
    Calls Try.prog 46 #[.agg p.cs] w fun r w' => r = .returned (.agg (supP p).cs) ∧ Below w.heap.size w w' := by
  obtain ⟨W0, hW, S0⟩ := PS.start w p
  obtain ⟨W1, s1, S1⟩ := S0.setB kb4 false
  obtain ⟨W2, s2, S2'⟩ := S1.setB kb13 false
  have S2 : PS w W2 w.heap.size (w.heap.size + 1) (d1P p) := S2'
  have l2 := S2.ld
  have H2 : Hid (PS w W2 w.heap.size (w.heap.size + 1) (d1P p)) := S2
  clear S0 S1 S2' S2
  go_enter Try.func46, Try.ntmps46
  go_wp2_with fail
  refine (rprop_any (d1P p) W2).mono ?_
  rintro _ V1 ⟨rfl, b1⟩
  have H3 : Hid (PS w V1 w.heap.size (w.heap.size + 1) (d1P p)) := H2.out.below b1
  clear b1 l2 s1 s2 hW H2
  go_wp2_with fail
  refine (rflag_any (propP (d1P p)) V1).mono ?_
  rintro _ V2 ⟨rfl, b2⟩
  obtain ⟨A, hA⟩ : ∃ A, flagP (propP (d1P p)) = A := ⟨_, rfl⟩
  have EA : Hid (supP p = d4P (whiP (timP (prioP (synP (agrP (d2P A))))))) := by rw [← hA]; rfl
  rw [hA]
  obtain ⟨V3, s3, S3⟩ := (H3.out.below b2).st A
  have c3 := S3.var.bit (j := 3) rfl
  have l3 := S3.ld
  have H4 : Hid (PS w V3 w.heap.size (w.heap.size + 1) A) := S3
  clear S3 H3 b2 hA
  cases h : A.bt 3
  · rw [h] at c3
    obtain ⟨V4, s4, S4'⟩ := H4.out.setB kb3 false
    have S4 : PS w V4 w.heap.size (w.heap.size + 1) (d2P A) := by rw [show d2P A = A.setB 3 kb3 false from setB_eq A kb3 (by rw [h]; rfl)]; exact S4'
    clear S4' h H4
    have l4 := S4.ld
    have H5 : Hid (PS w V4 w.heap.size (w.heap.size + 1) (d2P A)) := S4
    clear S4
    go_wp2_with fail
    refine (ragr_any (d2P A) V4).mono ?_
    rintro _ V5 ⟨rfl, b5⟩
    obtain ⟨C, hC⟩ : ∃ C, agrP (d2P A) = C := ⟨_, rfl⟩
    have EC : Hid (supP p = d4P (whiP (timP (prioP (synP C))))) := by rw [← hC]; exact EA.out
    rw [hC]
    obtain ⟨V6, s6, S6⟩ := (H5.out.below b5).st C
    have c25 := S6.var.bit (j := 25) rfl
    have c4 := S6.var.bit (j := 4) rfl
    obtain ⟨x, hx⟩ : ∃ x, (C.bt 25 && C.bt 4) = x := ⟨_, rfl⟩
    obtain ⟨V7, s7, S7'⟩ := S6.setB kb25 x
    have S7 : PS w V7 w.heap.size (w.heap.size + 1) (synP C) := by rw [show synP C = C.setB 25 kb25 x from setB_eq C kb25 hx]; exact S7'
    have l7 := S7.ld
    have H6 : Hid (PS w V7 w.heap.size (w.heap.size + 1) (synP C)) := S7
    clear S6 S7 S7' hC b5 H5 l4 s4
    cases h25 : C.bt 25
    all_goals
      rw [h25] at c25 hx
      simp only [Bool.false_and, Bool.true_and] at hx
      subst hx
      clear h25
      go_wp2_with fail
      refine (rprio_any (synP C) V7).mono ?_
      rintro _ V8 ⟨rfl, b8⟩
      have H7 : Hid (PS w V8 w.heap.size (w.heap.size + 1) (synP C)) := H6.out.below b8
      clear b8 l7 s7 s6 c25 c4
      go_wp2_with fail
      refine (rtim_any (prioP (synP C)) V8).mono ?_
      rintro _ V9 ⟨rfl, b9⟩
      have H8 : Hid (PS w V9 w.heap.size (w.heap.size + 1) (synP C)) := H7.out.below b9
      clear b9
      go_wp2_with fail
      refine (rwhi_any (timP (prioP (synP C))) V9).mono ?_
      rintro _ V10 ⟨rfl, b10⟩
      obtain ⟨E, hE⟩ : ∃ E, whiP (timP (prioP (synP C))) = E := ⟨_, rfl⟩
      have EE : Hid (supP p = d4P E) := by rw [← hE]; exact EC.out
      rw [hE]
      obtain ⟨V11, s11, S11⟩ := (H8.out.below b10).st E
      obtain ⟨V12, s12, S12⟩ := S11.setN infoI kn29 wi3
      obtain ⟨V13, s13, S13⟩ := S12.setB kb21 true
      obtain ⟨V14, s14, S14'⟩ := S13.setB kb22 false
      have S14 : PS w V14 w.heap.size (w.heap.size + 1) (d4P E) := S14'
      have l14 := S14.ld
      obtain ⟨U, sU, G0⟩ := S14.tell (d4P E)
      have G : Hid (RvAt U (w.heap.size + 1) 47 (supP p).cs ∧ Below w.heap.size w U) := by
        show RvAt U _ _ (supP p).cs ∧ _
        rw [EE.out]
        exact G0
      clear G0 S11 S12 S13 S14 S14' b10 hE H6 H7 H8 EA EC EE
      go_wp2_with (with_reducible exact ret_port Try.results46 (by with_unfolding_all rfl) (by with_unfolding_all rfl) G.out.1 ⟨rfl, G.out.2⟩)
  · rw [h] at c3
    go_wp2_with fail
    refine (rbos_any A 3 V3).mono ?_
    rintro _ V3' ⟨rfl, b3⟩
    obtain ⟨V4, s4, S4'⟩ := (H4.out.below b3).setB kb3 (bosP A 3)
    have S4 : PS w V4 w.heap.size (w.heap.size + 1) (d2P A) := by rw [show d2P A = A.setB 3 kb3 (bosP A 3) from setB_eq A kb3 (by rw [h]; rfl)]; exact S4'
    clear S4' h H4 b3 l3 s3 c3
    have l4 := S4.ld
    have H5 : Hid (PS w V4 w.heap.size (w.heap.size + 1) (d2P A)) := S4
    clear S4
    go_wp2_with fail
    refine (ragr_any (d2P A) V4).mono ?_
    rintro _ V5 ⟨rfl, b5⟩
    obtain ⟨C, hC⟩ : ∃ C, agrP (d2P A) = C := ⟨_, rfl⟩
    have EC : Hid (supP p = d4P (whiP (timP (prioP (synP C))))) := by rw [← hC]; exact EA.out
    rw [hC]
    obtain ⟨V6, s6, S6⟩ := (H5.out.below b5).st C
    have c25 := S6.var.bit (j := 25) rfl
    have c4 := S6.var.bit (j := 4) rfl
    obtain ⟨x, hx⟩ : ∃ x, (C.bt 25 && C.bt 4) = x := ⟨_, rfl⟩
    obtain ⟨V7, s7, S7'⟩ := S6.setB kb25 x
    have S7 : PS w V7 w.heap.size (w.heap.size + 1) (synP C) := by rw [show synP C = C.setB 25 kb25 x from setB_eq C kb25 hx]; exact S7'
    have l7 := S7.ld
    have H6 : Hid (PS w V7 w.heap.size (w.heap.size + 1) (synP C)) := S7
    clear S6 S7 S7' hC b5 H5 l4 s4
    cases h25 : C.bt 25
    all_goals
      rw [h25] at c25 hx
      simp only [Bool.false_and, Bool.true_and] at hx
      subst hx
      clear h25
      go_wp2_with fail
      refine (rprio_any (synP C) V7).mono ?_
      rintro _ V8 ⟨rfl, b8⟩
      have H7 : Hid (PS w V8 w.heap.size (w.heap.size + 1) (synP C)) := H6.out.below b8
      clear b8 l7 s7 s6 c25 c4
      go_wp2_with fail
      refine (rtim_any (prioP (synP C)) V8).mono ?_
      rintro _ V9 ⟨rfl, b9⟩
      have H8 : Hid (PS w V9 w.heap.size (w.heap.size + 1) (synP C)) := H7.out.below b9
      clear b9
      go_wp2_with fail
      refine (rwhi_any (timP (prioP (synP C))) V9).mono ?_
      rintro _ V10 ⟨rfl, b10⟩
      obtain ⟨E, hE⟩ : ∃ E, whiP (timP (prioP (synP C))) = E := ⟨_, rfl⟩
      have EE : Hid (supP p = d4P E) := by rw [← hE]; exact EC.out
      rw [hE]
      obtain ⟨V11, s11, S11⟩ := (H8.out.below b10).st E
      obtain ⟨V12, s12, S12⟩ := S11.setN infoI kn29 wi3
      obtain ⟨V13, s13, S13⟩ := S12.setB kb21 true
      obtain ⟨V14, s14, S14'⟩ := S13.setB kb22 false
      have S14 : PS w V14 w.heap.size (w.heap.size + 1) (d4P E) := S14'
      have l14 := S14.ld
      obtain ⟨U, sU, G0⟩ := S14.tell (d4P E)
      have G : Hid (RvAt U (w.heap.size + 1) 47 (supP p).cs ∧ Below w.heap.size w U) := by
        show RvAt U _ _ (supP p).cs ∧ _
        rw [EE.out]
        exact G0
      clear G0 S11 S12 S13 S14 S14' b10 hE H6 H7 H8 EA EC EE
      go_wp2_with (with_reducible exact ret_port Try.results46 (by with_unfolding_all rfl) (by with_unfolding_all rfl) G.out.1 ⟨rfl, G.out.2⟩)
set_option maxHeartbeats 4000000 in
theorem rrec_any (p : Pt) (w : World) :
    Calls Try.prog 36 #[.agg p.cs] w fun r w' => r = .returned (.agg (recP p).cs) ∧ Below w.heap.size w w' := by
  obtain ⟨W0, hW, S0⟩ := PS.start w p
  have l0 := S0.ld
  have H0 : Hid (PS w W0 w.heap.size (w.heap.size + 1) p) := S0
  clear S0
  have E : Hid (recP p = (if infP p = 1 then supP p else if infP p = 2 then whiP (agrP (flagP (propP p))) else if infP p = 3 then dispP p else if infP p = 4 then flagP (agrP p) else othP p).setB 14 kb14 false) := rfl
  have IN : Hid (infP p = 0 ∨ infP p = 1 ∨ infP p = 2 ∨ infP p = 3 ∨ infP p = 4) := by
    show _ ∨ _
    unfold infP ofDes
    (repeat' split) <;> omega
  go_enter Try.func36, Try.ntmps36
  go_wp2_with fail
  refine (rinf_any p W0).mono ?_
  rintro _ W1 ⟨rfl, b1⟩
  have S1 := H0.out.below b1
  have l1 := S1.ld
  have c48 := S1.var.num (j := 48) (k := .i64) rfl
  have H1 : Hid (PS w W1 w.heap.size (w.heap.size + 1) p) := S1
  clear b1 l0 hW H0 S1
  rcases IN.out with h | h | h | h | h
  · by_cases h2 : p.nm 48 = 2
    · have EQ : Hid (recP p = (flagP p).setB 14 kb14 false) := show recP p = _ by rw [E.out, h, if_neg (by decide), if_neg (by decide), if_neg (by decide), if_neg (by decide), othP, if_pos h2]
      rw [h]
      rw [h2] at c48
      clear h E IN h2
      go_wp2_with fail
      refine (rflag_any p W1).mono ?_
      rintro _ X0 ⟨rfl, bb⟩
      have K0 : Hid (PS w X0 w.heap.size (w.heap.size + 1) p) := H1.out.below bb
      clear bb l1 c48 H1
      obtain ⟨Y, sY, SY⟩ := K0.out.st (flagP p)
      obtain ⟨U1, t1, T1⟩ := SY.setB kb14 false
      have lU := T1.ld
      obtain ⟨U, sU, G0⟩ := T1.tell ((flagP p).setB 14 kb14 false)
      have G : Hid (RvAt U (w.heap.size + 1) 47 (recP p).cs ∧ Below w.heap.size w U) := by
        show RvAt U _ _ (recP p).cs ∧ _
        rw [EQ.out]
        exact G0
      clear G0 T1 SY K0
      go_wp2_with (with_reducible exact ret_port Try.results36 (by with_unfolding_all rfl) (by with_unfolding_all rfl) G.out.1 ⟨rfl, G.out.2⟩)
    · have EQ : Hid (recP p = p.setB 14 kb14 false) := show recP p = _ by rw [E.out, h, if_neg (by decide), if_neg (by decide), if_neg (by decide), if_neg (by decide), othP, if_neg h2]
      rw [h]
      clear h E IN
      obtain ⟨U1, t1, T1⟩ := H1.out.setB kb14 false
      have lU := T1.ld
      obtain ⟨U, sU, G0⟩ := T1.tell ((p).setB 14 kb14 false)
      have G : Hid (RvAt U (w.heap.size + 1) 47 (recP p).cs ∧ Below w.heap.size w U) := by
        show RvAt U _ _ (recP p).cs ∧ _
        rw [EQ.out]
        exact G0
      clear G0 T1 H1 l1
      go_wp2_with (with_reducible exact ret_port Try.results36 (by with_unfolding_all rfl) (by with_unfolding_all rfl) G.out.1 ⟨rfl, G.out.2⟩)
  · have EQ : Hid (recP p = (supP p).setB 14 kb14 false) := show recP p = _ by rw [E.out, h, if_pos rfl]
    rw [h]
    clear h E IN
    go_wp2_with fail
    refine (rsup_any (p) W1).mono ?_
    rintro _ X0 ⟨rfl, bb⟩
    have K0 : Hid (PS w X0 w.heap.size (w.heap.size + 1) p) := H1.out.below bb
    clear bb l1 c48 H1
    obtain ⟨Y, sY, SY⟩ := K0.out.st (supP p)
    obtain ⟨U1, t1, T1⟩ := SY.setB kb14 false
    have lU := T1.ld
    obtain ⟨U, sU, G0⟩ := T1.tell ((supP p).setB 14 kb14 false)
    have G : Hid (RvAt U (w.heap.size + 1) 47 (recP p).cs ∧ Below w.heap.size w U) := by
      show RvAt U _ _ (recP p).cs ∧ _
      rw [EQ.out]
      exact G0
    clear G0 T1 SY K0
    go_wp2_with (with_reducible exact ret_port Try.results36 (by with_unfolding_all rfl) (by with_unfolding_all rfl) G.out.1 ⟨rfl, G.out.2⟩)
  · have EQ : Hid (recP p = (whiP (agrP (flagP (propP p)))).setB 14 kb14 false) := show recP p = _ by rw [E.out, h, if_neg (by decide), if_pos rfl]
    rw [h]
    clear h E IN
    go_wp2_with fail
    refine (rprop_any (p) W1).mono ?_
    rintro _ X0 ⟨rfl, bb⟩
    have K0 : Hid (PS w X0 w.heap.size (w.heap.size + 1) p) := H1.out.below bb
    clear bb l1 c48 H1
    go_wp2_with fail
    refine (rflag_any (propP p) X0).mono ?_
    rintro _ X1 ⟨rfl, bb⟩
    have K1 : Hid (PS w X1 w.heap.size (w.heap.size + 1) p) := K0.out.below bb
    clear bb K0
    go_wp2_with fail
    refine (ragr_any (flagP (propP p)) X1).mono ?_
    rintro _ X2 ⟨rfl, bb⟩
    have K2 : Hid (PS w X2 w.heap.size (w.heap.size + 1) p) := K1.out.below bb
    clear bb K1
    go_wp2_with fail
    refine (rwhi_any (agrP (flagP (propP p))) X2).mono ?_
    rintro _ X3 ⟨rfl, bb⟩
    have K3 : Hid (PS w X3 w.heap.size (w.heap.size + 1) p) := K2.out.below bb
    clear bb K2
    obtain ⟨Y, sY, SY⟩ := K3.out.st (whiP (agrP (flagP (propP p))))
    obtain ⟨U1, t1, T1⟩ := SY.setB kb14 false
    have lU := T1.ld
    obtain ⟨U, sU, G0⟩ := T1.tell ((whiP (agrP (flagP (propP p)))).setB 14 kb14 false)
    have G : Hid (RvAt U (w.heap.size + 1) 47 (recP p).cs ∧ Below w.heap.size w U) := by
      show RvAt U _ _ (recP p).cs ∧ _
      rw [EQ.out]
      exact G0
    clear G0 T1 SY K3
    go_wp2_with (with_reducible exact ret_port Try.results36 (by with_unfolding_all rfl) (by with_unfolding_all rfl) G.out.1 ⟨rfl, G.out.2⟩)
  · have EQ : Hid (recP p = (dispP p).setB 14 kb14 false) := show recP p = _ by rw [E.out, h, if_neg (by decide), if_neg (by decide), if_pos rfl]
    rw [h]
    clear h E IN
    go_wp2_with fail
    refine (rdisp_any (p) W1).mono ?_
    rintro _ X0 ⟨rfl, bb⟩
    have K0 : Hid (PS w X0 w.heap.size (w.heap.size + 1) p) := H1.out.below bb
    clear bb l1 c48 H1
    obtain ⟨Y, sY, SY⟩ := K0.out.st (dispP p)
    obtain ⟨U1, t1, T1⟩ := SY.setB kb14 false
    have lU := T1.ld
    obtain ⟨U, sU, G0⟩ := T1.tell ((dispP p).setB 14 kb14 false)
    have G : Hid (RvAt U (w.heap.size + 1) 47 (recP p).cs ∧ Below w.heap.size w U) := by
      show RvAt U _ _ (recP p).cs ∧ _
      rw [EQ.out]
      exact G0
    clear G0 T1 SY K0
    go_wp2_with (with_reducible exact ret_port Try.results36 (by with_unfolding_all rfl) (by with_unfolding_all rfl) G.out.1 ⟨rfl, G.out.2⟩)
  · have EQ : Hid (recP p = (flagP (agrP p)).setB 14 kb14 false) := show recP p = _ by rw [E.out, h, if_neg (by decide), if_neg (by decide), if_neg (by decide), if_pos rfl]
    rw [h]
    clear h E IN
    go_wp2_with fail
    refine (ragr_any (p) W1).mono ?_
    rintro _ X0 ⟨rfl, bb⟩
    have K0 : Hid (PS w X0 w.heap.size (w.heap.size + 1) p) := H1.out.below bb
    clear bb l1 c48 H1
    go_wp2_with fail
    refine (rflag_any (agrP p) X0).mono ?_
    rintro _ X1 ⟨rfl, bb⟩
    have K1 : Hid (PS w X1 w.heap.size (w.heap.size + 1) p) := K0.out.below bb
    clear bb K0
    obtain ⟨Y, sY, SY⟩ := K1.out.st (flagP (agrP p))
    obtain ⟨U1, t1, T1⟩ := SY.setB kb14 false
    have lU := T1.ld
    obtain ⟨U, sU, G0⟩ := T1.tell ((flagP (agrP p)).setB 14 kb14 false)
    have G : Hid (RvAt U (w.heap.size + 1) 47 (recP p).cs ∧ Below w.heap.size w U) := by
      show RvAt U _ _ (recP p).cs ∧ _
      rw [EQ.out]
      exact G0
    clear G0 T1 SY K1
    go_wp2_with (with_reducible exact ret_port Try.results36 (by with_unfolding_all rfl) (by with_unfolding_all rfl) G.out.1 ⟨rfl, G.out.2⟩)
end Go.Proofs.Ytlneoegmlcbidaa
