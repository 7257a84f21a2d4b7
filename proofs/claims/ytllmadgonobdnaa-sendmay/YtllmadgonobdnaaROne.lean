/-
  The definition: what becomes of a port's version: the walks of checks, senses and one, for every port.
-/
import Derived.Test.YtllmadgonobdnaaPur
namespace Go.Proofs.Ytllmadgonobdnaa
set_option linter.unusedVariables false
set_option maxRecDepth 4000
set_option linter.unusedSimpArgs false
open Go.RowKit

attribute [local go_sem ↓] ldP stP stB stU stW ldT stT st32 alP
attribute [local go_sem] alP_run
theorem rchk_any (p : Pt) (w : World) : Calls Try.prog 44 #[.agg p.cs] w fun r w' => r = .returned (.agg (chkP p).cs) ∧ Below w.heap.size w w' := by
  obtain ⟨W, hW, s0⟩ := PS.start w p
  obtain ⟨V1, e1, s1⟩ := s0.setB kb23 true
  obtain ⟨V2, e2, s2⟩ := s1.setU ku67 u3
  obtain ⟨V3, e3, s3⟩ := s2.setN infoS kn76 wi1
  have s3 : PS w V3 w.heap.size (w.heap.size + 1) (chkP p) := s3
  have lp := s3.ld
  obtain ⟨U, sU, rU, bU⟩ := s3.tell (chkP p)
  have G : Hid (RvAt U (w.heap.size + 1) 53 (chkP p).cs ∧ Below w.heap.size w U) := ⟨rU, bU⟩
  clear s0 s1 s2 s3 rU bU
  go_enter Try.func44, Try.ntmps44
  go_wp2_with (with_reducible exact ret_port Try.results44 rfl rfl G.out.1 ⟨rfl, G.out.2⟩)
theorem rsen_any (p : Pt) (w : World) : Calls Try.prog 45 #[.agg p.cs] w fun r w' => r = .returned (.agg (senP p).cs) ∧ Below w.heap.size w w' := by
  obtain ⟨W, hW, s0⟩ := PS.start w p
  obtain ⟨V1, e1, s1⟩ := s0.setB kb15 false
  obtain ⟨V2, e2, s2⟩ := s1.setB kb16 false
  obtain ⟨V3, e3, s3⟩ := s2.setN infoS kn76 wi3
  have s3 : PS w V3 w.heap.size (w.heap.size + 1) (senP p) := s3
  have lp := s3.ld
  obtain ⟨U, sU, rU, bU⟩ := s3.tell (senP p)
  have G : Hid (RvAt U (w.heap.size + 1) 53 (senP p).cs ∧ Below w.heap.size w U) := ⟨rU, bU⟩
  clear s0 s1 s2 s3 rU bU
  go_enter Try.func45, Try.ntmps45
  go_wp2_with (with_reducible exact ret_port Try.results45 rfl rfl G.out.1 ⟨rfl, G.out.2⟩)
set_option maxHeartbeats 8000000 in
theorem one_any (p : Pt) (w : World) : Calls Try.prog 31 #[.agg p.cs] w fun r w' => r = .returned (.tuple #[.agg (ppmQ p (ppmC p)).cs, .bool (decide (ppmC p ≠ 0))]) ∧ Below w.heap.size w w' := by
  obtain ⟨Q, hQ⟩ : ∃ z, ppmQ p (ppmC p) = z := ⟨_, rfl⟩
  obtain ⟨B, hB⟩ : ∃ z, decide (ppmC p ≠ 0) = z := ⟨_, rfl⟩
  rw [hQ, hB]
  have EQ : Hid (ppmQ p (ppmC p) = Q) := hQ
  have EB : Hid (decide (ppmC p ≠ 0) = B) := hB
  obtain ⟨W, hW, s0⟩ := PS.start w p
  have c76 := s0.var.num (j := 76) (k := .i64) rfl
  have c67 := s0.var.num (j := 67) (k := .u8) rfl
  have c2 := s0.var.bit (j := 2) rfl
  have c23 := s0.var.bit (j := 23) rfl
  have c15 := s0.var.bit (j := 15) rfl
  have c16 := s0.var.bit (j := 16) rfl
  have l0 := s0.ld
  have H : Hid (PS w W w.heap.size (w.heap.size + 1) p) := s0
  clear s0 hQ hB
  obtain ⟨N, hN⟩ : ∃ z, p.nm 76 = z := ⟨_, rfl⟩
  obtain ⟨M, hM⟩ : ∃ z, p.nm 67 = z := ⟨_, rfl⟩
  obtain ⟨b2, h2⟩ : ∃ z, p.bt 2 = z := ⟨_, rfl⟩
  obtain ⟨b23, h23⟩ : ∃ z, p.bt 23 = z := ⟨_, rfl⟩
  obtain ⟨b15, h15⟩ : ∃ z, p.bt 15 = z := ⟨_, rfl⟩
  obtain ⟨b16, h16⟩ : ∃ z, p.bt 16 = z := ⟨_, rfl⟩
  have HN : Hid (p.nm 76 = N) := hN
  have HM : Hid (p.nm 67 = M) := hM
  have H2 : Hid (p.bt 2 = b2) := h2
  have H23 : Hid (p.bt 23 = b23) := h23
  have H15 : Hid (p.bt 15 = b15) := h15
  have H16 : Hid (p.bt 16 = b16) := h16
  rw [hN] at c76
  rw [hM] at c67
  rw [h2] at c2
  rw [h23] at c23
  rw [h15] at c15
  rw [h16] at c16
  clear hN hM h2 h23 h15 h16
  by_cases hN1 : N = 1
  · subst hN1
    cases b2
    · by_cases hM3 : M = 3
      · subst hM3
        have EC : ppmC p = 0 := by unfold ppmC; simp [HN.out, HM.out, H2.out, H23.out, H15.out, H16.out]
        have EQ2 : Hid (p = Q) := by rw [← EQ.out, EC]; exact rfl
        have eb : B = false := by rw [← EB.out, EC]; rfl
        clear EB
        subst eb
        clear EC EQ HN HM H2 H23 H15 H16 
        obtain ⟨U, sU, rU, bU⟩ := H.out.tell p
        have G : Hid (RvAt U (w.heap.size + 1) 53 Q.cs ∧ Below w.heap.size w U) := by rw [← EQ2.out]; exact ⟨rU, bU⟩
        clear rU bU
        go_enter Try.func31, Try.ntmps31
        go_wp2_with (with_reducible exact ret_pb Try.results31 rfl rfl rfl G.out.1 ⟨rfl, G.out.2⟩)
      · have xM3 : (M == 3) = false := beq_eq_false_iff_ne.2 hM3
        have yM3 : (M != 3) = true := by simp [hM3]
        have EC : ppmC p = 1 := by unfold ppmC; simp [HN.out, HM.out, H2.out, H23.out, H15.out, H16.out, hM3]
        have EQ2 : Hid (chkP p = Q) := by rw [← EQ.out, EC]; exact rfl
        have eb : B = true := by rw [← EB.out, EC]; rfl
        clear EB
        subst eb
        clear EC EQ HN HM H2 H23 H15 H16 hM3
        go_enter Try.func31, Try.ntmps31
        go_wp2_with fail
        refine (rchk_any p W).mono ?_
        rintro _ W1 ⟨rfl, b1⟩
        obtain ⟨U, sU, rU, bU⟩ := (H.out.below b1).tell (chkP p)
        have G : Hid (RvAt U (w.heap.size + 1) 53 Q.cs ∧ Below w.heap.size w U) := by rw [← EQ2.out]; exact ⟨rU, bU⟩
        clear rU bU b1
        go_wp2_with (with_reducible exact ret_pb Try.results31 rfl rfl rfl G.out.1 ⟨rfl, G.out.2⟩)
    · by_cases hM0 : M = 0
      · subst hM0
        have EC : ppmC p = 2 := by unfold ppmC; simp [HN.out, HM.out, H2.out, H23.out, H15.out, H16.out]
        have EQ2 : Hid (senP p = Q) := by rw [← EQ.out, EC]; exact rfl
        have eb : B = true := by rw [← EB.out, EC]; rfl
        clear EB
        subst eb
        clear EC EQ HN HM H2 H23 H15 H16 
        go_enter Try.func31, Try.ntmps31
        go_wp2_with fail
        refine (rsen_any p W).mono ?_
        rintro _ W1 ⟨rfl, b1⟩
        obtain ⟨U, sU, rU, bU⟩ := (H.out.below b1).tell (senP p)
        have G : Hid (RvAt U (w.heap.size + 1) 53 Q.cs ∧ Below w.heap.size w U) := by rw [← EQ2.out]; exact ⟨rU, bU⟩
        clear rU bU b1
        go_wp2_with (with_reducible exact ret_pb Try.results31 rfl rfl rfl G.out.1 ⟨rfl, G.out.2⟩)
      · have xM0 : (M == 0) = false := beq_eq_false_iff_ne.2 hM0
        have yM0 : (M != 0) = true := by simp [hM0]
        have EC : ppmC p = 0 := by unfold ppmC; simp [HN.out, HM.out, H2.out, H23.out, H15.out, H16.out, hM0]
        have EQ2 : Hid (p = Q) := by rw [← EQ.out, EC]; exact rfl
        have eb : B = false := by rw [← EB.out, EC]; rfl
        clear EB
        subst eb
        clear EC EQ HN HM H2 H23 H15 H16 hM0
        obtain ⟨U, sU, rU, bU⟩ := H.out.tell p
        have G : Hid (RvAt U (w.heap.size + 1) 53 Q.cs ∧ Below w.heap.size w U) := by rw [← EQ2.out]; exact ⟨rU, bU⟩
        clear rU bU
        go_enter Try.func31, Try.ntmps31
        go_wp2_with (with_reducible exact ret_pb Try.results31 rfl rfl rfl G.out.1 ⟨rfl, G.out.2⟩)
  · have xN1 : (N == 1) = false := beq_eq_false_iff_ne.2 hN1
    have yN1 : (N != 1) = true := by simp [hN1]
    by_cases hN3 : N = 3
    · subst hN3
      clear xN1 yN1
      cases b2
      · have EC : ppmC p = 1 := by unfold ppmC; simp [HN.out, HM.out, H2.out, H23.out, H15.out, H16.out]
        have EQ2 : Hid (chkP p = Q) := by rw [← EQ.out, EC]; exact rfl
        have eb : B = true := by rw [← EB.out, EC]; rfl
        clear EB
        subst eb
        clear EC EQ HN HM H2 H23 H15 H16 
        go_enter Try.func31, Try.ntmps31
        go_wp2_with fail
        refine (rchk_any p W).mono ?_
        rintro _ W1 ⟨rfl, b1⟩
        obtain ⟨U, sU, rU, bU⟩ := (H.out.below b1).tell (chkP p)
        have G : Hid (RvAt U (w.heap.size + 1) 53 Q.cs ∧ Below w.heap.size w U) := by rw [← EQ2.out]; exact ⟨rU, bU⟩
        clear rU bU b1
        go_wp2_with (with_reducible exact ret_pb Try.results31 rfl rfl rfl G.out.1 ⟨rfl, G.out.2⟩)
      · cases b23
        · cases b15
          · have EC : ppmC p = 0 := by unfold ppmC; simp [HN.out, HM.out, H2.out, H23.out, H15.out, H16.out]
            have EQ2 : Hid (p = Q) := by rw [← EQ.out, EC]; exact rfl
            have eb : B = false := by rw [← EB.out, EC]; rfl
            clear EB
            subst eb
            clear EC EQ HN HM H2 H23 H15 H16 
            obtain ⟨U, sU, rU, bU⟩ := H.out.tell p
            have G : Hid (RvAt U (w.heap.size + 1) 53 Q.cs ∧ Below w.heap.size w U) := by rw [← EQ2.out]; exact ⟨rU, bU⟩
            clear rU bU
            go_enter Try.func31, Try.ntmps31
            go_wp2_with (with_reducible exact ret_pb Try.results31 rfl rfl rfl G.out.1 ⟨rfl, G.out.2⟩)
          · have EC : ppmC p = 1 := by unfold ppmC; simp [HN.out, HM.out, H2.out, H23.out, H15.out, H16.out]
            have EQ2 : Hid (chkP p = Q) := by rw [← EQ.out, EC]; exact rfl
            have eb : B = true := by rw [← EB.out, EC]; rfl
            clear EB
            subst eb
            clear EC EQ HN HM H2 H23 H15 H16 
            go_enter Try.func31, Try.ntmps31
            go_wp2_with fail
            refine (rchk_any p W).mono ?_
            rintro _ W1 ⟨rfl, b1⟩
            obtain ⟨U, sU, rU, bU⟩ := (H.out.below b1).tell (chkP p)
            have G : Hid (RvAt U (w.heap.size + 1) 53 Q.cs ∧ Below w.heap.size w U) := by rw [← EQ2.out]; exact ⟨rU, bU⟩
            clear rU bU b1
            go_wp2_with (with_reducible exact ret_pb Try.results31 rfl rfl rfl G.out.1 ⟨rfl, G.out.2⟩)
        · cases b16
          · have EC : ppmC p = 0 := by unfold ppmC; simp [HN.out, HM.out, H2.out, H23.out, H15.out, H16.out]
            have EQ2 : Hid (p = Q) := by rw [← EQ.out, EC]; exact rfl
            have eb : B = false := by rw [← EB.out, EC]; rfl
            clear EB
            subst eb
            clear EC EQ HN HM H2 H23 H15 H16 
            obtain ⟨U, sU, rU, bU⟩ := H.out.tell p
            have G : Hid (RvAt U (w.heap.size + 1) 53 Q.cs ∧ Below w.heap.size w U) := by rw [← EQ2.out]; exact ⟨rU, bU⟩
            clear rU bU
            go_enter Try.func31, Try.ntmps31
            go_wp2_with (with_reducible exact ret_pb Try.results31 rfl rfl rfl G.out.1 ⟨rfl, G.out.2⟩)
          · have EC : ppmC p = 3 := by unfold ppmC; simp [HN.out, HM.out, H2.out, H23.out, H15.out, H16.out]
            have EQ2 : Hid (falP p = Q) := by rw [← EQ.out, EC]; exact rfl
            have eb : B = true := by rw [← EB.out, EC]; rfl
            clear EB
            subst eb
            clear EC EQ HN HM H2 H23 H15 H16 
            obtain ⟨V1, e1, s1⟩ := H.out.setB kb23 false
            obtain ⟨V2, e2, s2⟩ := s1.setU ku67 u3
            obtain ⟨V3, e3, s3⟩ := s2.setN infoS kn76 wi2
            have s3 : PS w V3 w.heap.size (w.heap.size + 1) (falP p) := s3
            have lp := s3.ld
            obtain ⟨U, sU, rU, bU⟩ := s3.tell (falP p)
            have G : Hid (RvAt U (w.heap.size + 1) 53 Q.cs ∧ Below w.heap.size w U) := by rw [← EQ2.out]; exact ⟨rU, bU⟩
            clear rU bU s1 s2 s3
            go_enter Try.func31, Try.ntmps31
            go_wp2_with (with_reducible exact ret_pb Try.results31 rfl rfl rfl G.out.1 ⟨rfl, G.out.2⟩)
    · have xN3 : (N == 3) = false := beq_eq_false_iff_ne.2 hN3
      have yN3 : (N != 3) = true := by simp [hN3]
      by_cases hN2 : N = 2
      · subst hN2
        clear xN1 yN1 xN3 yN3
        by_cases hM0 : M = 0
        · subst hM0
          have EC : ppmC p = 2 := by unfold ppmC; simp [HN.out, HM.out, H2.out, H23.out, H15.out, H16.out]
          have EQ2 : Hid (senP p = Q) := by rw [← EQ.out, EC]; exact rfl
          have eb : B = true := by rw [← EB.out, EC]; rfl
          clear EB
          subst eb
          clear EC EQ HN HM H2 H23 H15 H16 
          go_enter Try.func31, Try.ntmps31
          go_wp2_with fail
          refine (rsen_any p W).mono ?_
          rintro _ W1 ⟨rfl, b1⟩
          obtain ⟨U, sU, rU, bU⟩ := (H.out.below b1).tell (senP p)
          have G : Hid (RvAt U (w.heap.size + 1) 53 Q.cs ∧ Below w.heap.size w U) := by rw [← EQ2.out]; exact ⟨rU, bU⟩
          clear rU bU b1
          go_wp2_with (with_reducible exact ret_pb Try.results31 rfl rfl rfl G.out.1 ⟨rfl, G.out.2⟩)
        · have xM0 : (M == 0) = false := beq_eq_false_iff_ne.2 hM0
          have yM0 : (M != 0) = true := by simp [hM0]
          cases b2
          · have EC : ppmC p = 2 := by unfold ppmC; simp [HN.out, HM.out, H2.out, H23.out, H15.out, H16.out, hM0]
            have EQ2 : Hid (senP p = Q) := by rw [← EQ.out, EC]; exact rfl
            have eb : B = true := by rw [← EB.out, EC]; rfl
            clear EB
            subst eb
            clear EC EQ HN HM H2 H23 H15 H16 hM0
            go_enter Try.func31, Try.ntmps31
            go_wp2_with fail
            refine (rsen_any p W).mono ?_
            rintro _ W1 ⟨rfl, b1⟩
            obtain ⟨U, sU, rU, bU⟩ := (H.out.below b1).tell (senP p)
            have G : Hid (RvAt U (w.heap.size + 1) 53 Q.cs ∧ Below w.heap.size w U) := by rw [← EQ2.out]; exact ⟨rU, bU⟩
            clear rU bU b1
            go_wp2_with (with_reducible exact ret_pb Try.results31 rfl rfl rfl G.out.1 ⟨rfl, G.out.2⟩)
          · have EC : ppmC p = 0 := by unfold ppmC; simp [HN.out, HM.out, H2.out, H23.out, H15.out, H16.out, hM0]
            have EQ2 : Hid (p = Q) := by rw [← EQ.out, EC]; exact rfl
            have eb : B = false := by rw [← EB.out, EC]; rfl
            clear EB
            subst eb
            clear EC EQ HN HM H2 H23 H15 H16 hM0
            obtain ⟨U, sU, rU, bU⟩ := H.out.tell p
            have G : Hid (RvAt U (w.heap.size + 1) 53 Q.cs ∧ Below w.heap.size w U) := by rw [← EQ2.out]; exact ⟨rU, bU⟩
            clear rU bU
            go_enter Try.func31, Try.ntmps31
            go_wp2_with (with_reducible exact ret_pb Try.results31 rfl rfl rfl G.out.1 ⟨rfl, G.out.2⟩)
      · have xN2 : (N == 2) = false := beq_eq_false_iff_ne.2 hN2
        have yN2 : (N != 2) = true := by simp [hN2]
        have EC : ppmC p = 1 := by unfold ppmC; simp [HN.out, HM.out, H2.out, H23.out, H15.out, H16.out, hN1, hN2, hN3]
        have EQ2 : Hid (chkP p = Q) := by rw [← EQ.out, EC]; exact rfl
        have eb : B = true := by rw [← EB.out, EC]; rfl
        clear EB
        subst eb
        clear EC EQ HN HM H2 H23 H15 H16 hN1 hN2 hN3
        go_enter Try.func31, Try.ntmps31
        go_wp2_with fail
        refine (rchk_any p W).mono ?_
        rintro _ W1 ⟨rfl, b1⟩
        obtain ⟨U, sU, rU, bU⟩ := (H.out.below b1).tell (chkP p)
        have G : Hid (RvAt U (w.heap.size + 1) 53 Q.cs ∧ Below w.heap.size w U) := by rw [← EQ2.out]; exact ⟨rU, bU⟩
        clear rU bU b1
        go_wp2_with (with_reducible exact ret_pb Try.results31 rfl rfl rfl G.out.1 ⟨rfl, G.out.2⟩)
end Go.Proofs.Ytllmadgonobdnaa
