/-
  The definition: the walk of active, for every tree.
-/
import Derived.Test.YtfjigbmhheekbaaRfB
import Derived.Test.YtfjigbmhheekbaaRfP
namespace Go.Proofs.Ytfjigbmhheekbaa
set_option linter.unusedVariables false
set_option maxRecDepth 4000
set_option linter.unusedSimpArgs false
open Go.RowKit

attribute [local go_sem ↓] ldP stP stB stU stW ldT stT st32 alP
attribute [local go_sem] alP_run
theorem prp_put (l : List Pt) (k : Nat) (q r : Pt) : prpL ((l.set k q).set k r) k = sprL l k r := by
  rw [List.set_set, prp_set]
theorem nw_30 (h : Hd) (p : Pt) : (nwP h p).nm 30 = p.nm 30 := nwP_nm h p (by decide) (by decide)
set_option maxHeartbeats 4000000 in
theorem ract_in (h : Hd) (a : Option Addr) (n c : Nat) (l : List Pt) (k : Nat) (w : World) (hs : SlAt w a n c l) (hn : n ≤ 1000) (hk : k < n) :
    Calls Try.prog 35 #[.agg (trc h (.slice a n c)), .int .i64 (k : Int), .bool (hasB (gtP l k))] w fun r w' => TBs w h n l (actO h l k) r w' := by
  obtain ⟨OO, hOO⟩ : ∃ z, actO h l k = z := ⟨_, rfl⟩
  rw [hOO]
  have EO : Hid (actO h l k = OO) := hOO
  clear hOO
  obtain ⟨g, o, rfl⟩ := hs.some' (by omega)
  have HL : Hid (l.length = n ∧ n ≤ 1000 ∧ k < n ∧ k < l.length) := ⟨hs.len, hn, hk, by rw [hs.len]; exact hk⟩
  have hin0 : (0 : Int) ≤ (k : Int) := by omega
  have hin1 : (k : Int) < (n : Int) := by omega
  obtain ⟨W, hW, r0, r1, bW, zW⟩ := two_t w h (.slice (some ⟨g, o, none⟩) n c)
  have GL : g < w.heap.size := hs.low (by omega)
  have c16 := r0.t16
  have lp := (hs.below bW).ld (gtP_at HL.out.2.2.2)
  obtain ⟨p, hp⟩ : ∃ p, gtP l k = p := ⟨_, rfl⟩
  rw [hp] at lp
  have HP : Hid (gtP l k = p) := hp
  obtain ⟨W0, s0, r0', b0, z0⟩ := var_p W p
  obtain ⟨Z, hZ⟩ : ∃ Z, W.heap.size = Z := ⟨_, rfl⟩
  rw [hZ] at s0 r0'
  have T0 : Hid (TV w W0 w.heap.size (w.heap.size + 1) Z h (some ⟨g, o, none⟩) n c l p) := ⟨⟨r0.below b0, r1.below b0, below_over bW b0, by omega⟩, (hs.below bW).below b0, r0', by omega, Nat.le_refl _, by omega, fun x e => by cases e; show g ≠ Z; omega⟩
  clear hs hn hk r0 r1 bW zW b0 z0 r0' hp GL
  obtain ⟨b19, h19⟩ : ∃ z, p.bt 19 = z := ⟨_, rfl⟩
  have H19 : Hid (p.bt 19 = b19) := h19
  clear h19
  obtain ⟨b17, h17⟩ : ∃ z, p.bt 17 = z := ⟨_, rfl⟩
  have H17 : Hid (p.bt 17 = b17) := h17
  clear h17
  obtain ⟨b27, h27⟩ : ∃ z, p.bt 27 = z := ⟨_, rfl⟩
  have H27 : Hid (p.bt 27 = b27) := h27
  clear h27
  obtain ⟨b18, h18⟩ : ∃ z, p.bt 18 = z := ⟨_, rfl⟩
  have H18 : Hid (p.bt 18 = b18) := h18
  clear h18
  obtain ⟨PB, hPB⟩ : ∃ z, hasB p = z := ⟨_, rfl⟩
  have EP : Hid (hasB p = PB) := hPB
  rw [HP.out, hPB]
  clear hPB
  cases PB
  · have E : OO = some (l.set k (lrnP p)) := by
      rw [← EO.out]
      unfold actO
      rw [HP.out]
      rw [if_pos EP.out]
    have E : Hid (OO = some (l.set k (lrnP p))) := E
    have c19 := T0.out.pv.pbit (j := 19) rfl
    rw [H19.out] at c19
    have c17 := T0.out.pv.pbit (j := 17) rfl
    rw [H17.out] at c17
    have c27 := T0.out.pv.pbit (j := 27) rfl
    rw [H27.out] at c27
    have c18 := T0.out.pv.pbit (j := 18) rfl
    rw [H18.out] at c18
    go_enter Try.func35, Try.ntmps35
    have lt9 := T0.out.tre.var.tld
    go_wp2_with fail
    refine (rlearns_in h (some ⟨g, o, none⟩) n c l k W0 T0.out.sl HL.out.2.1 HL.out.2.2.1).mono ?_
    rintro _ Y ⟨a8, c8, rfl, s8, b8⟩
    rw [HP.out] at s8
    obtain ⟨U, sU, h1, h2, gU⟩ := (T0.out.tre.below b8).tell (y := .slice a8 n c8) rfl
    have G : Hid (RvAt U (w.heap.size + 1) 43 (trc h (.slice a8 n c8)) ∧ SlAt U a8 n c8 (OO.getD l) ∧ Below w.heap.size w U ∧ OO.isSome = true) := by
      rw [E.out]
      exact ⟨h1, s8.keptT (T0.out.tre.below b8).out gU, h2, rfl⟩
    clear h1 h2 gU
    go_wp2
    refine bodyPost_ret (results_tb Try.results35 _ _ _ _ _ rfl G.out.1) rfl ?_
    exact ⟨a8, c8, by rw [G.out.2.2.2]; rfl, G.out.2.1, G.out.2.2.1⟩
  · cases b19
    · cases b17
      · cases b27
        · cases b18
          · have E : OO = none := by
              rw [← EO.out]
              unfold actO
              rw [HP.out]
              rw [if_neg (by rw [EP.out]; simp), if_neg (by rw [H19.out, H17.out]; simp), if_neg (by rw [H27.out]; simp), if_neg (by rw [H18.out]; simp)]
            have E : Hid (OO = none) := E
            have c19 := T0.out.pv.pbit (j := 19) rfl
            rw [H19.out] at c19
            have c17 := T0.out.pv.pbit (j := 17) rfl
            rw [H17.out] at c17
            have c27 := T0.out.pv.pbit (j := 27) rfl
            rw [H27.out] at c27
            have c18 := T0.out.pv.pbit (j := 18) rfl
            rw [H18.out] at c18
            go_enter Try.func35, Try.ntmps35
            have lt9 := T0.out.tre.var.tld
            obtain ⟨U, sU, h1, h2, gU⟩ := (T0.out.tre).tell (y := .slice (some ⟨g, o, none⟩) n c) rfl
            have G : Hid (RvAt U (w.heap.size + 1) 43 (trc h (.slice (some ⟨g, o, none⟩) n c)) ∧ SlAt U (some ⟨g, o, none⟩) n c (OO.getD l) ∧ Below w.heap.size w U ∧ OO.isSome = false) := by
              rw [E.out]
              exact ⟨h1, T0.out.sl.keptT (T0.out.tre).out gU, h2, rfl⟩
            clear h1 h2 gU
            go_wp2
            refine bodyPost_ret (results_tb Try.results35 _ _ _ _ _ rfl G.out.1) rfl ?_
            exact ⟨some ⟨g, o, none⟩, c, by rw [G.out.2.2.2]; rfl, G.out.2.1, G.out.2.2.1⟩
          · have E : OO = some (l.set k (ackP p)) := by
              rw [← EO.out]
              unfold actO
              rw [HP.out]
              rw [if_neg (by rw [EP.out]; simp), if_neg (by rw [H19.out, H17.out]; simp), if_neg (by rw [H27.out]; simp), if_pos H18.out]
            have E : Hid (OO = some (l.set k (ackP p))) := E
            have c19 := T0.out.pv.pbit (j := 19) rfl
            rw [H19.out] at c19
            have c17 := T0.out.pv.pbit (j := 17) rfl
            rw [H17.out] at c17
            have c27 := T0.out.pv.pbit (j := 27) rfl
            rw [H27.out] at c27
            have c18 := T0.out.pv.pbit (j := 18) rfl
            rw [H18.out] at c18
            go_enter Try.func35, Try.ntmps35
            obtain ⟨V1, e1, S1⟩ := T0.out.setU ku71 u0
            obtain ⟨V2, e2, S2⟩ := S1.setB kb18 false
            have T9 : Hid (TV w V2 w.heap.size (w.heap.size + 1) Z h (some ⟨g, o, none⟩) n c l (ackP p)) := S2
            clear S1 S2
            have lt9 := T9.out.tre.var.tld
            have lp9 := T9.out.pv.pld
            go_wp2_with fail
            refine (with_any h (some ⟨g, o, none⟩) n c (l) k _ V2 T9.out.sl HL.out.2.1 HL.out.2.2.1).mono ?_
            rintro _ Y ⟨a8, c8, rfl, s8, f8, b8⟩
            clear f8
            obtain ⟨U, sU, h1, h2, gU⟩ := (T9.out.tre.below b8).tell (y := .slice a8 n c8) rfl
            have G : Hid (RvAt U (w.heap.size + 1) 43 (trc h (.slice a8 n c8)) ∧ SlAt U a8 n c8 (OO.getD l) ∧ Below w.heap.size w U ∧ OO.isSome = true) := by
              rw [E.out]
              exact ⟨h1, s8.keptT (T9.out.tre.below b8).out gU, h2, rfl⟩
            clear h1 h2 gU
            go_wp2
            refine bodyPost_ret (results_tb Try.results35 _ _ _ _ _ rfl G.out.1) rfl ?_
            exact ⟨a8, c8, by rw [G.out.2.2.2]; rfl, G.out.2.1, G.out.2.2.1⟩
        · have E : OO = some (l.set k (prgP h p)) := by
            rw [← EO.out]
            unfold actO
            rw [HP.out]
            rw [if_neg (by rw [EP.out]; simp), if_neg (by rw [H19.out, H17.out]; simp), if_pos H27.out]
          have E : Hid (OO = some (l.set k (prgP h p))) := E
          have c19 := T0.out.pv.pbit (j := 19) rfl
          rw [H19.out] at c19
          have c17 := T0.out.pv.pbit (j := 17) rfl
          rw [H17.out] at c17
          have c27 := T0.out.pv.pbit (j := 27) rfl
          rw [H27.out] at c27
          have c18 := T0.out.pv.pbit (j := 18) rfl
          rw [H18.out] at c18
          go_enter Try.func35, Try.ntmps35
          have lt1_ := T0.out.tre.var.tld
          go_wp2_with fail
          refine (rnew_in h (some ⟨g, o, none⟩) n c l k W0 T0.out.sl HL.out.2.1 HL.out.2.2.1).mono ?_
          rintro _ X1 ⟨a1, c1, rfl, s1, f1, b1⟩
          rw [HP.out] at s1
          obtain ⟨Y1, y1, N1⟩ := T0.out.tree b1 s1 f1
          obtain ⟨g1, o1, rfl⟩ := s1.some' (by have := HL.out.2.2.1; omega)
          have d16 := N1.tre.var.t16
          have lq := N1.sl.ld (gtP_at (l := l.set k (nwP h p)) (i := k) (by rw [List.length_set]; exact HL.out.2.2.2))
          rw [gtP_put HL.out.2.2.2] at lq
          obtain ⟨R1, z1, M1⟩ := N1.st (nwP h p)
          have T1 : Hid (TV w R1 w.heap.size (w.heap.size + 1) Z h (some ⟨g1, o1, none⟩) n c1 (l.set k (nwP h p)) (nwP h p)) := M1
          clear s1 f1 b1 N1 M1 lt1_
          clear c19 c17 c27 c18
          have EL : Hid ((l.set k (nwP h p)).set k (flsP (nwP h p)) = l.set k (prgP h p)) := by rw [List.set_set]; exact rfl
          obtain ⟨V1, e1, S1⟩ := T1.out.setB kb6 true
          obtain ⟨V2, e2, S2⟩ := S1.setB kb27 false
          have T9 : Hid (TV w V2 w.heap.size (w.heap.size + 1) Z h (some ⟨g1, o1, none⟩) n c1 (l.set k (nwP h p)) (flsP (nwP h p))) := S2
          clear S1 S2
          have lt9 := T9.out.tre.var.tld
          have lp9 := T9.out.pv.pld
          go_wp2_with fail
          refine (with_any h (some ⟨g1, o1, none⟩) n c1 (l.set k (nwP h p)) k _ V2 T9.out.sl HL.out.2.1 HL.out.2.2.1).mono ?_
          rintro _ Y ⟨a8, c8, rfl, s8, f8, b8⟩
          rw [EL.out] at s8
          clear f8
          obtain ⟨U, sU, h1, h2, gU⟩ := (T9.out.tre.below b8).tell (y := .slice a8 n c8) rfl
          have G : Hid (RvAt U (w.heap.size + 1) 43 (trc h (.slice a8 n c8)) ∧ SlAt U a8 n c8 (OO.getD l) ∧ Below w.heap.size w U ∧ OO.isSome = true) := by
            rw [E.out]
            exact ⟨h1, s8.keptT (T9.out.tre.below b8).out gU, h2, rfl⟩
          clear h1 h2 gU
          go_wp2
          refine bodyPost_ret (results_tb Try.results35 _ _ _ _ _ rfl G.out.1) rfl ?_
          exact ⟨a8, c8, by rw [G.out.2.2.2]; rfl, G.out.2.1, G.out.2.2.1⟩
      · have E : OO = some (sprL l k (ntfP h p)) := by
          rw [← EO.out]
          unfold actO
          rw [HP.out]
          rw [if_neg (by rw [EP.out]; simp), if_pos (by rw [H19.out, H17.out]; simp)]
        have E : Hid (OO = some (sprL l k (ntfP h p))) := E
        have c19 := T0.out.pv.pbit (j := 19) rfl
        rw [H19.out] at c19
        have c17 := T0.out.pv.pbit (j := 17) rfl
        rw [H17.out] at c17
        have c27 := T0.out.pv.pbit (j := 27) rfl
        rw [H27.out] at c27
        have c18 := T0.out.pv.pbit (j := 18) rfl
        rw [H18.out] at c18
        go_enter Try.func35, Try.ntmps35
        have d16 := T0.out.tre.var.t16
        have lq := T0.out.sl.ld (gtP_at HL.out.2.2.2)
        rw [HP.out] at lq
        obtain ⟨R1, z1, M1⟩ := T0.out.st p
        have T1 : Hid (TV w R1 w.heap.size (w.heap.size + 1) Z h (some ⟨g, o, none⟩) n c l p) := M1
        clear M1
        have EL : Hid (prpL ((l).set k (heaR (p))) k = sprL l k (ntfP h p)) := by
          rw [prp_set, heaR_is]
          unfold ntfP heaQ
          rw [if_neg (by rw [H19.out]; decide)]
          exact rfl
        obtain ⟨V1, e1, S1⟩ := T1.out.setB kb19 false
        obtain ⟨V2, e2, S2⟩ := S1.setB kb17 false
        have c30 := S2.pv.pnum (j := 30) (k := .i64) rfl
        rw [setB_nm _ _ _ (by decide), setB_nm _ _ _ (by decide)] at c30
        obtain ⟨N, hN⟩ : ∃ z, (p).nm 30 = z := ⟨_, rfl⟩
        rw [hN] at c30
        by_cases h4 : N = 4
        · obtain ⟨V3, e3, S3⟩ := S2.setB kb26 true
          have S3 : TV w V3 w.heap.size (w.heap.size + 1) Z h (some ⟨g, o, none⟩) n c (l) ((((p).setB 19 kb19 false).setB 17 kb17 false).setB 26 kb26 true) := S3
          rw [show ((((p).setB 19 kb19 false).setB 17 kb17 false).setB 26 kb26 true) = heaR (p) by unfold heaR; rw [if_pos (by rw [hN]; exact h4)]] at S3
          have T9 : Hid (TV w V3 w.heap.size (w.heap.size + 1) Z h (some ⟨g, o, none⟩) n c (l) (heaR (p))) := S3
          subst h4
          clear S1 S2 S3 hN
          have lt9 := T9.out.tre.var.tld
          have lp9 := T9.out.pv.pld
          go_wp2_with fail
          refine (with_any h (some ⟨g, o, none⟩) n c (l) k _ V3 T9.out.sl HL.out.2.1 HL.out.2.2.1).mono ?_
          rintro _ Y ⟨a8, c8, rfl, s8, f8, b8⟩
          have T8 : Hid (TS w Y w.heap.size (w.heap.size + 1) h (.slice (some ⟨g, o, none⟩) n c) ∧ SlAt Y a8 n c8 _) := ⟨T9.out.tre.below b8, s8⟩
          clear f8 b8 s8
          go_wp2_with fail
          refine (rprop_in h a8 n c8 _ k Y T8.out.2 HL.out.2.1 HL.out.2.2.1).mono ?_
          rintro _ Y2 ⟨a9, c9, rfl, s9, f9, b9⟩
          rw [EL.out] at s9
          clear f9
          obtain ⟨U, sU, h1, h2, gU⟩ := (T8.out.1.below b9).tell (y := .slice a9 n c9) rfl
          have G : Hid (RvAt U (w.heap.size + 1) 43 (trc h (.slice a9 n c9)) ∧ SlAt U a9 n c9 (OO.getD l) ∧ Below w.heap.size w U ∧ OO.isSome = true) := by
            rw [E.out]
            exact ⟨h1, s9.keptT (T8.out.1.below b9).out gU, h2, rfl⟩
          clear h1 h2 gU
          go_wp2
          refine bodyPost_ret (results_tb Try.results35 _ _ _ _ _ rfl G.out.1) rfl ?_
          exact ⟨a9, c9, by rw [G.out.2.2.2]; rfl, G.out.2.1, G.out.2.2.1⟩
        · have S3 : TV w V2 w.heap.size (w.heap.size + 1) Z h (some ⟨g, o, none⟩) n c (l) (((p).setB 19 kb19 false).setB 17 kb17 false) := S2
          rw [show (((p).setB 19 kb19 false).setB 17 kb17 false) = heaR (p) by unfold heaR; rw [if_neg (by rw [hN]; exact h4)]] at S3
          have T9 : Hid (TV w V2 w.heap.size (w.heap.size + 1) Z h (some ⟨g, o, none⟩) n c (l) (heaR (p))) := S3
          have x4 : (N == 4) = false := beq_eq_false_iff_ne.2 h4
          clear S1 S2 S3 hN h4
          have lt9 := T9.out.tre.var.tld
          have lp9 := T9.out.pv.pld
          go_wp2_with fail
          refine (with_any h (some ⟨g, o, none⟩) n c (l) k _ V2 T9.out.sl HL.out.2.1 HL.out.2.2.1).mono ?_
          rintro _ Y ⟨a8, c8, rfl, s8, f8, b8⟩
          have T8 : Hid (TS w Y w.heap.size (w.heap.size + 1) h (.slice (some ⟨g, o, none⟩) n c) ∧ SlAt Y a8 n c8 _) := ⟨T9.out.tre.below b8, s8⟩
          clear f8 b8 s8
          go_wp2_with fail
          refine (rprop_in h a8 n c8 _ k Y T8.out.2 HL.out.2.1 HL.out.2.2.1).mono ?_
          rintro _ Y2 ⟨a9, c9, rfl, s9, f9, b9⟩
          rw [EL.out] at s9
          clear f9
          obtain ⟨U, sU, h1, h2, gU⟩ := (T8.out.1.below b9).tell (y := .slice a9 n c9) rfl
          have G : Hid (RvAt U (w.heap.size + 1) 43 (trc h (.slice a9 n c9)) ∧ SlAt U a9 n c9 (OO.getD l) ∧ Below w.heap.size w U ∧ OO.isSome = true) := by
            rw [E.out]
            exact ⟨h1, s9.keptT (T8.out.1.below b9).out gU, h2, rfl⟩
          clear h1 h2 gU
          go_wp2
          refine bodyPost_ret (results_tb Try.results35 _ _ _ _ _ rfl G.out.1) rfl ?_
          exact ⟨a9, c9, by rw [G.out.2.2.2]; rfl, G.out.2.1, G.out.2.2.1⟩
    · have E : OO = some (sprL l k (ntfP h p)) := by
        rw [← EO.out]
        unfold actO
        rw [HP.out]
        rw [if_neg (by rw [EP.out]; simp), if_pos (by rw [H19.out]; simp)]
      have E : Hid (OO = some (sprL l k (ntfP h p))) := E
      have c19 := T0.out.pv.pbit (j := 19) rfl
      rw [H19.out] at c19
      have c17 := T0.out.pv.pbit (j := 17) rfl
      rw [H17.out] at c17
      have c27 := T0.out.pv.pbit (j := 27) rfl
      rw [H27.out] at c27
      have c18 := T0.out.pv.pbit (j := 18) rfl
      rw [H18.out] at c18
      go_enter Try.func35, Try.ntmps35
      have lt1_ := T0.out.tre.var.tld
      go_wp2_with fail
      refine (rnew_in h (some ⟨g, o, none⟩) n c l k W0 T0.out.sl HL.out.2.1 HL.out.2.2.1).mono ?_
      rintro _ X1 ⟨a1, c1, rfl, s1, f1, b1⟩
      rw [HP.out] at s1
      obtain ⟨Y1, y1, N1⟩ := T0.out.tree b1 s1 f1
      obtain ⟨g1, o1, rfl⟩ := s1.some' (by have := HL.out.2.2.1; omega)
      have d16 := N1.tre.var.t16
      have lq := N1.sl.ld (gtP_at (l := l.set k (nwP h p)) (i := k) (by rw [List.length_set]; exact HL.out.2.2.2))
      rw [gtP_put HL.out.2.2.2] at lq
      obtain ⟨R1, z1, M1⟩ := N1.st (nwP h p)
      have T1 : Hid (TV w R1 w.heap.size (w.heap.size + 1) Z h (some ⟨g1, o1, none⟩) n c1 (l.set k (nwP h p)) (nwP h p)) := M1
      clear s1 f1 b1 N1 M1 lt1_
      clear c19 c17 c27 c18
      have EL : Hid (prpL ((l.set k (nwP h p)).set k (heaR (nwP h p))) k = sprL l k (ntfP h p)) := by
        rw [prp_put, heaR_is]
        unfold ntfP heaQ
        rw [if_pos H19.out]
        exact rfl
      obtain ⟨V1, e1, S1⟩ := T1.out.setB kb19 false
      obtain ⟨V2, e2, S2⟩ := S1.setB kb17 false
      have c30 := S2.pv.pnum (j := 30) (k := .i64) rfl
      rw [setB_nm _ _ _ (by decide), setB_nm _ _ _ (by decide)] at c30
      obtain ⟨N, hN⟩ : ∃ z, (nwP h p).nm 30 = z := ⟨_, rfl⟩
      rw [hN] at c30
      by_cases h4 : N = 4
      · obtain ⟨V3, e3, S3⟩ := S2.setB kb26 true
        have S3 : TV w V3 w.heap.size (w.heap.size + 1) Z h (some ⟨g1, o1, none⟩) n c1 (l.set k (nwP h p)) ((((nwP h p).setB 19 kb19 false).setB 17 kb17 false).setB 26 kb26 true) := S3
        rw [show ((((nwP h p).setB 19 kb19 false).setB 17 kb17 false).setB 26 kb26 true) = heaR (nwP h p) by unfold heaR; rw [if_pos (by rw [hN]; exact h4)]] at S3
        have T9 : Hid (TV w V3 w.heap.size (w.heap.size + 1) Z h (some ⟨g1, o1, none⟩) n c1 (l.set k (nwP h p)) (heaR (nwP h p))) := S3
        subst h4
        clear S1 S2 S3 hN
        have lt9 := T9.out.tre.var.tld
        have lp9 := T9.out.pv.pld
        go_wp2_with fail
        refine (with_any h (some ⟨g1, o1, none⟩) n c1 (l.set k (nwP h p)) k _ V3 T9.out.sl HL.out.2.1 HL.out.2.2.1).mono ?_
        rintro _ Y ⟨a8, c8, rfl, s8, f8, b8⟩
        have T8 : Hid (TS w Y w.heap.size (w.heap.size + 1) h (.slice (some ⟨g1, o1, none⟩) n c1) ∧ SlAt Y a8 n c8 _) := ⟨T9.out.tre.below b8, s8⟩
        clear f8 b8 s8
        go_wp2_with fail
        refine (rprop_in h a8 n c8 _ k Y T8.out.2 HL.out.2.1 HL.out.2.2.1).mono ?_
        rintro _ Y2 ⟨a9, c9, rfl, s9, f9, b9⟩
        rw [EL.out] at s9
        clear f9
        obtain ⟨U, sU, h1, h2, gU⟩ := (T8.out.1.below b9).tell (y := .slice a9 n c9) rfl
        have G : Hid (RvAt U (w.heap.size + 1) 43 (trc h (.slice a9 n c9)) ∧ SlAt U a9 n c9 (OO.getD l) ∧ Below w.heap.size w U ∧ OO.isSome = true) := by
          rw [E.out]
          exact ⟨h1, s9.keptT (T8.out.1.below b9).out gU, h2, rfl⟩
        clear h1 h2 gU
        go_wp2
        refine bodyPost_ret (results_tb Try.results35 _ _ _ _ _ rfl G.out.1) rfl ?_
        exact ⟨a9, c9, by rw [G.out.2.2.2]; rfl, G.out.2.1, G.out.2.2.1⟩
      · have S3 : TV w V2 w.heap.size (w.heap.size + 1) Z h (some ⟨g1, o1, none⟩) n c1 (l.set k (nwP h p)) (((nwP h p).setB 19 kb19 false).setB 17 kb17 false) := S2
        rw [show (((nwP h p).setB 19 kb19 false).setB 17 kb17 false) = heaR (nwP h p) by unfold heaR; rw [if_neg (by rw [hN]; exact h4)]] at S3
        have T9 : Hid (TV w V2 w.heap.size (w.heap.size + 1) Z h (some ⟨g1, o1, none⟩) n c1 (l.set k (nwP h p)) (heaR (nwP h p))) := S3
        have x4 : (N == 4) = false := beq_eq_false_iff_ne.2 h4
        clear S1 S2 S3 hN h4
        have lt9 := T9.out.tre.var.tld
        have lp9 := T9.out.pv.pld
        go_wp2_with fail
        refine (with_any h (some ⟨g1, o1, none⟩) n c1 (l.set k (nwP h p)) k _ V2 T9.out.sl HL.out.2.1 HL.out.2.2.1).mono ?_
        rintro _ Y ⟨a8, c8, rfl, s8, f8, b8⟩
        have T8 : Hid (TS w Y w.heap.size (w.heap.size + 1) h (.slice (some ⟨g1, o1, none⟩) n c1) ∧ SlAt Y a8 n c8 _) := ⟨T9.out.tre.below b8, s8⟩
        clear f8 b8 s8
        go_wp2_with fail
        refine (rprop_in h a8 n c8 _ k Y T8.out.2 HL.out.2.1 HL.out.2.2.1).mono ?_
        rintro _ Y2 ⟨a9, c9, rfl, s9, f9, b9⟩
        rw [EL.out] at s9
        clear f9
        obtain ⟨U, sU, h1, h2, gU⟩ := (T8.out.1.below b9).tell (y := .slice a9 n c9) rfl
        have G : Hid (RvAt U (w.heap.size + 1) 43 (trc h (.slice a9 n c9)) ∧ SlAt U a9 n c9 (OO.getD l) ∧ Below w.heap.size w U ∧ OO.isSome = true) := by
          rw [E.out]
          exact ⟨h1, s9.keptT (T8.out.1.below b9).out gU, h2, rfl⟩
        clear h1 h2 gU
        go_wp2
        refine bodyPost_ret (results_tb Try.results35 _ _ _ _ _ rfl G.out.1) rfl ?_
        exact ⟨a9, c9, by rw [G.out.2.2.2]; rfl, G.out.2.1, G.out.2.2.1⟩
end Go.Proofs.Ytfjigbmhheekbaa
