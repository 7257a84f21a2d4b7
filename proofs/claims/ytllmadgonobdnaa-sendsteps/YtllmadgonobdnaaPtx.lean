/-
  A step of a port's transmission: the walk of Ptx, for every tree.
-/
import Derived.Test.YtllmadgonobdnaaOutA
import Derived.Test.YtllmadgonobdnaaMsg
import Derived.Test.YtllmadgonobdnaaPpm
namespace Go.Proofs.Ytllmadgonobdnaa
set_option linter.unusedVariables false
set_option maxRecDepth 4000
set_option linter.unusedSimpArgs false
open Go.RowKit

attribute [local go_sem ↓] ldP stP stB stU stW ldT stT st32 alP alM ldM stM bsFs bdOs bsOs
attribute [local go_sem] alP_run alM_run
/-- The tree's variable and the result's, the ports, and a message's variable. -/
structure PX (w W : World) (h : Hd) (g o n c : Nat) (l : List Pt) (p : Pt) (mb : Nat) : Prop where
  tre : TS w W w.heap.size (w.heap.size + 1) h (.slice (some ⟨g, o, none⟩) n c)
  sl : SlAt W (some ⟨g, o, none⟩) n c l
  mv : RvAt W mb 43 (msgP p).cs
theorem PX.below {w W V : World} {h : Hd} {g o n c mb : Nat} {l : List Pt} {p : Pt} (s : PX w W h g o n c l p mb) (k : Below W.heap.size W V) : PX w V h g o n c l p mb := ⟨s.tre.below k, s.sl.below k, s.mv.below k⟩
theorem PX.held {w W : World} {h : Hd} {g o n c mb : Nat} {l : List Pt} {p : Pt} (s : PX w W h g o n c l p mb) : RvAt W w.heap.size 31 (trc h (.slice (some ⟨g, o, none⟩) n c)) ∧ RvAt W mb 43 (msgP p).cs := ⟨s.tre.var, s.mv⟩
theorem PX.kept {w W V : World} {h : Hd} {g o n c mb : Nat} {l : List Pt} {p : Pt} (s : PX w W h g o n c l p mb) (k : W.grownBy V (some (w.heap.size + 1))) : RvAt V w.heap.size 31 (trc h (.slice (some ⟨g, o, none⟩) n c)) ∧ RvAt V mb 43 (msgP p).cs :=
  ⟨s.tre.var.keptBut k (by simp), s.mv.keptBut k (by have := s.mv.apart s.tre.out (by decide); simpa using this)⟩
set_option maxHeartbeats 16000000 in
theorem ptx_in (h : Hd) (a : Option Addr) (n c : Nat) (l : List Pt) (k : Nat) (w : World) (hs : SlAt w a n c l) (hn : n ≤ 1000) (hk : k < n) :
    Calls Try.prog 8 #[.agg (trc h (.slice a n c)), .int .i64 (k : Int)] w fun r w' => TOs w h n l (ptxO h l k) (ptxU h l k) r w' := by
  obtain ⟨OO, hOO⟩ : ∃ z, ptxO h l k = z := ⟨_, rfl⟩
  obtain ⟨UU, hUU⟩ : ∃ z, ptxU h l k = z := ⟨_, rfl⟩
  rw [hOO, hUU]
  have EO : Hid (ptxO h l k = OO) := hOO
  have EU : Hid (ptxU h l k = UU) := hUU
  clear hOO hUU
  obtain ⟨g, o, rfl⟩ := hs.some' (by omega)
  have HL : Hid (l.length = n ∧ n ≤ 1000 ∧ k < n) := ⟨hs.len, hn, hk⟩
  have hkl : k < l.length := by rw [HL.out.1]; exact hk
  have GL : g < w.heap.size := hs.low (by omega)
  have hin0 : (0 : Int) ≤ (k : Int) := by omega
  have hin1 : (k : Int) < (n : Int) := by omega
  obtain ⟨W, hW, r0, r1, bW, zW⟩ := two_t w h (.slice (some ⟨g, o, none⟩) n c)
  have l0 := r0.tld
  have H : Hid (TS w W w.heap.size (w.heap.size + 1) h (.slice (some ⟨g, o, none⟩) n c) ∧ SlAt W (some ⟨g, o, none⟩) n c l) := ⟨⟨r0, r1, bW, by omega⟩, hs.below bW⟩
  have T : Hid _ := there_in (h := h) (a := some ⟨g, o, none⟩) (c := c) (w := W) hk
  obtain ⟨p, hp⟩ : ∃ p, gtP l k = p := ⟨_, rfl⟩
  have HP : Hid (gtP l k = p) := hp
  have HK : Hid (k < l.length) := hkl
  clear hs hn hk r0 r1 bW zW hp hkl
  go_enter Try.func8, Try.ntmps8
  go_wp2_with fail
  refine Calls.mono T.out ?_
  rintro _ V ⟨rfl, bV⟩
  have K : Hid (TS w V w.heap.size (w.heap.size + 1) h (.slice (some ⟨g, o, none⟩) n c) ∧ SlAt V (some ⟨g, o, none⟩) n c l) := ⟨H.out.1.below bV, H.out.2.below bV⟩
  have c16 := K.out.1.var.t16
  have lp := K.out.2.ld (gtP_at HK.out)
  rw [HP.out] at lp
  obtain ⟨W0, s0, q0, b0, z0⟩ := var_p V p
  obtain ⟨Z, hZ⟩ : ∃ Z, V.heap.size = Z := ⟨_, rfl⟩
  have P0 : Hid (TP w W0 w.heap.size (w.heap.size + 1) Z h g o n c l p) := ⟨K.out.1.below b0, K.out.2.below b0, by rw [← hZ]; exact q0, by rw [← hZ]; exact K.out.1.bel.size, GL⟩
  rw [hZ] at s0
  clear bV T l0 hW H q0 b0 z0 GL K
  obtain ⟨N, hN⟩ : ∃ z, p.nm 75 = z := ⟨_, rfl⟩
  obtain ⟨M, hM⟩ : ∃ z, p.nm 66 = z := ⟨_, rfl⟩
  have HN : Hid (p.nm 75 = N) := hN
  have HM : Hid (p.nm 66 = M) := hM
  obtain ⟨b22, h22⟩ : ∃ z, p.bt 22 = z := ⟨_, rfl⟩
  have H22 : Hid (p.bt 22 = b22) := h22
  obtain ⟨b28, h28⟩ : ∃ z, p.bt 28 = z := ⟨_, rfl⟩
  have H28 : Hid (p.bt 28 = b28) := h28
  obtain ⟨b2, h2⟩ : ∃ z, p.bt 2 = z := ⟨_, rfl⟩
  have H2 : Hid (p.bt 2 = b2) := h2
  obtain ⟨b11, h11⟩ : ∃ z, p.bt 11 = z := ⟨_, rfl⟩
  have H11 : Hid (p.bt 11 = b11) := h11
  obtain ⟨B, hB⟩ : ∃ z, voiB p = z := ⟨_, rfl⟩
  have HB : Hid (voiB p = B) := hB
  clear hN hM h22 h28 h2 h11 hB
  by_cases hN : N = 1
  · subst hN
    cases b22
    · have EC : ptxC h p = 0 := by unfold ptxC; simp [HN.out, HM.out, H22.out, H28.out, H2.out, H11.out, HB.out]
      have E1 : OO = none := by rw [← EO.out]; exact ptxO_no (by rw [HP.out]; exact EC)
      have E2 : UU = none := by rw [← EU.out]; exact ptxU_no (c := 0) (by rw [HP.out]; exact EC) (by decide)
      subst E1
      subst E2
      clear EC EO EU
      have c75 := P0.out.pv.num (j := 75) (k := .i64) rfl
      rw [HN.out] at c75
      have c22 := P0.out.pv.bit (j := 22) rfl
      rw [H22.out] at c22
      have c28 := P0.out.pv.bit (j := 28) rfl
      rw [H28.out] at c28
      have c66 := P0.out.pv.num (j := 66) (k := .u8) rfl
      rw [HM.out] at c66
      have c2 := P0.out.pv.bit (j := 2) rfl
      rw [H2.out] at c2
      have c11 := P0.out.pv.bit (j := 11) rfl
      rw [H11.out] at c11
      have c64 := P0.out.pv.num (j := 64) (k := .u8) rfl
      have t5 := P0.out.tre.var.tnum (j := 5) (k := .u8) rfl
      clear HN HM H22 H28 H2 H11
      have lt9 := P0.out.tre.var.tld
      obtain ⟨U, sU, h1, h2, gU⟩ := P0.out.tre.tell (y := .slice (some ⟨g, o, none⟩) n c) rfl
      have G : Hid (RvAt U (w.heap.size + 1) 31 (trc h (.slice (some ⟨g, o, none⟩) n c)) ∧ SlAt U (some ⟨g, o, none⟩) n c l ∧ OutAt U (.slice none 0 0) none ∧ Below w.heap.size w U) := ⟨h1, P0.out.sl.keptT P0.out.tre.out gU, rfl, h2⟩
      clear h1 h2 gU
      go_wp2
      refine bodyPost_ret (results_tob Try.results8 _ _ _ _ _ rfl G.out.1) rfl ?_
      exact ⟨some ⟨g, o, none⟩, c, .slice none 0 0, rfl, G.out.2⟩
    · cases b28
      · by_cases hM : M = 0
        · subst hM
          have EC : ptxC h p = 2 := by unfold ptxC; simp [HN.out, HM.out, H22.out, H28.out, H2.out, H11.out, HB.out]
          have E1 : OO = some (l.set k (waiP (remP p))) := by rw [← EO.out, ptxO_yes (c := 2) (by rw [HP.out]; exact EC) (by decide), HP.out]; rfl
          have E2 : UU = none := by rw [← EU.out]; exact ptxU_no (c := 2) (by rw [HP.out]; exact EC) (by decide)
          subst E1
          subst E2
          clear EC EO EU
          have c75 := P0.out.pv.num (j := 75) (k := .i64) rfl
          rw [HN.out] at c75
          have c22 := P0.out.pv.bit (j := 22) rfl
          rw [H22.out] at c22
          have c28 := P0.out.pv.bit (j := 28) rfl
          rw [H28.out] at c28
          have c66 := P0.out.pv.num (j := 66) (k := .u8) rfl
          rw [HM.out] at c66
          have c2 := P0.out.pv.bit (j := 2) rfl
          rw [H2.out] at c2
          have c11 := P0.out.pv.bit (j := 11) rfl
          rw [H11.out] at c11
          have c64 := P0.out.pv.num (j := 64) (k := .u8) rfl
          have t5 := P0.out.tre.var.tnum (j := 5) (k := .u8) rfl
          clear HN HM H22 H28 H2 H11
          have lt9 := P0.out.tre.var.tld
          obtain ⟨Y, hY, fY, bY⟩ := new_fn W0 #[fv 26, fv 25]
          have qY := bsF2 (.func 26) (.func 25) #[] #[] #[] #[] W0
          rw [hY] at qY
          have Q : Hid (TP w Y w.heap.size (w.heap.size + 1) Z h g o n c l p ∧ FnAt Y W0.heap.size #[fv 26, fv 25]) := ⟨P0.out.below bY, fY⟩
          clear fY bY hY
          go_wp2_with fail
          refine (put2_any 26 remP chg_remind ent_remind h (some ⟨g, o, none⟩) n c l k W0.heap.size Y Q.out.1.sl HL.out.2.1 HL.out.2.2 Q.out.2).mono ?_
          rintro _ X2 ⟨a2, c2, rfl, s2, b2⟩
          rw [HP.out] at s2
          obtain ⟨U, sU, h1, h2, gU⟩ := (Q.out.1.tre.below b2).tell (y := .slice a2 n c2) rfl
          have G : Hid (RvAt U (w.heap.size + 1) 31 (trc h (.slice a2 n c2)) ∧ SlAt U a2 n c2 (l.set k (waiP (remP p))) ∧ OutAt U (.slice none 0 0) none ∧ Below w.heap.size w U) := ⟨h1, s2.keptT (Q.out.1.tre.below b2).out gU, rfl, h2⟩
          clear h1 h2 gU s2 b2
          go_wp2
          refine bodyPost_ret (results_tob Try.results8 _ _ _ _ _ rfl G.out.1) rfl ?_
          exact ⟨a2, c2, .slice none 0 0, rfl, G.out.2⟩
        · have xM : (M == 0) = false := beq_eq_false_iff_ne.2 hM
          cases b2
          · have EC : ptxC h p = 0 := by unfold ptxC; simp [HN.out, HM.out, H22.out, H28.out, H2.out, H11.out, HB.out, hM]
            have E1 : OO = none := by rw [← EO.out]; exact ptxO_no (by rw [HP.out]; exact EC)
            have E2 : UU = none := by rw [← EU.out]; exact ptxU_no (c := 0) (by rw [HP.out]; exact EC) (by decide)
            subst E1
            subst E2
            clear EC EO EU
            have c75 := P0.out.pv.num (j := 75) (k := .i64) rfl
            rw [HN.out] at c75
            have c22 := P0.out.pv.bit (j := 22) rfl
            rw [H22.out] at c22
            have c28 := P0.out.pv.bit (j := 28) rfl
            rw [H28.out] at c28
            have c66 := P0.out.pv.num (j := 66) (k := .u8) rfl
            rw [HM.out] at c66
            have c2 := P0.out.pv.bit (j := 2) rfl
            rw [H2.out] at c2
            have c11 := P0.out.pv.bit (j := 11) rfl
            rw [H11.out] at c11
            have c64 := P0.out.pv.num (j := 64) (k := .u8) rfl
            have t5 := P0.out.tre.var.tnum (j := 5) (k := .u8) rfl
            clear hM
            clear HN HM H22 H28 H2 H11
            have lt9 := P0.out.tre.var.tld
            obtain ⟨U, sU, h1, h2, gU⟩ := P0.out.tre.tell (y := .slice (some ⟨g, o, none⟩) n c) rfl
            have G : Hid (RvAt U (w.heap.size + 1) 31 (trc h (.slice (some ⟨g, o, none⟩) n c)) ∧ SlAt U (some ⟨g, o, none⟩) n c l ∧ OutAt U (.slice none 0 0) none ∧ Below w.heap.size w U) := ⟨h1, P0.out.sl.keptT P0.out.tre.out gU, rfl, h2⟩
            clear h1 h2 gU
            go_wp2
            refine bodyPost_ret (results_tob Try.results8 _ _ _ _ _ rfl G.out.1) rfl ?_
            exact ⟨some ⟨g, o, none⟩, c, .slice none 0 0, rfl, G.out.2⟩
          · cases b11
            · have EC : ptxC h p = 0 := by unfold ptxC; simp [HN.out, HM.out, H22.out, H28.out, H2.out, H11.out, HB.out, hM]
              have E1 : OO = none := by rw [← EO.out]; exact ptxO_no (by rw [HP.out]; exact EC)
              have E2 : UU = none := by rw [← EU.out]; exact ptxU_no (c := 0) (by rw [HP.out]; exact EC) (by decide)
              subst E1
              subst E2
              clear EC EO EU
              have c75 := P0.out.pv.num (j := 75) (k := .i64) rfl
              rw [HN.out] at c75
              have c22 := P0.out.pv.bit (j := 22) rfl
              rw [H22.out] at c22
              have c28 := P0.out.pv.bit (j := 28) rfl
              rw [H28.out] at c28
              have c66 := P0.out.pv.num (j := 66) (k := .u8) rfl
              rw [HM.out] at c66
              have c2 := P0.out.pv.bit (j := 2) rfl
              rw [H2.out] at c2
              have c11 := P0.out.pv.bit (j := 11) rfl
              rw [H11.out] at c11
              have c64 := P0.out.pv.num (j := 64) (k := .u8) rfl
              have t5 := P0.out.tre.var.tnum (j := 5) (k := .u8) rfl
              clear hM
              clear HN HM H22 H28 H2 H11
              have lt9 := P0.out.tre.var.tld
              obtain ⟨U, sU, h1, h2, gU⟩ := P0.out.tre.tell (y := .slice (some ⟨g, o, none⟩) n c) rfl
              have G : Hid (RvAt U (w.heap.size + 1) 31 (trc h (.slice (some ⟨g, o, none⟩) n c)) ∧ SlAt U (some ⟨g, o, none⟩) n c l ∧ OutAt U (.slice none 0 0) none ∧ Below w.heap.size w U) := ⟨h1, P0.out.sl.keptT P0.out.tre.out gU, rfl, h2⟩
              clear h1 h2 gU
              go_wp2
              refine bodyPost_ret (results_tob Try.results8 _ _ _ _ _ rfl G.out.1) rfl ?_
              exact ⟨some ⟨g, o, none⟩, c, .slice none 0 0, rfl, G.out.2⟩
            · by_cases hT : p.nm 64 < h.nm 5
              · cases B
                · have EC : ptxC h p = 0 := by unfold ptxC; simp [HN.out, HM.out, H22.out, H28.out, H2.out, H11.out, HB.out, hM, hT]
                  have E1 : OO = none := by rw [← EO.out]; exact ptxO_no (by rw [HP.out]; exact EC)
                  have E2 : UU = none := by rw [← EU.out]; exact ptxU_no (c := 0) (by rw [HP.out]; exact EC) (by decide)
                  subst E1
                  subst E2
                  clear EC EO EU
                  have c75 := P0.out.pv.num (j := 75) (k := .i64) rfl
                  rw [HN.out] at c75
                  have c22 := P0.out.pv.bit (j := 22) rfl
                  rw [H22.out] at c22
                  have c28 := P0.out.pv.bit (j := 28) rfl
                  rw [H28.out] at c28
                  have c66 := P0.out.pv.num (j := 66) (k := .u8) rfl
                  rw [HM.out] at c66
                  have c2 := P0.out.pv.bit (j := 2) rfl
                  rw [H2.out] at c2
                  have c11 := P0.out.pv.bit (j := 11) rfl
                  rw [H11.out] at c11
                  have c64 := P0.out.pv.num (j := 64) (k := .u8) rfl
                  have t5 := P0.out.tre.var.tnum (j := 5) (k := .u8) rfl
                  clear hM
                  clear HN HM H22 H28 H2 H11
                  have lp1 := P0.out.pv.pld
                  go_wp2_with fail
                  refine (voi_any p W0).mono ?_
                  rintro _ W1 ⟨rfl, b1⟩
                  rw [HB.out]
                  have P1 : Hid (TP w W1 w.heap.size (w.heap.size + 1) Z h g o n c l p) := P0.out.below b1
                  clear b1 lp1 c75 c22 c28 c66 c2 c11 c64 t5 P0
                  have lt9 := P1.out.tre.var.tld
                  obtain ⟨U, sU, h1, h2, gU⟩ := P1.out.tre.tell (y := .slice (some ⟨g, o, none⟩) n c) rfl
                  have G : Hid (RvAt U (w.heap.size + 1) 31 (trc h (.slice (some ⟨g, o, none⟩) n c)) ∧ SlAt U (some ⟨g, o, none⟩) n c l ∧ OutAt U (.slice none 0 0) none ∧ Below w.heap.size w U) := ⟨h1, P1.out.sl.keptT P1.out.tre.out gU, rfl, h2⟩
                  clear h1 h2 gU
                  go_wp2
                  refine bodyPost_ret (results_tob Try.results8 _ _ _ _ _ rfl G.out.1) rfl ?_
                  exact ⟨some ⟨g, o, none⟩, c, .slice none 0 0, rfl, G.out.2⟩
                · have EC : ptxC h p = 3 := by unfold ptxC; simp [HN.out, HM.out, H22.out, H28.out, H2.out, H11.out, HB.out, hM, hT]
                  have E1 : OO = some (l.set k (waiP (sntP p))) := by rw [← EO.out, ptxO_yes (c := 3) (by rw [HP.out]; exact EC) (by decide), HP.out]; rfl
                  have E2 : UU = some (outI (k : Int) (msgP p)) := by rw [← EU.out, ptxU_yes (by rw [HP.out]; exact EC), HP.out]
                  subst E1
                  subst E2
                  clear EC EO EU
                  have c75 := P0.out.pv.num (j := 75) (k := .i64) rfl
                  rw [HN.out] at c75
                  have c22 := P0.out.pv.bit (j := 22) rfl
                  rw [H22.out] at c22
                  have c28 := P0.out.pv.bit (j := 28) rfl
                  rw [H28.out] at c28
                  have c66 := P0.out.pv.num (j := 66) (k := .u8) rfl
                  rw [HM.out] at c66
                  have c2 := P0.out.pv.bit (j := 2) rfl
                  rw [H2.out] at c2
                  have c11 := P0.out.pv.bit (j := 11) rfl
                  rw [H11.out] at c11
                  have c64 := P0.out.pv.num (j := 64) (k := .u8) rfl
                  have t5 := P0.out.tre.var.tnum (j := 5) (k := .u8) rfl
                  have H64 : Hid (p.nm 64 < 255) := by have := h.u8 (j := 5) rfl; exact (by omega : p.nm 64 < 255)
                  have HWK : Hid ((Lit.int .i64 (k : Int)).wf = true) := wi_k (by have := HL.out; omega)
                  clear hM
                  clear HN HM H22 H28 H2 H11
                  have lp1 := P0.out.pv.pld
                  go_wp2_with fail
                  refine (voi_any p W0).mono ?_
                  rintro _ W1 ⟨rfl, b1⟩
                  rw [HB.out]
                  have P1 : Hid (TP w W1 w.heap.size (w.heap.size + 1) Z h g o n c l p) := P0.out.below b1
                  have lp2 := P1.out.pv.pld
                  clear b1 lp1 c75 c22 c28 c66 c2 c11 c64 t5 P0
                  go_wp2_with fail
                  refine (msg_any p W1).mono ?_
                  rintro _ W2 ⟨rfl, b2⟩
                  obtain ⟨W3, s3, r3, b3, z3⟩ := var_m W2 (msgP p)
                  obtain ⟨mb, hmb⟩ : ∃ z, W2.heap.size = z := ⟨_, rfl⟩
                  rw [hmb] at s3 r3
                  have PX0' : Hid (PX w W3 h g o n c l p mb) := ⟨((P1.out.below b2).below b3).tre, ((P1.out.below b2).below b3).sl, r3⟩
                  clear b2 b3 r3 z3 lp2 P1
                  go_upto_region 13 with fail
                  clear s3 hmb
                  obtain ⟨RO, hRO⟩ : ∃ z, outR (k : Int) HWK.out (msgP p) = z := ⟨_, rfl⟩
                  have HRO : Hid (outR (k : Int) HWK.out (msgP p) = RO) := hRO
                  have HRO2 : Hid (outI (k : Int) (msgP p) = RO) := by rw [← hRO]; exact outI_is HWK.out _
                  clear hRO
                  have qO : ∀ q : World, (bdO #[(0, .int .i64 (k : Int)), (1, .agg (msgP p).cs)]).run Try.prog q = .ok (.agg RO.cs) q := fun q => by rw [← HRO.out]; exact bdO_is _ _ _ q
                  obtain ⟨FC, hFC⟩ : ∃ z : Array Value, #[.func (.func 29) #[] #[.pointer (some ⟨mb, 0, none⟩)], fv 25] = z := ⟨_, rfl⟩
                  have HFC : Hid (FC = #[.func (.func 29) #[] #[.pointer (some ⟨mb, 0, none⟩)], fv 25]) := hFC.symm
                  clear hFC
                  obtain ⟨X0, hX0⟩ : ∃ X0, World.drew W3 = X0 := ⟨_, rfl⟩
                  have PX0 : Hid (PX w X0 h g o n c l p mb) := by rw [← hX0]; exact PX0'.out.below (Below.refl _ _).drew
                  clear PX0'
                  refine wp_region_noPanic ?_
                  refine wp_region_held_drew (S := fun w' => RvAt w' w.heap.size 31 (trc h (.slice (some ⟨g, o, none⟩) n c)) ∧ RvAt w' mb 43 (msgP p).cs) (by kernel_rfl) (by rw [hX0]; exact PX0.out.held) (fun hHeld => ?_)
                  rw [hX0] at hHeld ⊢
                  clear hX0
                  refine wpAnyH_take (i := 0) (oi := { dst := some 66, op := Op.load 31 (Operand.tmp 2), type := 31, pos := "send.go:29", after := #[], guard := none }) (v := ?_) rfl (by kernel_rfl) (by kernel_rfl) (by kernel_rfl) (fun _ _ _ h => h) (Or.inl ⟨by rfl, ?_⟩) hHeld ?_
                  rotate_left
                  · intro W_ hSw_
                    have xt := hSw_.1.tld; have xm := hSw_.2.mld; clear hSw_
                    first | (go_simp; done) | (go_simp; with_reducible rfl)
                  rotate_left
                  try simp only [Act.put, List.setIfInBounds_toArray, List.set_cons_zero, List.set_cons_succ]
                  refine wpAnyH_take (i := 1) (oi := { dst := some 67, op := Op.move (Operand.tmp 1), type := 3, pos := "send.go:29", after := #[], guard := none }) (v := ?_) rfl (by kernel_rfl) (by kernel_rfl) (by kernel_rfl) (fun _ _ _ h => h) (Or.inl ⟨by rfl, ?_⟩) hHeld ?_
                  rotate_left
                  · intro W_ hSw_
                    have xt := hSw_.1.tld; have xm := hSw_.2.mld; clear hSw_
                    first | (go_simp; done) | (go_simp; with_reducible rfl)
                  rotate_left
                  try simp only [Act.put, List.setIfInBounds_toArray, List.set_cons_zero, List.set_cons_succ]
                  refine wpAnyH_take (i := 2) (oi := { dst := some 68, op := Op.move (Operand.tmp 9), type := 58, pos := "send.go:29", after := #[], guard := none }) (v := ?_) rfl (by kernel_rfl) (by kernel_rfl) (by kernel_rfl) (fun _ _ _ h => h) (Or.inl ⟨by rfl, ?_⟩) hHeld ?_
                  rotate_left
                  · intro W_ hSw_
                    have xt := hSw_.1.tld; have xm := hSw_.2.mld; clear hSw_
                    first | (go_simp; done) | (go_simp; with_reducible rfl)
                  rotate_left
                  try simp only [Act.put, List.setIfInBounds_toArray, List.set_cons_zero, List.set_cons_succ]
                  refine wpAnyH_take (i := 5) (oi := { dst := some 71, op := Op.move (Operand.tmp 1), type := 3, pos := "send.go:29", after := #[{ on := 9, ground := Ground.gcOnly Departure.lateStores }], guard := none }) (v := ?_) rfl (by kernel_rfl) (by kernel_rfl) (by kernel_rfl) (fun _ _ _ h => h) (Or.inl ⟨by rfl, ?_⟩) hHeld ?_
                  rotate_left
                  · intro W_ hSw_
                    have xt := hSw_.1.tld; have xm := hSw_.2.mld; clear hSw_
                    first | (go_simp; done) | (go_simp; with_reducible rfl)
                  rotate_left
                  try simp only [Act.put, List.setIfInBounds_toArray, List.set_cons_zero, List.set_cons_succ]
                  refine wpAnyH_take (i := 6) (oi := { dst := some 72, op := Op.load 43 (Operand.tmp 8), type := 43, pos := "send.go:29", after := #[{ on := 9, ground := Ground.gcOnly Departure.lateStores }], guard := none }) (v := ?_) rfl (by kernel_rfl) (by kernel_rfl) (by kernel_rfl) (fun _ _ _ h => h) (Or.inl ⟨by rfl, ?_⟩) hHeld ?_
                  rotate_left
                  · intro W_ hSw_
                    have xt := hSw_.1.tld; have xm := hSw_.2.mld; clear hSw_
                    first | (go_simp; done) | (go_simp; with_reducible rfl)
                  rotate_left
                  try simp only [Act.put, List.setIfInBounds_toArray, List.set_cons_zero, List.set_cons_succ]
                  refine wpAnyH_take (i := 7) (oi := { dst := some 73, op := Op.build 48 #[(0, Operand.tmp 71), (1, Operand.tmp 72)], type := 48, pos := "send.go:29", after := #[{ on := 5, ground := Ground.data }, { on := 6, ground := Ground.data }, { on := 9, ground := Ground.gcOnly Departure.lateStores }], guard := none }) (v := ?_) rfl (by kernel_rfl) (by kernel_rfl) (by kernel_rfl) (fun _ _ _ h => h) (Or.inl ⟨by rfl, ?_⟩) hHeld ?_
                  rotate_left
                  · intro W_ hSw_
                    have xt := hSw_.1.tld; have xm := hSw_.2.mld; clear hSw_
                    first | (go_simp; done) | (go_simp; with_reducible rfl)
                  rotate_left
                  try simp only [Act.put, List.setIfInBounds_toArray, List.set_cons_zero, List.set_cons_succ]
                  refine wpAnyH_ready (rs := [3, 8]) (by kernel_rfl) (by simp) ?_
                  refine AllReadyH.cons (o := { dst := some 69, op := Op.buildSlice 74 2 #[(0, Operand.tmp 68), (1, Operand.func 25)], type := 74, pos := "send.go:29", after := #[{ on := 2, ground := Ground.data }], guard := none }) rfl (fun K hK => ?_) (AllReadyH.cons (o := { dst := some 74, op := Op.buildSlice 33 1 #[(0, Operand.tmp 73)], type := 33, pos := "send.go:29", after := #[{ on := 7, ground := Ground.data }, { on := 9, ground := Ground.gcOnly Departure.lateStores }], guard := none }) rfl (fun K hK => ?_) AllReadyH.nil)
                  · skip
                    obtain ⟨Y1, hY, fY, bY⟩ := new_fn X0 FC
                    have qY := bsF2 (.func 29) (.func 25) #[] #[.pointer (some ⟨mb, 0, none⟩)] #[] #[] X0
                    rw [show X0.alloc (.cells #[.func (.func 29) #[] #[.pointer (some ⟨mb, 0, none⟩)], fv 25] 58) = Y1 from by rw [← hY, HFC.out]] at qY
                    have FN1 : Hid (FnAt Y1 X0.heap.size FC) := fY
                    have PX1 : Hid (PX w Y1 h g o n c l p mb) := PX0.out.below bY
                    clear fY bY hY
                    go_simp
                    clear qY hHeld
                    refine hK.out _ _ PX1.out.held (fun hHeld => ?_)
                    clear hK K
                    try simp only [Act.put, List.setIfInBounds_toArray, List.set_cons_zero, List.set_cons_succ]
                    refine wpAnyH_ready (rs := [4, 8]) (by kernel_rfl) (by simp) ?_
                    refine AllReadyH.cons (o := { dst := some 70, op := Op.call { callee := Callee.value (Operand.func 23), args := #[Operand.tmp 66, Operand.tmp 67, Operand.tmp 69], argTypes := #[31, 3, 74] }, type := 31, pos := "send.go:29", after := #[{ on := 0, ground := Ground.data }, { on := 1, ground := Ground.data }, { on := 3, ground := Ground.data }], guard := none }) rfl (fun K hK => ?_) (AllReadyH.cons (o := { dst := some 74, op := Op.buildSlice 33 1 #[(0, Operand.tmp 73)], type := 33, pos := "send.go:29", after := #[{ on := 7, ground := Ground.data }, { on := 9, ground := Ground.gcOnly Departure.lateStores }], guard := none }) rfl (fun K hK => ?_) AllReadyH.nil)
                    · skip
                      go_simp
                      refine (put2c_any h (some ⟨g, o, none⟩) n c l k X0.heap.size Y1 PX1.out.sl HL.out.2.1 HL.out.2.2 mb (by have := FN1.out; rw [HFC.out] at this; exact this) (msgP p) PX1.out.mv (by rw [HP.out]; exact msg_kind p) (by rw [HP.out]; exact H64.out)).mono ?_
                      rintro _ Y2 ⟨a2, c2, rfl, s2, b2⟩
                      rw [HP.out] at s2
                      have SL2 : Hid (SlAt Y2 a2 n c2 (l.set k (waiP (sntP p)))) := s2
                      have PX2 : Hid (PX w Y2 h g o n c l p mb) := PX1.out.below b2
                      have FN1_2 : Hid (FnAt Y2 X0.heap.size FC) := FN1.out.below b2
                      clear s2 b2 hHeld
                      refine hK.out _ _ PX2.out.held (fun hHeld => ?_)
                      clear hK K
                      try simp only [Act.put, List.setIfInBounds_toArray, List.set_cons_zero, List.set_cons_succ]
                      refine wpAnyH_ready (rs := [8, 9]) (by kernel_rfl) (by simp) ?_
                      refine AllReadyH.cons (o := { dst := some 74, op := Op.buildSlice 33 1 #[(0, Operand.tmp 73)], type := 33, pos := "send.go:29", after := #[{ on := 7, ground := Ground.data }, { on := 9, ground := Ground.gcOnly Departure.lateStores }], guard := none }) rfl (fun K hK => ?_) (AllReadyH.cons (o := { dst := none, op := Op.store 31 (Operand.tmp 4) (Operand.tmp 70), type := 0, pos := "send.go:29", after := #[{ on := 4, ground := Ground.data }, { on := 4, ground := Ground.chain }, { on := 0, ground := Ground.phase }, { on := 1, ground := Ground.phase }, { on := 2, ground := Ground.phase }, { on := 3, ground := Ground.phase }, { on := 4, ground := Ground.phase }, { on := 5, ground := Ground.textOnly Departure.lateStores }, { on := 6, ground := Ground.textOnly Departure.lateStores }, { on := 7, ground := Ground.textOnly Departure.lateStores }, { on := 8, ground := Ground.textOnly Departure.lateStores }], guard := none }) rfl (fun K hK => ?_) AllReadyH.nil)
                      · skip
                        obtain ⟨Y3, hY, fY, bY⟩ := new_ot Y2 RO.cs
                        have qY := bsO_is (k : Int) HWK.out (msgP p) Y2
                        rw [HRO.out, hY] at qY
                        have OT3 : Hid (RvAt Y3 Y2.heap.size 48 RO.cs) := fY
                        have PX3 : Hid (PX w Y3 h g o n c l p mb) := PX2.out.below bY
                        have FN1_2_3 : Hid (FnAt Y3 X0.heap.size FC) := FN1_2.out.below bY
                        have SL2_3 : Hid (SlAt Y3 a2 n c2 (l.set k (waiP (sntP p)))) := SL2.out.below bY
                        clear fY bY hY
                        go_simp
                        clear qY hHeld
                        refine hK.out _ _ PX3.out.held (fun hHeld => ?_)
                        clear hK K
                        try simp only [Act.put, List.setIfInBounds_toArray, List.set_cons_zero, List.set_cons_succ]
                        refine wpAnyH_ready (rs := [9]) (by kernel_rfl) (by simp) ?_
                        refine AllReadyH.cons (o := { dst := none, op := Op.store 31 (Operand.tmp 4) (Operand.tmp 70), type := 0, pos := "send.go:29", after := #[{ on := 4, ground := Ground.data }, { on := 4, ground := Ground.chain }, { on := 0, ground := Ground.phase }, { on := 1, ground := Ground.phase }, { on := 2, ground := Ground.phase }, { on := 3, ground := Ground.phase }, { on := 4, ground := Ground.phase }, { on := 5, ground := Ground.textOnly Departure.lateStores }, { on := 6, ground := Ground.textOnly Departure.lateStores }, { on := 7, ground := Ground.textOnly Departure.lateStores }, { on := 8, ground := Ground.textOnly Departure.lateStores }], guard := none }) rfl (fun K hK => ?_) AllReadyH.nil
                        obtain ⟨Y4, sU, h1, h2, gU⟩ := PX3.out.tre.tell (y := .slice a2 n c2) rfl
                        have SV4 : Hid (RvAt Y4 (w.heap.size + 1) 31 (trc h (.slice a2 n c2)) ∧ SlAt Y4 a2 n c2 (l.set k (waiP (sntP p))) ∧ Below w.heap.size w Y4) := ⟨h1, SL2_3.out.keptT PX3.out.tre.out gU, h2⟩
                        have HE4 : Hid (RvAt Y4 w.heap.size 31 (trc h (.slice (some ⟨g, o, none⟩) n c)) ∧ RvAt Y4 mb 43 (msgP p).cs) := PX3.out.kept gU
                        have OT3_4 : Hid (RvAt Y4 Y2.heap.size 48 RO.cs) := OT3.out.keptBut gU (by have := OT3.out.apart PX3.out.tre.out (by decide); simpa using this)
                        clear h1 h2 gU
                        go_simp
                        clear sU hHeld
                        refine hK.out _ _ HE4.out (fun hHeld => ?_)
                        clear hK K
                        try simp only [Act.put, List.setIfInBounds_toArray, List.set_cons_zero, List.set_cons_succ]
                        refine wpAnyH_take (i := 10) (oi := { dst := some 5, op := Op.assign (Operand.tmp 74), type := 33, pos := "send.go:29", after := #[{ on := 8, ground := Ground.data }, { on := 9, ground := Ground.chain }, { on := 0, ground := Ground.phase }, { on := 1, ground := Ground.phase }, { on := 2, ground := Ground.phase }, { on := 3, ground := Ground.phase }, { on := 4, ground := Ground.phase }, { on := 5, ground := Ground.phase }, { on := 6, ground := Ground.phase }, { on := 7, ground := Ground.phase }, { on := 8, ground := Ground.phase }, { on := 9, ground := Ground.phase }], guard := none }) (v := ?_) rfl (by kernel_rfl) (by kernel_rfl) (by kernel_rfl) (fun _ _ _ h => h) (Or.inl ⟨by rfl, ?_⟩) hHeld ?_
                        rotate_left
                        · intro W_ hSw_
                          have xt := hSw_.1.tld; have xm := hSw_.2.mld; clear hSw_
                          first | (go_simp; done) | (go_simp; with_reducible rfl)
                        rotate_left
                        try simp only [Act.put, List.setIfInBounds_toArray, List.set_cons_zero, List.set_cons_succ]
                        refine wpAnyH_take (i := 11) (oi := { dst := some 6, op := Op.assign (Operand.const (Value.bool true)), type := 4, pos := "send.go:29", after := #[{ on := 10, ground := Ground.chain }, { on := 0, ground := Ground.phase }, { on := 1, ground := Ground.phase }, { on := 2, ground := Ground.phase }, { on := 3, ground := Ground.phase }, { on := 4, ground := Ground.phase }, { on := 5, ground := Ground.phase }, { on := 6, ground := Ground.phase }, { on := 7, ground := Ground.phase }, { on := 8, ground := Ground.phase }, { on := 9, ground := Ground.phase }, { on := 10, ground := Ground.phase }], guard := none }) (v := ?_) rfl (by kernel_rfl) (by kernel_rfl) (by kernel_rfl) (fun _ _ _ h => h) (Or.inl ⟨by rfl, ?_⟩) hHeld ?_
                        rotate_left
                        · intro W_ hSw_
                          have xt := hSw_.1.tld; have xm := hSw_.2.mld; clear hSw_
                          first | (go_simp; done) | (go_simp; with_reducible rfl)
                        rotate_left
                        try simp only [Act.put, List.setIfInBounds_toArray, List.set_cons_zero, List.set_cons_succ]
                        refine wpAnyH_done (by kernel_rfl) ?_ _
                        refine NoPanic.normal ?_
                        clear hHeld
                        go_wp2
                        refine bodyPost_ret (results_tob Try.results8 _ _ _ _ _ rfl SV4.out.1) rfl ?_
                        exact ⟨a2, c2, _, rfl, SV4.out.2.1, ⟨_, rfl, by rw [← HRO2.out] at OT3_4; exact OT3_4.out⟩, SV4.out.2.2⟩
                      · skip
                        obtain ⟨Y3, sU, h1, h2, gU⟩ := PX2.out.tre.tell (y := .slice a2 n c2) rfl
                        have SV3 : Hid (RvAt Y3 (w.heap.size + 1) 31 (trc h (.slice a2 n c2)) ∧ SlAt Y3 a2 n c2 (l.set k (waiP (sntP p))) ∧ Below w.heap.size w Y3) := ⟨h1, SL2.out.keptT PX2.out.tre.out gU, h2⟩
                        have HE3 : Hid (RvAt Y3 w.heap.size 31 (trc h (.slice (some ⟨g, o, none⟩) n c)) ∧ RvAt Y3 mb 43 (msgP p).cs) := PX2.out.kept gU
                        clear h1 h2 gU
                        go_simp
                        clear sU hHeld
                        refine hK.out _ _ HE3.out (fun hHeld => ?_)
                        clear hK K
                        try simp only [Act.put, List.setIfInBounds_toArray, List.set_cons_zero, List.set_cons_succ]
                        refine wpAnyH_ready (rs := [8]) (by kernel_rfl) (by simp) ?_
                        refine AllReadyH.cons (o := { dst := some 74, op := Op.buildSlice 33 1 #[(0, Operand.tmp 73)], type := 33, pos := "send.go:29", after := #[{ on := 7, ground := Ground.data }, { on := 9, ground := Ground.gcOnly Departure.lateStores }], guard := none }) rfl (fun K hK => ?_) AllReadyH.nil
                        obtain ⟨Y4, hY, fY, bY⟩ := new_ot Y3 RO.cs
                        have qY := bsO_is (k : Int) HWK.out (msgP p) Y3
                        rw [HRO.out, hY] at qY
                        have OT4 : Hid (RvAt Y4 Y3.heap.size 48 RO.cs) := fY
                        have SV4 : Hid (RvAt Y4 (w.heap.size + 1) 31 (trc h (.slice a2 n c2)) ∧ SlAt Y4 a2 n c2 (l.set k (waiP (sntP p))) ∧ Below w.heap.size w Y4) := ⟨SV3.out.1.below bY, SV3.out.2.1.below bY, below_over SV3.out.2.2 bY⟩
                        have HE4 : Hid (RvAt Y4 w.heap.size 31 (trc h (.slice (some ⟨g, o, none⟩) n c)) ∧ RvAt Y4 mb 43 (msgP p).cs) := ⟨HE3.out.1.below bY, HE3.out.2.below bY⟩
                        clear fY bY hY
                        go_simp
                        clear qY hHeld
                        refine hK.out _ _ HE4.out (fun hHeld => ?_)
                        clear hK K
                        try simp only [Act.put, List.setIfInBounds_toArray, List.set_cons_zero, List.set_cons_succ]
                        refine wpAnyH_take (i := 10) (oi := { dst := some 5, op := Op.assign (Operand.tmp 74), type := 33, pos := "send.go:29", after := #[{ on := 8, ground := Ground.data }, { on := 9, ground := Ground.chain }, { on := 0, ground := Ground.phase }, { on := 1, ground := Ground.phase }, { on := 2, ground := Ground.phase }, { on := 3, ground := Ground.phase }, { on := 4, ground := Ground.phase }, { on := 5, ground := Ground.phase }, { on := 6, ground := Ground.phase }, { on := 7, ground := Ground.phase }, { on := 8, ground := Ground.phase }, { on := 9, ground := Ground.phase }], guard := none }) (v := ?_) rfl (by kernel_rfl) (by kernel_rfl) (by kernel_rfl) (fun _ _ _ h => h) (Or.inl ⟨by rfl, ?_⟩) hHeld ?_
                        rotate_left
                        · intro W_ hSw_
                          have xt := hSw_.1.tld; have xm := hSw_.2.mld; clear hSw_
                          first | (go_simp; done) | (go_simp; with_reducible rfl)
                        rotate_left
                        try simp only [Act.put, List.setIfInBounds_toArray, List.set_cons_zero, List.set_cons_succ]
                        refine wpAnyH_take (i := 11) (oi := { dst := some 6, op := Op.assign (Operand.const (Value.bool true)), type := 4, pos := "send.go:29", after := #[{ on := 10, ground := Ground.chain }, { on := 0, ground := Ground.phase }, { on := 1, ground := Ground.phase }, { on := 2, ground := Ground.phase }, { on := 3, ground := Ground.phase }, { on := 4, ground := Ground.phase }, { on := 5, ground := Ground.phase }, { on := 6, ground := Ground.phase }, { on := 7, ground := Ground.phase }, { on := 8, ground := Ground.phase }, { on := 9, ground := Ground.phase }, { on := 10, ground := Ground.phase }], guard := none }) (v := ?_) rfl (by kernel_rfl) (by kernel_rfl) (by kernel_rfl) (fun _ _ _ h => h) (Or.inl ⟨by rfl, ?_⟩) hHeld ?_
                        rotate_left
                        · intro W_ hSw_
                          have xt := hSw_.1.tld; have xm := hSw_.2.mld; clear hSw_
                          first | (go_simp; done) | (go_simp; with_reducible rfl)
                        rotate_left
                        try simp only [Act.put, List.setIfInBounds_toArray, List.set_cons_zero, List.set_cons_succ]
                        refine wpAnyH_done (by kernel_rfl) ?_ _
                        refine NoPanic.normal ?_
                        clear hHeld
                        go_wp2
                        refine bodyPost_ret (results_tob Try.results8 _ _ _ _ _ rfl SV4.out.1) rfl ?_
                        exact ⟨a2, c2, _, rfl, SV4.out.2.1, ⟨_, rfl, by rw [← HRO2.out] at OT4; exact OT4.out⟩, SV4.out.2.2⟩
                    · skip
                      obtain ⟨Y2, hY, fY, bY⟩ := new_ot Y1 RO.cs
                      have qY := bsO_is (k : Int) HWK.out (msgP p) Y1
                      rw [HRO.out, hY] at qY
                      have OT2 : Hid (RvAt Y2 Y1.heap.size 48 RO.cs) := fY
                      have PX2 : Hid (PX w Y2 h g o n c l p mb) := PX1.out.below bY
                      have FN1_2 : Hid (FnAt Y2 X0.heap.size FC) := FN1.out.below bY
                      clear fY bY hY
                      go_simp
                      clear qY hHeld
                      refine hK.out _ _ PX2.out.held (fun hHeld => ?_)
                      clear hK K
                      try simp only [Act.put, List.setIfInBounds_toArray, List.set_cons_zero, List.set_cons_succ]
                      refine wpAnyH_ready (rs := [4]) (by kernel_rfl) (by simp) ?_
                      refine AllReadyH.cons (o := { dst := some 70, op := Op.call { callee := Callee.value (Operand.func 23), args := #[Operand.tmp 66, Operand.tmp 67, Operand.tmp 69], argTypes := #[31, 3, 74] }, type := 31, pos := "send.go:29", after := #[{ on := 0, ground := Ground.data }, { on := 1, ground := Ground.data }, { on := 3, ground := Ground.data }], guard := none }) rfl (fun K hK => ?_) AllReadyH.nil
                      go_simp
                      refine (put2c_any h (some ⟨g, o, none⟩) n c l k X0.heap.size Y2 PX2.out.sl HL.out.2.1 HL.out.2.2 mb (by have := FN1_2.out; rw [HFC.out] at this; exact this) (msgP p) PX2.out.mv (by rw [HP.out]; exact msg_kind p) (by rw [HP.out]; exact H64.out)).mono ?_
                      rintro _ Y3 ⟨a2, c2, rfl, s2, b2⟩
                      rw [HP.out] at s2
                      have SL3 : Hid (SlAt Y3 a2 n c2 (l.set k (waiP (sntP p)))) := s2
                      have PX3 : Hid (PX w Y3 h g o n c l p mb) := PX2.out.below b2
                      have FN1_2_3 : Hid (FnAt Y3 X0.heap.size FC) := FN1_2.out.below b2
                      have OT2_3 : Hid (RvAt Y3 Y1.heap.size 48 RO.cs) := OT2.out.below b2
                      clear s2 b2 hHeld
                      refine hK.out _ _ PX3.out.held (fun hHeld => ?_)
                      clear hK K
                      try simp only [Act.put, List.setIfInBounds_toArray, List.set_cons_zero, List.set_cons_succ]
                      refine wpAnyH_ready (rs := [9]) (by kernel_rfl) (by simp) ?_
                      refine AllReadyH.cons (o := { dst := none, op := Op.store 31 (Operand.tmp 4) (Operand.tmp 70), type := 0, pos := "send.go:29", after := #[{ on := 4, ground := Ground.data }, { on := 4, ground := Ground.chain }, { on := 0, ground := Ground.phase }, { on := 1, ground := Ground.phase }, { on := 2, ground := Ground.phase }, { on := 3, ground := Ground.phase }, { on := 4, ground := Ground.phase }, { on := 5, ground := Ground.textOnly Departure.lateStores }, { on := 6, ground := Ground.textOnly Departure.lateStores }, { on := 7, ground := Ground.textOnly Departure.lateStores }, { on := 8, ground := Ground.textOnly Departure.lateStores }], guard := none }) rfl (fun K hK => ?_) AllReadyH.nil
                      obtain ⟨Y4, sU, h1, h2, gU⟩ := PX3.out.tre.tell (y := .slice a2 n c2) rfl
                      have SV4 : Hid (RvAt Y4 (w.heap.size + 1) 31 (trc h (.slice a2 n c2)) ∧ SlAt Y4 a2 n c2 (l.set k (waiP (sntP p))) ∧ Below w.heap.size w Y4) := ⟨h1, SL3.out.keptT PX3.out.tre.out gU, h2⟩
                      have HE4 : Hid (RvAt Y4 w.heap.size 31 (trc h (.slice (some ⟨g, o, none⟩) n c)) ∧ RvAt Y4 mb 43 (msgP p).cs) := PX3.out.kept gU
                      have OT2_3_4 : Hid (RvAt Y4 Y1.heap.size 48 RO.cs) := OT2_3.out.keptBut gU (by have := OT2_3.out.apart PX3.out.tre.out (by decide); simpa using this)
                      clear h1 h2 gU
                      go_simp
                      clear sU hHeld
                      refine hK.out _ _ HE4.out (fun hHeld => ?_)
                      clear hK K
                      try simp only [Act.put, List.setIfInBounds_toArray, List.set_cons_zero, List.set_cons_succ]
                      refine wpAnyH_take (i := 10) (oi := { dst := some 5, op := Op.assign (Operand.tmp 74), type := 33, pos := "send.go:29", after := #[{ on := 8, ground := Ground.data }, { on := 9, ground := Ground.chain }, { on := 0, ground := Ground.phase }, { on := 1, ground := Ground.phase }, { on := 2, ground := Ground.phase }, { on := 3, ground := Ground.phase }, { on := 4, ground := Ground.phase }, { on := 5, ground := Ground.phase }, { on := 6, ground := Ground.phase }, { on := 7, ground := Ground.phase }, { on := 8, ground := Ground.phase }, { on := 9, ground := Ground.phase }], guard := none }) (v := ?_) rfl (by kernel_rfl) (by kernel_rfl) (by kernel_rfl) (fun _ _ _ h => h) (Or.inl ⟨by rfl, ?_⟩) hHeld ?_
                      rotate_left
                      · intro W_ hSw_
                        have xt := hSw_.1.tld; have xm := hSw_.2.mld; clear hSw_
                        first | (go_simp; done) | (go_simp; with_reducible rfl)
                      rotate_left
                      try simp only [Act.put, List.setIfInBounds_toArray, List.set_cons_zero, List.set_cons_succ]
                      refine wpAnyH_take (i := 11) (oi := { dst := some 6, op := Op.assign (Operand.const (Value.bool true)), type := 4, pos := "send.go:29", after := #[{ on := 10, ground := Ground.chain }, { on := 0, ground := Ground.phase }, { on := 1, ground := Ground.phase }, { on := 2, ground := Ground.phase }, { on := 3, ground := Ground.phase }, { on := 4, ground := Ground.phase }, { on := 5, ground := Ground.phase }, { on := 6, ground := Ground.phase }, { on := 7, ground := Ground.phase }, { on := 8, ground := Ground.phase }, { on := 9, ground := Ground.phase }, { on := 10, ground := Ground.phase }], guard := none }) (v := ?_) rfl (by kernel_rfl) (by kernel_rfl) (by kernel_rfl) (fun _ _ _ h => h) (Or.inl ⟨by rfl, ?_⟩) hHeld ?_
                      rotate_left
                      · intro W_ hSw_
                        have xt := hSw_.1.tld; have xm := hSw_.2.mld; clear hSw_
                        first | (go_simp; done) | (go_simp; with_reducible rfl)
                      rotate_left
                      try simp only [Act.put, List.setIfInBounds_toArray, List.set_cons_zero, List.set_cons_succ]
                      refine wpAnyH_done (by kernel_rfl) ?_ _
                      refine NoPanic.normal ?_
                      clear hHeld
                      go_wp2
                      refine bodyPost_ret (results_tob Try.results8 _ _ _ _ _ rfl SV4.out.1) rfl ?_
                      exact ⟨a2, c2, _, rfl, SV4.out.2.1, ⟨_, rfl, by rw [← HRO2.out] at OT2_3_4; exact OT2_3_4.out⟩, SV4.out.2.2⟩
                  · skip
                    obtain ⟨Y1, hY, fY, bY⟩ := new_ot X0 RO.cs
                    have qY := bsO_is (k : Int) HWK.out (msgP p) X0
                    rw [HRO.out, hY] at qY
                    have OT1 : Hid (RvAt Y1 X0.heap.size 48 RO.cs) := fY
                    have PX1 : Hid (PX w Y1 h g o n c l p mb) := PX0.out.below bY
                    clear fY bY hY
                    go_simp
                    clear qY hHeld
                    refine hK.out _ _ PX1.out.held (fun hHeld => ?_)
                    clear hK K
                    try simp only [Act.put, List.setIfInBounds_toArray, List.set_cons_zero, List.set_cons_succ]
                    refine wpAnyH_ready (rs := [3]) (by kernel_rfl) (by simp) ?_
                    refine AllReadyH.cons (o := { dst := some 69, op := Op.buildSlice 74 2 #[(0, Operand.tmp 68), (1, Operand.func 25)], type := 74, pos := "send.go:29", after := #[{ on := 2, ground := Ground.data }], guard := none }) rfl (fun K hK => ?_) AllReadyH.nil
                    obtain ⟨Y2, hY, fY, bY⟩ := new_fn Y1 FC
                    have qY := bsF2 (.func 29) (.func 25) #[] #[.pointer (some ⟨mb, 0, none⟩)] #[] #[] Y1
                    rw [show Y1.alloc (.cells #[.func (.func 29) #[] #[.pointer (some ⟨mb, 0, none⟩)], fv 25] 58) = Y2 from by rw [← hY, HFC.out]] at qY
                    have FN2 : Hid (FnAt Y2 Y1.heap.size FC) := fY
                    have PX2 : Hid (PX w Y2 h g o n c l p mb) := PX1.out.below bY
                    have OT1_2 : Hid (RvAt Y2 X0.heap.size 48 RO.cs) := OT1.out.below bY
                    clear fY bY hY
                    go_simp
                    clear qY hHeld
                    refine hK.out _ _ PX2.out.held (fun hHeld => ?_)
                    clear hK K
                    try simp only [Act.put, List.setIfInBounds_toArray, List.set_cons_zero, List.set_cons_succ]
                    refine wpAnyH_ready (rs := [4]) (by kernel_rfl) (by simp) ?_
                    refine AllReadyH.cons (o := { dst := some 70, op := Op.call { callee := Callee.value (Operand.func 23), args := #[Operand.tmp 66, Operand.tmp 67, Operand.tmp 69], argTypes := #[31, 3, 74] }, type := 31, pos := "send.go:29", after := #[{ on := 0, ground := Ground.data }, { on := 1, ground := Ground.data }, { on := 3, ground := Ground.data }], guard := none }) rfl (fun K hK => ?_) AllReadyH.nil
                    go_simp
                    refine (put2c_any h (some ⟨g, o, none⟩) n c l k Y1.heap.size Y2 PX2.out.sl HL.out.2.1 HL.out.2.2 mb (by have := FN2.out; rw [HFC.out] at this; exact this) (msgP p) PX2.out.mv (by rw [HP.out]; exact msg_kind p) (by rw [HP.out]; exact H64.out)).mono ?_
                    rintro _ Y3 ⟨a2, c2, rfl, s2, b2⟩
                    rw [HP.out] at s2
                    have SL3 : Hid (SlAt Y3 a2 n c2 (l.set k (waiP (sntP p)))) := s2
                    have PX3 : Hid (PX w Y3 h g o n c l p mb) := PX2.out.below b2
                    have FN2_3 : Hid (FnAt Y3 Y1.heap.size FC) := FN2.out.below b2
                    have OT1_2_3 : Hid (RvAt Y3 X0.heap.size 48 RO.cs) := OT1_2.out.below b2
                    clear s2 b2 hHeld
                    refine hK.out _ _ PX3.out.held (fun hHeld => ?_)
                    clear hK K
                    try simp only [Act.put, List.setIfInBounds_toArray, List.set_cons_zero, List.set_cons_succ]
                    refine wpAnyH_ready (rs := [9]) (by kernel_rfl) (by simp) ?_
                    refine AllReadyH.cons (o := { dst := none, op := Op.store 31 (Operand.tmp 4) (Operand.tmp 70), type := 0, pos := "send.go:29", after := #[{ on := 4, ground := Ground.data }, { on := 4, ground := Ground.chain }, { on := 0, ground := Ground.phase }, { on := 1, ground := Ground.phase }, { on := 2, ground := Ground.phase }, { on := 3, ground := Ground.phase }, { on := 4, ground := Ground.phase }, { on := 5, ground := Ground.textOnly Departure.lateStores }, { on := 6, ground := Ground.textOnly Departure.lateStores }, { on := 7, ground := Ground.textOnly Departure.lateStores }, { on := 8, ground := Ground.textOnly Departure.lateStores }], guard := none }) rfl (fun K hK => ?_) AllReadyH.nil
                    obtain ⟨Y4, sU, h1, h2, gU⟩ := PX3.out.tre.tell (y := .slice a2 n c2) rfl
                    have SV4 : Hid (RvAt Y4 (w.heap.size + 1) 31 (trc h (.slice a2 n c2)) ∧ SlAt Y4 a2 n c2 (l.set k (waiP (sntP p))) ∧ Below w.heap.size w Y4) := ⟨h1, SL3.out.keptT PX3.out.tre.out gU, h2⟩
                    have HE4 : Hid (RvAt Y4 w.heap.size 31 (trc h (.slice (some ⟨g, o, none⟩) n c)) ∧ RvAt Y4 mb 43 (msgP p).cs) := PX3.out.kept gU
                    have OT1_2_3_4 : Hid (RvAt Y4 X0.heap.size 48 RO.cs) := OT1_2_3.out.keptBut gU (by have := OT1_2_3.out.apart PX3.out.tre.out (by decide); simpa using this)
                    clear h1 h2 gU
                    go_simp
                    clear sU hHeld
                    refine hK.out _ _ HE4.out (fun hHeld => ?_)
                    clear hK K
                    try simp only [Act.put, List.setIfInBounds_toArray, List.set_cons_zero, List.set_cons_succ]
                    refine wpAnyH_take (i := 10) (oi := { dst := some 5, op := Op.assign (Operand.tmp 74), type := 33, pos := "send.go:29", after := #[{ on := 8, ground := Ground.data }, { on := 9, ground := Ground.chain }, { on := 0, ground := Ground.phase }, { on := 1, ground := Ground.phase }, { on := 2, ground := Ground.phase }, { on := 3, ground := Ground.phase }, { on := 4, ground := Ground.phase }, { on := 5, ground := Ground.phase }, { on := 6, ground := Ground.phase }, { on := 7, ground := Ground.phase }, { on := 8, ground := Ground.phase }, { on := 9, ground := Ground.phase }], guard := none }) (v := ?_) rfl (by kernel_rfl) (by kernel_rfl) (by kernel_rfl) (fun _ _ _ h => h) (Or.inl ⟨by rfl, ?_⟩) hHeld ?_
                    rotate_left
                    · intro W_ hSw_
                      have xt := hSw_.1.tld; have xm := hSw_.2.mld; clear hSw_
                      first | (go_simp; done) | (go_simp; with_reducible rfl)
                    rotate_left
                    try simp only [Act.put, List.setIfInBounds_toArray, List.set_cons_zero, List.set_cons_succ]
                    refine wpAnyH_take (i := 11) (oi := { dst := some 6, op := Op.assign (Operand.const (Value.bool true)), type := 4, pos := "send.go:29", after := #[{ on := 10, ground := Ground.chain }, { on := 0, ground := Ground.phase }, { on := 1, ground := Ground.phase }, { on := 2, ground := Ground.phase }, { on := 3, ground := Ground.phase }, { on := 4, ground := Ground.phase }, { on := 5, ground := Ground.phase }, { on := 6, ground := Ground.phase }, { on := 7, ground := Ground.phase }, { on := 8, ground := Ground.phase }, { on := 9, ground := Ground.phase }, { on := 10, ground := Ground.phase }], guard := none }) (v := ?_) rfl (by kernel_rfl) (by kernel_rfl) (by kernel_rfl) (fun _ _ _ h => h) (Or.inl ⟨by rfl, ?_⟩) hHeld ?_
                    rotate_left
                    · intro W_ hSw_
                      have xt := hSw_.1.tld; have xm := hSw_.2.mld; clear hSw_
                      first | (go_simp; done) | (go_simp; with_reducible rfl)
                    rotate_left
                    try simp only [Act.put, List.setIfInBounds_toArray, List.set_cons_zero, List.set_cons_succ]
                    refine wpAnyH_done (by kernel_rfl) ?_ _
                    refine NoPanic.normal ?_
                    clear hHeld
                    go_wp2
                    refine bodyPost_ret (results_tob Try.results8 _ _ _ _ _ rfl SV4.out.1) rfl ?_
                    exact ⟨a2, c2, _, rfl, SV4.out.2.1, ⟨_, rfl, by rw [← HRO2.out] at OT1_2_3_4; exact OT1_2_3_4.out⟩, SV4.out.2.2⟩
              · have EC : ptxC h p = 0 := by unfold ptxC; simp [HN.out, HM.out, H22.out, H28.out, H2.out, H11.out, HB.out, hM, hT]
                have E1 : OO = none := by rw [← EO.out]; exact ptxO_no (by rw [HP.out]; exact EC)
                have E2 : UU = none := by rw [← EU.out]; exact ptxU_no (c := 0) (by rw [HP.out]; exact EC) (by decide)
                subst E1
                subst E2
                clear EC EO EU
                have c75 := P0.out.pv.num (j := 75) (k := .i64) rfl
                rw [HN.out] at c75
                have c22 := P0.out.pv.bit (j := 22) rfl
                rw [H22.out] at c22
                have c28 := P0.out.pv.bit (j := 28) rfl
                rw [H28.out] at c28
                have c66 := P0.out.pv.num (j := 66) (k := .u8) rfl
                rw [HM.out] at c66
                have c2 := P0.out.pv.bit (j := 2) rfl
                rw [H2.out] at c2
                have c11 := P0.out.pv.bit (j := 11) rfl
                rw [H11.out] at c11
                have c64 := P0.out.pv.num (j := 64) (k := .u8) rfl
                have t5 := P0.out.tre.var.tnum (j := 5) (k := .u8) rfl
                clear hM
                clear HN HM H22 H28 H2 H11
                have lt9 := P0.out.tre.var.tld
                obtain ⟨U, sU, h1, h2, gU⟩ := P0.out.tre.tell (y := .slice (some ⟨g, o, none⟩) n c) rfl
                have G : Hid (RvAt U (w.heap.size + 1) 31 (trc h (.slice (some ⟨g, o, none⟩) n c)) ∧ SlAt U (some ⟨g, o, none⟩) n c l ∧ OutAt U (.slice none 0 0) none ∧ Below w.heap.size w U) := ⟨h1, P0.out.sl.keptT P0.out.tre.out gU, rfl, h2⟩
                clear h1 h2 gU
                go_wp2
                refine bodyPost_ret (results_tob Try.results8 _ _ _ _ _ rfl G.out.1) rfl ?_
                exact ⟨some ⟨g, o, none⟩, c, .slice none 0 0, rfl, G.out.2⟩
      · have EC : ptxC h p = 0 := by unfold ptxC; simp [HN.out, HM.out, H22.out, H28.out, H2.out, H11.out, HB.out]
        have E1 : OO = none := by rw [← EO.out]; exact ptxO_no (by rw [HP.out]; exact EC)
        have E2 : UU = none := by rw [← EU.out]; exact ptxU_no (c := 0) (by rw [HP.out]; exact EC) (by decide)
        subst E1
        subst E2
        clear EC EO EU
        have c75 := P0.out.pv.num (j := 75) (k := .i64) rfl
        rw [HN.out] at c75
        have c22 := P0.out.pv.bit (j := 22) rfl
        rw [H22.out] at c22
        have c28 := P0.out.pv.bit (j := 28) rfl
        rw [H28.out] at c28
        have c66 := P0.out.pv.num (j := 66) (k := .u8) rfl
        rw [HM.out] at c66
        have c2 := P0.out.pv.bit (j := 2) rfl
        rw [H2.out] at c2
        have c11 := P0.out.pv.bit (j := 11) rfl
        rw [H11.out] at c11
        have c64 := P0.out.pv.num (j := 64) (k := .u8) rfl
        have t5 := P0.out.tre.var.tnum (j := 5) (k := .u8) rfl
        clear HN HM H22 H28 H2 H11
        have lt9 := P0.out.tre.var.tld
        obtain ⟨U, sU, h1, h2, gU⟩ := P0.out.tre.tell (y := .slice (some ⟨g, o, none⟩) n c) rfl
        have G : Hid (RvAt U (w.heap.size + 1) 31 (trc h (.slice (some ⟨g, o, none⟩) n c)) ∧ SlAt U (some ⟨g, o, none⟩) n c l ∧ OutAt U (.slice none 0 0) none ∧ Below w.heap.size w U) := ⟨h1, P0.out.sl.keptT P0.out.tre.out gU, rfl, h2⟩
        clear h1 h2 gU
        go_wp2
        refine bodyPost_ret (results_tob Try.results8 _ _ _ _ _ rfl G.out.1) rfl ?_
        exact ⟨some ⟨g, o, none⟩, c, .slice none 0 0, rfl, G.out.2⟩
  · have xN : (N == 1) = false := beq_eq_false_iff_ne.2 hN
    have yN : (N != 1) = true := by simp [hN]
    have EC : ptxC h p = 1 := by unfold ptxC; simp [HN.out, HM.out, H22.out, H28.out, H2.out, H11.out, HB.out, hN]
    have E1 : OO = some (l.set k (waiP (begP p))) := by rw [← EO.out, ptxO_yes (c := 1) (by rw [HP.out]; exact EC) (by decide), HP.out]; rfl
    have E2 : UU = none := by rw [← EU.out]; exact ptxU_no (c := 1) (by rw [HP.out]; exact EC) (by decide)
    subst E1
    subst E2
    clear EC EO EU
    have c75 := P0.out.pv.num (j := 75) (k := .i64) rfl
    rw [HN.out] at c75
    have c22 := P0.out.pv.bit (j := 22) rfl
    rw [H22.out] at c22
    have c28 := P0.out.pv.bit (j := 28) rfl
    rw [H28.out] at c28
    have c66 := P0.out.pv.num (j := 66) (k := .u8) rfl
    rw [HM.out] at c66
    have c2 := P0.out.pv.bit (j := 2) rfl
    rw [H2.out] at c2
    have c11 := P0.out.pv.bit (j := 11) rfl
    rw [H11.out] at c11
    have c64 := P0.out.pv.num (j := 64) (k := .u8) rfl
    have t5 := P0.out.tre.var.tnum (j := 5) (k := .u8) rfl
    clear hN
    clear HN HM H22 H28 H2 H11
    have lt9 := P0.out.tre.var.tld
    obtain ⟨Y, hY, fY, bY⟩ := new_fn W0 #[fv 24, fv 25]
    have qY := bsF2 (.func 24) (.func 25) #[] #[] #[] #[] W0
    rw [hY] at qY
    have Q : Hid (TP w Y w.heap.size (w.heap.size + 1) Z h g o n c l p ∧ FnAt Y W0.heap.size #[fv 24, fv 25]) := ⟨P0.out.below bY, fY⟩
    clear fY bY hY
    go_wp2_with fail
    refine (put2_any 24 begP chg_begin ent_begin h (some ⟨g, o, none⟩) n c l k W0.heap.size Y Q.out.1.sl HL.out.2.1 HL.out.2.2 Q.out.2).mono ?_
    rintro _ X2 ⟨a2, c2, rfl, s2, b2⟩
    rw [HP.out] at s2
    obtain ⟨U, sU, h1, h2, gU⟩ := (Q.out.1.tre.below b2).tell (y := .slice a2 n c2) rfl
    have G : Hid (RvAt U (w.heap.size + 1) 31 (trc h (.slice a2 n c2)) ∧ SlAt U a2 n c2 (l.set k (waiP (begP p))) ∧ OutAt U (.slice none 0 0) none ∧ Below w.heap.size w U) := ⟨h1, s2.keptT (Q.out.1.tre.below b2).out gU, rfl, h2⟩
    clear h1 h2 gU s2 b2
    go_wp2
    refine bodyPost_ret (results_tob Try.results8 _ _ _ _ _ rfl G.out.1) rfl ?_
    exact ⟨a2, c2, .slice none 0 0, rfl, G.out.2⟩
set_option maxHeartbeats 2000000 in
theorem ptx_out (h : Hd) (a : Option Addr) (n c : Nat) (l : List Pt) (i : Int) (w : World) (hs : SlAt w a n c l) (hn : n ≤ 1000) (hi : ¬ (0 ≤ i ∧ i < n)) :
    Calls Try.prog 8 #[.agg (trc h (.slice a n c)), .int .i64 i] w fun r w' => TOs w h n l none none r w' := by
  obtain ⟨W, hW, r0, r1, bW, zW⟩ := two_t w h (.slice a n c)
  have l0 := r0.tld
  have H : Hid (TS w W w.heap.size (w.heap.size + 1) h (.slice a n c) ∧ SlAt W a n c l) := ⟨⟨r0, r1, bW, by omega⟩, hs.below bW⟩
  have T : Hid _ := there_out (h := h) (a := a) (c := c) (w := W) hi
  clear hs r0 r1 bW zW hi
  go_enter Try.func8, Try.ntmps8
  go_wp2_with fail
  refine Calls.mono T.out ?_
  rintro _ V ⟨rfl, bV⟩
  have lV := (H.out.1.below bV).var.tld
  obtain ⟨U, sU, h1, h2, gU⟩ := (H.out.1.below bV).tell (y := .slice a n c) rfl
  have G : Hid (RvAt U (w.heap.size + 1) 31 (trc h (.slice a n c)) ∧ SlAt U a n c l ∧ OutAt U (.slice none 0 0) none ∧ Below w.heap.size w U) := ⟨h1, (H.out.2.below bV).keptT (H.out.1.below bV).out gU, rfl, h2⟩
  clear h1 h2 gU bV l0 T
  go_wp2
  refine bodyPost_ret (results_tob Try.results8 _ _ _ _ _ rfl G.out.1) rfl ?_
  exact ⟨a, c, .slice none 0 0, rfl, G.out.2⟩
theorem ptx_any (h : Hd) (a : Option Addr) (n c : Nat) (l : List Pt) (i : Int) (w : World) (hs : SlAt w a n c l) (hn : n ≤ 1000) :
    Calls Try.prog 8 #[.agg (trc h (.slice a n c)), .int .i64 i] w fun r w' => TOs w h n l (ptxI h l i) (ptxV h l i) r w' := by
  by_cases hi : 0 ≤ i ∧ i < (n : Int)
  · obtain ⟨k, rfl⟩ : ∃ k : Nat, i = (k : Int) := ⟨i.toNat, by omega⟩
    rw [ptxI_in (by rw [hs.len]; omega), ptxV_in (by rw [hs.len]; omega)]
    exact ptx_in h a n c l k w hs hn (by omega)
  · rw [ptxI_out (by rw [hs.len]; exact hi), ptxV_out (by rw [hs.len]; exact hi)]
    exact ptx_out h a n c l i w hs hn hi
end Go.Proofs.Ytllmadgonobdnaa
