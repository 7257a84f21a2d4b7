/-
  A step of a port that learns: its walk, for every tree.
-/
import Derived.Test.YtfjigbmhheekbabTcA
namespace Go.Proofs.Ytfjigbmhheekbab
set_option linter.unusedVariables false
set_option maxRecDepth 4000
set_option linter.unusedSimpArgs false
open Go.RowKit

attribute [local go_sem ↓] ldP stP stB stU stW ldT stT st32 alP
attribute [local go_sem] alP_run
set_option maxHeartbeats 4000000 in
theorem lea_in (h : Hd) (a : Option Addr) (n c : Nat) (l : List Pt) (k : Nat) (w : World) (hs : SlAt w a n c l) (hn : n ≤ 1000) (hk : k < n) :
    Calls Try.prog 9 #[.agg (trc h (.slice a n c)), .int .i64 (k : Int)] w fun r w' => TBs w h n l (leaO h l k) r w' := by
  obtain ⟨OO, hOO⟩ : ∃ z, leaO h l k = z := ⟨_, rfl⟩
  rw [hOO]
  have EO : Hid (leaO h l k = OO) := hOO
  clear hOO
  obtain ⟨g, o, rfl⟩ := hs.some' (by omega)
  have HL : Hid (l.length = n ∧ n ≤ 1000 ∧ k < n) := ⟨hs.len, hn, hk⟩
  have hkl : k < l.length := by rw [HL.out.1]; exact hk
  have hin0 : (0 : Int) ≤ (k : Int) := by omega
  have hin1 : (k : Int) < (n : Int) := by omega
  obtain ⟨W, hW, r0, r1, bW, zW⟩ := two_t w h (.slice (some ⟨g, o, none⟩) n c)
  have c16 := r0.t16
  have lp := (hs.below bW).ld (gtP_at hkl)
  obtain ⟨p, hp⟩ : ∃ p, gtP l k = p := ⟨_, rfl⟩
  rw [hp] at lp
  have HP : Hid (gtP l k = p) := hp
  obtain ⟨W0, s0, r0', b0, z0⟩ := var_p W p
  obtain ⟨Z, hZ⟩ : ∃ Z, W.heap.size = Z := ⟨_, rfl⟩
  rw [hZ] at s0 r0'
  have T0 : Hid (TP w W0 w.heap.size (w.heap.size + 1) Z h g o n c l p) := ⟨⟨r0.below b0, r1.below b0, below_over bW b0, by omega⟩, (hs.below bW).below b0, r0', by omega, hs.low (by omega)⟩
  obtain ⟨b7, h7⟩ : ∃ z, p.bt 7 = z := ⟨_, rfl⟩
  obtain ⟨b9, h9⟩ : ∃ z, p.bt 9 = z := ⟨_, rfl⟩
  obtain ⟨b10, h10⟩ : ∃ z, p.bt 10 = z := ⟨_, rfl⟩
  obtain ⟨PB, hPB⟩ : ∃ z, hasB p = z := ⟨_, rfl⟩
  have EP : Hid (hasB p = PB) := hPB
  obtain ⟨TB, hTB⟩ : ∃ z, tldB p = z := ⟨_, rfl⟩
  have ET : Hid (tldB p = TB) := hTB
  have EB : Hid (p.bt 7 = b7 ∧ p.bt 9 = b9 ∧ p.bt 10 = b10) := ⟨h7, h9, h10⟩
  clear hs hn hk r0 r1 bW zW b0 z0 r0' hp hkl h7 h9 h10 hPB hTB
  cases PB
  · cases b9
    · cases b10
      · cases TB
        · have E : OO = some (l.set k (quiP p)) := by
            rw [← EO.out]
            unfold leaO
            rw [HP.out]
            rw [if_neg (by rw [EP.out]; simp), if_pos (by rw [EP.out, EB.out.2.1, EB.out.2.2, ET.out]; simp)]
          have E : Hid (OO = some (l.set k (quiP p))) := E
          have c7 := T0.out.pv.pbit (j := 7) rfl
          rw [EB.out.1] at c7
          have c9 := T0.out.pv.pbit (j := 9) rfl
          rw [EB.out.2.1] at c9
          have c10 := T0.out.pv.pbit (j := 10) rfl
          rw [EB.out.2.2] at c10
          have lp0 := T0.out.pv.pld
          go_enter Try.func9, Try.ntmps9
          go_wp2_with fail
          refine (hasp_any p W0).mono ?_
          rintro _ W1 ⟨rfl, b1_⟩
          rw [EP.out]
          have T1 : Hid (TP w W1 w.heap.size (w.heap.size + 1) Z h g o n c l p) := T0.out.below b1_
          clear c7 c9 c10 lp0 b1_
          have c7 := T1.out.pv.pbit (j := 7) rfl
          rw [EB.out.1] at c7
          have c9 := T1.out.pv.pbit (j := 9) rfl
          rw [EB.out.2.1] at c9
          have c10 := T1.out.pv.pbit (j := 10) rfl
          rw [EB.out.2.2] at c10
          have lp1 := T1.out.pv.pld
          go_wp2_with fail
          refine (hasp_any p W1).mono ?_
          rintro _ W2 ⟨rfl, b2_⟩
          rw [EP.out]
          have T2 : Hid (TP w W2 w.heap.size (w.heap.size + 1) Z h g o n c l p) := T1.out.below b2_
          clear c7 c9 c10 lp1 b2_
          have c7 := T2.out.pv.pbit (j := 7) rfl
          rw [EB.out.1] at c7
          have c9 := T2.out.pv.pbit (j := 9) rfl
          rw [EB.out.2.1] at c9
          have c10 := T2.out.pv.pbit (j := 10) rfl
          rw [EB.out.2.2] at c10
          have lp2 := T2.out.pv.pld
          go_wp2_with fail
          refine (told_any p W2).mono ?_
          rintro _ W3 ⟨rfl, b3_⟩
          rw [ET.out]
          have T3 : Hid (TP w W3 w.heap.size (w.heap.size + 1) Z h g o n c l p) := T2.out.below b3_
          clear c7 c9 c10 lp2 b3_
          have c7 := T3.out.pv.pbit (j := 7) rfl
          rw [EB.out.1] at c7
          have c9 := T3.out.pv.pbit (j := 9) rfl
          rw [EB.out.2.1] at c9
          have c10 := T3.out.pv.pbit (j := 10) rfl
          rw [EB.out.2.2] at c10
          have lp3 := T3.out.pv.pld
          have lt0 := T3.out.tre.var.tld
          go_wp2_with fail
          refine (quiet_in h (some ⟨g, o, none⟩) n c l k W3 T3.out.sl HL.out.2.1 HL.out.2.2).mono ?_
          rintro _ X ⟨a2, c2, rfl, s2, b2⟩
          rw [HP.out] at s2
          obtain ⟨U, sU, h1, h2, gU⟩ := (T3.out.tre.below b2).tell (y := .slice a2 n c2) rfl
          have G : Hid (RvAt U (w.heap.size + 1) 31 (trc h (.slice a2 n c2)) ∧ SlAt U a2 n c2 (OO.getD l) ∧ Below w.heap.size w U ∧ OO.isSome = true) := by
            rw [E.out]
            exact ⟨h1, s2.keptT (T3.out.tre.below b2).out gU, h2, rfl⟩
          clear h1 h2 gU s2 b2
          go_wp2
          refine bodyPost_ret (results_tb Try.results9 _ _ _ _ _ rfl G.out.1) rfl ?_
          exact ⟨a2, c2, by rw [G.out.2.2.2]; rfl, G.out.2.1, G.out.2.2.1⟩
        · have E : OO = some (l.set k (lrnP p)) := by
            rw [← EO.out]
            unfold leaO
            rw [HP.out]
            rw [if_neg (by rw [EP.out]; simp), if_neg (by rw [EP.out, EB.out.2.1, EB.out.2.2, ET.out]; simp), if_pos ET.out]
          have E : Hid (OO = some (l.set k (lrnP p))) := E
          have c7 := T0.out.pv.pbit (j := 7) rfl
          rw [EB.out.1] at c7
          have c9 := T0.out.pv.pbit (j := 9) rfl
          rw [EB.out.2.1] at c9
          have c10 := T0.out.pv.pbit (j := 10) rfl
          rw [EB.out.2.2] at c10
          have lp0 := T0.out.pv.pld
          go_enter Try.func9, Try.ntmps9
          go_wp2_with fail
          refine (hasp_any p W0).mono ?_
          rintro _ W1 ⟨rfl, b1_⟩
          rw [EP.out]
          have T1 : Hid (TP w W1 w.heap.size (w.heap.size + 1) Z h g o n c l p) := T0.out.below b1_
          clear c7 c9 c10 lp0 b1_
          have c7 := T1.out.pv.pbit (j := 7) rfl
          rw [EB.out.1] at c7
          have c9 := T1.out.pv.pbit (j := 9) rfl
          rw [EB.out.2.1] at c9
          have c10 := T1.out.pv.pbit (j := 10) rfl
          rw [EB.out.2.2] at c10
          have lp1 := T1.out.pv.pld
          go_wp2_with fail
          refine (hasp_any p W1).mono ?_
          rintro _ W2 ⟨rfl, b2_⟩
          rw [EP.out]
          have T2 : Hid (TP w W2 w.heap.size (w.heap.size + 1) Z h g o n c l p) := T1.out.below b2_
          clear c7 c9 c10 lp1 b2_
          have c7 := T2.out.pv.pbit (j := 7) rfl
          rw [EB.out.1] at c7
          have c9 := T2.out.pv.pbit (j := 9) rfl
          rw [EB.out.2.1] at c9
          have c10 := T2.out.pv.pbit (j := 10) rfl
          rw [EB.out.2.2] at c10
          have lp2 := T2.out.pv.pld
          go_wp2_with fail
          refine (told_any p W2).mono ?_
          rintro _ W3 ⟨rfl, b3_⟩
          rw [ET.out]
          have T3 : Hid (TP w W3 w.heap.size (w.heap.size + 1) Z h g o n c l p) := T2.out.below b3_
          clear c7 c9 c10 lp2 b3_
          have c7 := T3.out.pv.pbit (j := 7) rfl
          rw [EB.out.1] at c7
          have c9 := T3.out.pv.pbit (j := 9) rfl
          rw [EB.out.2.1] at c9
          have c10 := T3.out.pv.pbit (j := 10) rfl
          rw [EB.out.2.2] at c10
          have lp3 := T3.out.pv.pld
          go_wp2_with fail
          refine (told_any p W3).mono ?_
          rintro _ W4 ⟨rfl, b4_⟩
          rw [ET.out]
          have T4 : Hid (TP w W4 w.heap.size (w.heap.size + 1) Z h g o n c l p) := T3.out.below b4_
          clear c7 c9 c10 lp3 b4_
          have c7 := T4.out.pv.pbit (j := 7) rfl
          rw [EB.out.1] at c7
          have c9 := T4.out.pv.pbit (j := 9) rfl
          rw [EB.out.2.1] at c9
          have c10 := T4.out.pv.pbit (j := 10) rfl
          rw [EB.out.2.2] at c10
          have lp4 := T4.out.pv.pld
          have lt0 := T4.out.tre.var.tld
          go_wp2_with fail
          refine (learns_in h (some ⟨g, o, none⟩) n c l k W4 T4.out.sl HL.out.2.1 HL.out.2.2).mono ?_
          rintro _ X ⟨a2, c2, rfl, s2, b2⟩
          rw [HP.out] at s2
          obtain ⟨U, sU, h1, h2, gU⟩ := (T4.out.tre.below b2).tell (y := .slice a2 n c2) rfl
          have G : Hid (RvAt U (w.heap.size + 1) 31 (trc h (.slice a2 n c2)) ∧ SlAt U a2 n c2 (OO.getD l) ∧ Below w.heap.size w U ∧ OO.isSome = true) := by
            rw [E.out]
            exact ⟨h1, s2.keptT (T4.out.tre.below b2).out gU, h2, rfl⟩
          clear h1 h2 gU s2 b2
          go_wp2
          refine bodyPost_ret (results_tb Try.results9 _ _ _ _ _ rfl G.out.1) rfl ?_
          exact ⟨a2, c2, by rw [G.out.2.2.2]; rfl, G.out.2.1, G.out.2.2.1⟩
      · cases TB
        · have E : OO = none := by
            rw [← EO.out]
            unfold leaO
            rw [HP.out]
            rw [if_neg (by rw [EP.out]; simp), if_neg (by rw [EP.out, EB.out.2.1, EB.out.2.2]; simp), if_neg (by rw [ET.out]; simp)]
          have E : Hid (OO = none) := E
          have c7 := T0.out.pv.pbit (j := 7) rfl
          rw [EB.out.1] at c7
          have c9 := T0.out.pv.pbit (j := 9) rfl
          rw [EB.out.2.1] at c9
          have c10 := T0.out.pv.pbit (j := 10) rfl
          rw [EB.out.2.2] at c10
          have lp0 := T0.out.pv.pld
          go_enter Try.func9, Try.ntmps9
          go_wp2_with fail
          refine (hasp_any p W0).mono ?_
          rintro _ W1 ⟨rfl, b1_⟩
          rw [EP.out]
          have T1 : Hid (TP w W1 w.heap.size (w.heap.size + 1) Z h g o n c l p) := T0.out.below b1_
          clear c7 c9 c10 lp0 b1_
          have c7 := T1.out.pv.pbit (j := 7) rfl
          rw [EB.out.1] at c7
          have c9 := T1.out.pv.pbit (j := 9) rfl
          rw [EB.out.2.1] at c9
          have c10 := T1.out.pv.pbit (j := 10) rfl
          rw [EB.out.2.2] at c10
          have lp1 := T1.out.pv.pld
          go_wp2_with fail
          refine (hasp_any p W1).mono ?_
          rintro _ W2 ⟨rfl, b2_⟩
          rw [EP.out]
          have T2 : Hid (TP w W2 w.heap.size (w.heap.size + 1) Z h g o n c l p) := T1.out.below b2_
          clear c7 c9 c10 lp1 b2_
          have c7 := T2.out.pv.pbit (j := 7) rfl
          rw [EB.out.1] at c7
          have c9 := T2.out.pv.pbit (j := 9) rfl
          rw [EB.out.2.1] at c9
          have c10 := T2.out.pv.pbit (j := 10) rfl
          rw [EB.out.2.2] at c10
          have lp2 := T2.out.pv.pld
          go_wp2_with fail
          refine (told_any p W2).mono ?_
          rintro _ W3 ⟨rfl, b3_⟩
          rw [ET.out]
          have T3 : Hid (TP w W3 w.heap.size (w.heap.size + 1) Z h g o n c l p) := T2.out.below b3_
          clear c7 c9 c10 lp2 b3_
          have c7 := T3.out.pv.pbit (j := 7) rfl
          rw [EB.out.1] at c7
          have c9 := T3.out.pv.pbit (j := 9) rfl
          rw [EB.out.2.1] at c9
          have c10 := T3.out.pv.pbit (j := 10) rfl
          rw [EB.out.2.2] at c10
          have lp3 := T3.out.pv.pld
          have lt0 := T3.out.tre.var.tld
          obtain ⟨U, sU, h1, h2, gU⟩ := T3.out.tre.tell (y := .slice (some ⟨g, o, none⟩) n c) rfl
          have G : Hid (RvAt U (w.heap.size + 1) 31 (trc h (.slice (some ⟨g, o, none⟩) n c)) ∧ SlAt U (some ⟨g, o, none⟩) n c (OO.getD l) ∧ Below w.heap.size w U ∧ OO.isSome = false) := by
            rw [E.out]
            exact ⟨h1, T3.out.sl.keptT T3.out.tre.out gU, h2, rfl⟩
          clear h1 h2 gU
          go_wp2
          refine bodyPost_ret (results_tb Try.results9 _ _ _ _ _ rfl G.out.1) rfl ?_
          exact ⟨some ⟨g, o, none⟩, c, by rw [G.out.2.2.2]; rfl, G.out.2.1, G.out.2.2.1⟩
        · have E : OO = some (l.set k (lrnP p)) := by
            rw [← EO.out]
            unfold leaO
            rw [HP.out]
            rw [if_neg (by rw [EP.out]; simp), if_neg (by rw [EP.out, EB.out.2.1, EB.out.2.2]; simp), if_pos ET.out]
          have E : Hid (OO = some (l.set k (lrnP p))) := E
          have c7 := T0.out.pv.pbit (j := 7) rfl
          rw [EB.out.1] at c7
          have c9 := T0.out.pv.pbit (j := 9) rfl
          rw [EB.out.2.1] at c9
          have c10 := T0.out.pv.pbit (j := 10) rfl
          rw [EB.out.2.2] at c10
          have lp0 := T0.out.pv.pld
          go_enter Try.func9, Try.ntmps9
          go_wp2_with fail
          refine (hasp_any p W0).mono ?_
          rintro _ W1 ⟨rfl, b1_⟩
          rw [EP.out]
          have T1 : Hid (TP w W1 w.heap.size (w.heap.size + 1) Z h g o n c l p) := T0.out.below b1_
          clear c7 c9 c10 lp0 b1_
          have c7 := T1.out.pv.pbit (j := 7) rfl
          rw [EB.out.1] at c7
          have c9 := T1.out.pv.pbit (j := 9) rfl
          rw [EB.out.2.1] at c9
          have c10 := T1.out.pv.pbit (j := 10) rfl
          rw [EB.out.2.2] at c10
          have lp1 := T1.out.pv.pld
          go_wp2_with fail
          refine (hasp_any p W1).mono ?_
          rintro _ W2 ⟨rfl, b2_⟩
          rw [EP.out]
          have T2 : Hid (TP w W2 w.heap.size (w.heap.size + 1) Z h g o n c l p) := T1.out.below b2_
          clear c7 c9 c10 lp1 b2_
          have c7 := T2.out.pv.pbit (j := 7) rfl
          rw [EB.out.1] at c7
          have c9 := T2.out.pv.pbit (j := 9) rfl
          rw [EB.out.2.1] at c9
          have c10 := T2.out.pv.pbit (j := 10) rfl
          rw [EB.out.2.2] at c10
          have lp2 := T2.out.pv.pld
          go_wp2_with fail
          refine (told_any p W2).mono ?_
          rintro _ W3 ⟨rfl, b3_⟩
          rw [ET.out]
          have T3 : Hid (TP w W3 w.heap.size (w.heap.size + 1) Z h g o n c l p) := T2.out.below b3_
          clear c7 c9 c10 lp2 b3_
          have c7 := T3.out.pv.pbit (j := 7) rfl
          rw [EB.out.1] at c7
          have c9 := T3.out.pv.pbit (j := 9) rfl
          rw [EB.out.2.1] at c9
          have c10 := T3.out.pv.pbit (j := 10) rfl
          rw [EB.out.2.2] at c10
          have lp3 := T3.out.pv.pld
          have lt0 := T3.out.tre.var.tld
          go_wp2_with fail
          refine (learns_in h (some ⟨g, o, none⟩) n c l k W3 T3.out.sl HL.out.2.1 HL.out.2.2).mono ?_
          rintro _ X ⟨a2, c2, rfl, s2, b2⟩
          rw [HP.out] at s2
          obtain ⟨U, sU, h1, h2, gU⟩ := (T3.out.tre.below b2).tell (y := .slice a2 n c2) rfl
          have G : Hid (RvAt U (w.heap.size + 1) 31 (trc h (.slice a2 n c2)) ∧ SlAt U a2 n c2 (OO.getD l) ∧ Below w.heap.size w U ∧ OO.isSome = true) := by
            rw [E.out]
            exact ⟨h1, s2.keptT (T3.out.tre.below b2).out gU, h2, rfl⟩
          clear h1 h2 gU s2 b2
          go_wp2
          refine bodyPost_ret (results_tb Try.results9 _ _ _ _ _ rfl G.out.1) rfl ?_
          exact ⟨a2, c2, by rw [G.out.2.2.2]; rfl, G.out.2.1, G.out.2.2.1⟩
    · cases TB
      · have E : OO = none := by
          rw [← EO.out]
          unfold leaO
          rw [HP.out]
          rw [if_neg (by rw [EP.out]; simp), if_neg (by rw [EP.out, EB.out.2.1]; simp), if_neg (by rw [ET.out]; simp)]
        have E : Hid (OO = none) := E
        have c7 := T0.out.pv.pbit (j := 7) rfl
        rw [EB.out.1] at c7
        have c9 := T0.out.pv.pbit (j := 9) rfl
        rw [EB.out.2.1] at c9
        have c10 := T0.out.pv.pbit (j := 10) rfl
        rw [EB.out.2.2] at c10
        have lp0 := T0.out.pv.pld
        go_enter Try.func9, Try.ntmps9
        go_wp2_with fail
        refine (hasp_any p W0).mono ?_
        rintro _ W1 ⟨rfl, b1_⟩
        rw [EP.out]
        have T1 : Hid (TP w W1 w.heap.size (w.heap.size + 1) Z h g o n c l p) := T0.out.below b1_
        clear c7 c9 c10 lp0 b1_
        have c7 := T1.out.pv.pbit (j := 7) rfl
        rw [EB.out.1] at c7
        have c9 := T1.out.pv.pbit (j := 9) rfl
        rw [EB.out.2.1] at c9
        have c10 := T1.out.pv.pbit (j := 10) rfl
        rw [EB.out.2.2] at c10
        have lp1 := T1.out.pv.pld
        go_wp2_with fail
        refine (hasp_any p W1).mono ?_
        rintro _ W2 ⟨rfl, b2_⟩
        rw [EP.out]
        have T2 : Hid (TP w W2 w.heap.size (w.heap.size + 1) Z h g o n c l p) := T1.out.below b2_
        clear c7 c9 c10 lp1 b2_
        have c7 := T2.out.pv.pbit (j := 7) rfl
        rw [EB.out.1] at c7
        have c9 := T2.out.pv.pbit (j := 9) rfl
        rw [EB.out.2.1] at c9
        have c10 := T2.out.pv.pbit (j := 10) rfl
        rw [EB.out.2.2] at c10
        have lp2 := T2.out.pv.pld
        go_wp2_with fail
        refine (told_any p W2).mono ?_
        rintro _ W3 ⟨rfl, b3_⟩
        rw [ET.out]
        have T3 : Hid (TP w W3 w.heap.size (w.heap.size + 1) Z h g o n c l p) := T2.out.below b3_
        clear c7 c9 c10 lp2 b3_
        have c7 := T3.out.pv.pbit (j := 7) rfl
        rw [EB.out.1] at c7
        have c9 := T3.out.pv.pbit (j := 9) rfl
        rw [EB.out.2.1] at c9
        have c10 := T3.out.pv.pbit (j := 10) rfl
        rw [EB.out.2.2] at c10
        have lp3 := T3.out.pv.pld
        have lt0 := T3.out.tre.var.tld
        obtain ⟨U, sU, h1, h2, gU⟩ := T3.out.tre.tell (y := .slice (some ⟨g, o, none⟩) n c) rfl
        have G : Hid (RvAt U (w.heap.size + 1) 31 (trc h (.slice (some ⟨g, o, none⟩) n c)) ∧ SlAt U (some ⟨g, o, none⟩) n c (OO.getD l) ∧ Below w.heap.size w U ∧ OO.isSome = false) := by
          rw [E.out]
          exact ⟨h1, T3.out.sl.keptT T3.out.tre.out gU, h2, rfl⟩
        clear h1 h2 gU
        go_wp2
        refine bodyPost_ret (results_tb Try.results9 _ _ _ _ _ rfl G.out.1) rfl ?_
        exact ⟨some ⟨g, o, none⟩, c, by rw [G.out.2.2.2]; rfl, G.out.2.1, G.out.2.2.1⟩
      · have E : OO = some (l.set k (lrnP p)) := by
          rw [← EO.out]
          unfold leaO
          rw [HP.out]
          rw [if_neg (by rw [EP.out]; simp), if_neg (by rw [EP.out, EB.out.2.1]; simp), if_pos ET.out]
        have E : Hid (OO = some (l.set k (lrnP p))) := E
        have c7 := T0.out.pv.pbit (j := 7) rfl
        rw [EB.out.1] at c7
        have c9 := T0.out.pv.pbit (j := 9) rfl
        rw [EB.out.2.1] at c9
        have c10 := T0.out.pv.pbit (j := 10) rfl
        rw [EB.out.2.2] at c10
        have lp0 := T0.out.pv.pld
        go_enter Try.func9, Try.ntmps9
        go_wp2_with fail
        refine (hasp_any p W0).mono ?_
        rintro _ W1 ⟨rfl, b1_⟩
        rw [EP.out]
        have T1 : Hid (TP w W1 w.heap.size (w.heap.size + 1) Z h g o n c l p) := T0.out.below b1_
        clear c7 c9 c10 lp0 b1_
        have c7 := T1.out.pv.pbit (j := 7) rfl
        rw [EB.out.1] at c7
        have c9 := T1.out.pv.pbit (j := 9) rfl
        rw [EB.out.2.1] at c9
        have c10 := T1.out.pv.pbit (j := 10) rfl
        rw [EB.out.2.2] at c10
        have lp1 := T1.out.pv.pld
        go_wp2_with fail
        refine (hasp_any p W1).mono ?_
        rintro _ W2 ⟨rfl, b2_⟩
        rw [EP.out]
        have T2 : Hid (TP w W2 w.heap.size (w.heap.size + 1) Z h g o n c l p) := T1.out.below b2_
        clear c7 c9 c10 lp1 b2_
        have c7 := T2.out.pv.pbit (j := 7) rfl
        rw [EB.out.1] at c7
        have c9 := T2.out.pv.pbit (j := 9) rfl
        rw [EB.out.2.1] at c9
        have c10 := T2.out.pv.pbit (j := 10) rfl
        rw [EB.out.2.2] at c10
        have lp2 := T2.out.pv.pld
        go_wp2_with fail
        refine (told_any p W2).mono ?_
        rintro _ W3 ⟨rfl, b3_⟩
        rw [ET.out]
        have T3 : Hid (TP w W3 w.heap.size (w.heap.size + 1) Z h g o n c l p) := T2.out.below b3_
        clear c7 c9 c10 lp2 b3_
        have c7 := T3.out.pv.pbit (j := 7) rfl
        rw [EB.out.1] at c7
        have c9 := T3.out.pv.pbit (j := 9) rfl
        rw [EB.out.2.1] at c9
        have c10 := T3.out.pv.pbit (j := 10) rfl
        rw [EB.out.2.2] at c10
        have lp3 := T3.out.pv.pld
        have lt0 := T3.out.tre.var.tld
        go_wp2_with fail
        refine (learns_in h (some ⟨g, o, none⟩) n c l k W3 T3.out.sl HL.out.2.1 HL.out.2.2).mono ?_
        rintro _ X ⟨a2, c2, rfl, s2, b2⟩
        rw [HP.out] at s2
        obtain ⟨U, sU, h1, h2, gU⟩ := (T3.out.tre.below b2).tell (y := .slice a2 n c2) rfl
        have G : Hid (RvAt U (w.heap.size + 1) 31 (trc h (.slice a2 n c2)) ∧ SlAt U a2 n c2 (OO.getD l) ∧ Below w.heap.size w U ∧ OO.isSome = true) := by
          rw [E.out]
          exact ⟨h1, s2.keptT (T3.out.tre.below b2).out gU, h2, rfl⟩
        clear h1 h2 gU s2 b2
        go_wp2
        refine bodyPost_ret (results_tb Try.results9 _ _ _ _ _ rfl G.out.1) rfl ?_
        exact ⟨a2, c2, by rw [G.out.2.2.2]; rfl, G.out.2.1, G.out.2.2.1⟩
  · cases b7
    · cases TB
      · have E : OO = none := by
          rw [← EO.out]
          unfold leaO
          rw [HP.out]
          rw [if_neg (by rw [EP.out, EB.out.1]; simp), if_neg (by rw [EP.out]; simp), if_neg (by rw [ET.out]; simp)]
        have E : Hid (OO = none) := E
        have c7 := T0.out.pv.pbit (j := 7) rfl
        rw [EB.out.1] at c7
        have c9 := T0.out.pv.pbit (j := 9) rfl
        rw [EB.out.2.1] at c9
        have c10 := T0.out.pv.pbit (j := 10) rfl
        rw [EB.out.2.2] at c10
        have lp0 := T0.out.pv.pld
        go_enter Try.func9, Try.ntmps9
        go_wp2_with fail
        refine (hasp_any p W0).mono ?_
        rintro _ W1 ⟨rfl, b1_⟩
        rw [EP.out]
        have T1 : Hid (TP w W1 w.heap.size (w.heap.size + 1) Z h g o n c l p) := T0.out.below b1_
        clear c7 c9 c10 lp0 b1_
        have c7 := T1.out.pv.pbit (j := 7) rfl
        rw [EB.out.1] at c7
        have c9 := T1.out.pv.pbit (j := 9) rfl
        rw [EB.out.2.1] at c9
        have c10 := T1.out.pv.pbit (j := 10) rfl
        rw [EB.out.2.2] at c10
        have lp1 := T1.out.pv.pld
        go_wp2_with fail
        refine (hasp_any p W1).mono ?_
        rintro _ W2 ⟨rfl, b2_⟩
        rw [EP.out]
        have T2 : Hid (TP w W2 w.heap.size (w.heap.size + 1) Z h g o n c l p) := T1.out.below b2_
        clear c7 c9 c10 lp1 b2_
        have c7 := T2.out.pv.pbit (j := 7) rfl
        rw [EB.out.1] at c7
        have c9 := T2.out.pv.pbit (j := 9) rfl
        rw [EB.out.2.1] at c9
        have c10 := T2.out.pv.pbit (j := 10) rfl
        rw [EB.out.2.2] at c10
        have lp2 := T2.out.pv.pld
        go_wp2_with fail
        refine (told_any p W2).mono ?_
        rintro _ W3 ⟨rfl, b3_⟩
        rw [ET.out]
        have T3 : Hid (TP w W3 w.heap.size (w.heap.size + 1) Z h g o n c l p) := T2.out.below b3_
        clear c7 c9 c10 lp2 b3_
        have c7 := T3.out.pv.pbit (j := 7) rfl
        rw [EB.out.1] at c7
        have c9 := T3.out.pv.pbit (j := 9) rfl
        rw [EB.out.2.1] at c9
        have c10 := T3.out.pv.pbit (j := 10) rfl
        rw [EB.out.2.2] at c10
        have lp3 := T3.out.pv.pld
        have lt0 := T3.out.tre.var.tld
        obtain ⟨U, sU, h1, h2, gU⟩ := T3.out.tre.tell (y := .slice (some ⟨g, o, none⟩) n c) rfl
        have G : Hid (RvAt U (w.heap.size + 1) 31 (trc h (.slice (some ⟨g, o, none⟩) n c)) ∧ SlAt U (some ⟨g, o, none⟩) n c (OO.getD l) ∧ Below w.heap.size w U ∧ OO.isSome = false) := by
          rw [E.out]
          exact ⟨h1, T3.out.sl.keptT T3.out.tre.out gU, h2, rfl⟩
        clear h1 h2 gU
        go_wp2
        refine bodyPost_ret (results_tb Try.results9 _ _ _ _ _ rfl G.out.1) rfl ?_
        exact ⟨some ⟨g, o, none⟩, c, by rw [G.out.2.2.2]; rfl, G.out.2.1, G.out.2.2.1⟩
      · have E : OO = some (l.set k (lrnP p)) := by
          rw [← EO.out]
          unfold leaO
          rw [HP.out]
          rw [if_neg (by rw [EP.out, EB.out.1]; simp), if_neg (by rw [EP.out]; simp), if_pos ET.out]
        have E : Hid (OO = some (l.set k (lrnP p))) := E
        have c7 := T0.out.pv.pbit (j := 7) rfl
        rw [EB.out.1] at c7
        have c9 := T0.out.pv.pbit (j := 9) rfl
        rw [EB.out.2.1] at c9
        have c10 := T0.out.pv.pbit (j := 10) rfl
        rw [EB.out.2.2] at c10
        have lp0 := T0.out.pv.pld
        go_enter Try.func9, Try.ntmps9
        go_wp2_with fail
        refine (hasp_any p W0).mono ?_
        rintro _ W1 ⟨rfl, b1_⟩
        rw [EP.out]
        have T1 : Hid (TP w W1 w.heap.size (w.heap.size + 1) Z h g o n c l p) := T0.out.below b1_
        clear c7 c9 c10 lp0 b1_
        have c7 := T1.out.pv.pbit (j := 7) rfl
        rw [EB.out.1] at c7
        have c9 := T1.out.pv.pbit (j := 9) rfl
        rw [EB.out.2.1] at c9
        have c10 := T1.out.pv.pbit (j := 10) rfl
        rw [EB.out.2.2] at c10
        have lp1 := T1.out.pv.pld
        go_wp2_with fail
        refine (hasp_any p W1).mono ?_
        rintro _ W2 ⟨rfl, b2_⟩
        rw [EP.out]
        have T2 : Hid (TP w W2 w.heap.size (w.heap.size + 1) Z h g o n c l p) := T1.out.below b2_
        clear c7 c9 c10 lp1 b2_
        have c7 := T2.out.pv.pbit (j := 7) rfl
        rw [EB.out.1] at c7
        have c9 := T2.out.pv.pbit (j := 9) rfl
        rw [EB.out.2.1] at c9
        have c10 := T2.out.pv.pbit (j := 10) rfl
        rw [EB.out.2.2] at c10
        have lp2 := T2.out.pv.pld
        go_wp2_with fail
        refine (told_any p W2).mono ?_
        rintro _ W3 ⟨rfl, b3_⟩
        rw [ET.out]
        have T3 : Hid (TP w W3 w.heap.size (w.heap.size + 1) Z h g o n c l p) := T2.out.below b3_
        clear c7 c9 c10 lp2 b3_
        have c7 := T3.out.pv.pbit (j := 7) rfl
        rw [EB.out.1] at c7
        have c9 := T3.out.pv.pbit (j := 9) rfl
        rw [EB.out.2.1] at c9
        have c10 := T3.out.pv.pbit (j := 10) rfl
        rw [EB.out.2.2] at c10
        have lp3 := T3.out.pv.pld
        have lt0 := T3.out.tre.var.tld
        go_wp2_with fail
        refine (learns_in h (some ⟨g, o, none⟩) n c l k W3 T3.out.sl HL.out.2.1 HL.out.2.2).mono ?_
        rintro _ X ⟨a2, c2, rfl, s2, b2⟩
        rw [HP.out] at s2
        obtain ⟨U, sU, h1, h2, gU⟩ := (T3.out.tre.below b2).tell (y := .slice a2 n c2) rfl
        have G : Hid (RvAt U (w.heap.size + 1) 31 (trc h (.slice a2 n c2)) ∧ SlAt U a2 n c2 (OO.getD l) ∧ Below w.heap.size w U ∧ OO.isSome = true) := by
          rw [E.out]
          exact ⟨h1, s2.keptT (T3.out.tre.below b2).out gU, h2, rfl⟩
        clear h1 h2 gU s2 b2
        go_wp2
        refine bodyPost_ret (results_tb Try.results9 _ _ _ _ _ rfl G.out.1) rfl ?_
        exact ⟨a2, c2, by rw [G.out.2.2.2]; rfl, G.out.2.1, G.out.2.2.1⟩
    · have E : OO = some (sprL l k (detP h p)) := by
        rw [← EO.out]
        unfold leaO
        rw [HP.out]
        rw [if_pos (by rw [EP.out, EB.out.1]; simp)]
      have E : Hid (OO = some (sprL l k (detP h p))) := E
      have c7 := T0.out.pv.pbit (j := 7) rfl
      rw [EB.out.1] at c7
      have c9 := T0.out.pv.pbit (j := 9) rfl
      rw [EB.out.2.1] at c9
      have c10 := T0.out.pv.pbit (j := 10) rfl
      rw [EB.out.2.2] at c10
      have lp0 := T0.out.pv.pld
      go_enter Try.func9, Try.ntmps9
      go_wp2_with fail
      refine (hasp_any p W0).mono ?_
      rintro _ W1 ⟨rfl, b1_⟩
      rw [EP.out]
      have T1 : Hid (TP w W1 w.heap.size (w.heap.size + 1) Z h g o n c l p) := T0.out.below b1_
      clear c7 c9 c10 lp0 b1_
      have c7 := T1.out.pv.pbit (j := 7) rfl
      rw [EB.out.1] at c7
      have c9 := T1.out.pv.pbit (j := 9) rfl
      rw [EB.out.2.1] at c9
      have c10 := T1.out.pv.pbit (j := 10) rfl
      rw [EB.out.2.2] at c10
      have lp1 := T1.out.pv.pld
      have lt0 := T1.out.tre.var.tld
      go_wp2_with fail
      refine (detected_in h (some ⟨g, o, none⟩) n c l k W1 T1.out.sl HL.out.2.1 HL.out.2.2).mono ?_
      rintro _ X ⟨a2, c2, rfl, s2, b2⟩
      rw [HP.out] at s2
      obtain ⟨U, sU, h1, h2, gU⟩ := (T1.out.tre.below b2).tell (y := .slice a2 n c2) rfl
      have G : Hid (RvAt U (w.heap.size + 1) 31 (trc h (.slice a2 n c2)) ∧ SlAt U a2 n c2 (OO.getD l) ∧ Below w.heap.size w U ∧ OO.isSome = true) := by
        rw [E.out]
        exact ⟨h1, s2.keptT (T1.out.tre.below b2).out gU, h2, rfl⟩
      clear h1 h2 gU s2 b2
      go_wp2
      refine bodyPost_ret (results_tb Try.results9 _ _ _ _ _ rfl G.out.1) rfl ?_
      exact ⟨a2, c2, by rw [G.out.2.2.2]; rfl, G.out.2.1, G.out.2.2.1⟩
end Go.Proofs.Ytfjigbmhheekbab
