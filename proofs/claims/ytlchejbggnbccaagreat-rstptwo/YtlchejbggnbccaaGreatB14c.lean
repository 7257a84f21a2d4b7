/-
  A step of a port whose machine is active: its walk, for every tree. And what follows from it here.
-/
import Derived.Test.YtlchejbggnbccaaGreatBbb
import Derived.Test.YtlchejbggnbccaaGreatB14b
namespace Go.Proofs.YtlchejbggnbccaaGreat
set_option linter.unusedVariables false
set_option linter.unusedSimpArgs false
set_option maxRecDepth 4000
section
namespace S14
open Go.RowKit

attribute [local go_sem ↓] ldP stP stB stU stW ldT stT st32 alP
attribute [local go_sem] alP_run
set_option maxHeartbeats 4000000 in
theorem act_in (h : Hd) (a : Option Addr) (n c : Nat) (l : List Pt) (k : Nat) (w : World) (hs : SlAt w a n c l) (hn : n ≤ 1000) (hk : k < n) :
    Calls Tryz.prog 171 #[.agg (trc h (.slice a n c)), .int .i64 (k : Int)] w fun r w' => TBf w h a n l (actO h l k) r w' := by
  obtain ⟨OO, hOO⟩ : ∃ z, actO h l k = z := ⟨_, rfl⟩
  rw [hOO]
  have EO : Hid (actO h l k = OO) := hOO
  clear hOO
  obtain ⟨g, o, rfl⟩ := hs.some' (by omega)
  have HL : Hid (l.length = n ∧ n ≤ 1000 ∧ k < n) := ⟨hs.len, hn, hk⟩
  have hkl : k < l.length := by rw [HL.out.1]; exact hk
  have hin0 : (0 : Int) ≤ (k : Int) := by omega
  have hin1 : (k : Int) < (n : Int) := by omega
  obtain ⟨W, hW, r0, r1, bW, zW⟩ := two_t w h (.slice (some ⟨g, o, none⟩) n c)
  have c16 := r0.t16
  have lp := (hs.below bW).ld (gtP_at hkl)
  obtain ⟨p, hp⟩ : ∃ p, gtP l k = p := ⟨_, rfl⟩
  rw [hp] at lp
  have HP : Hid (gtP l k = p) := hp
  obtain ⟨W0, s0, r0', b0, z0⟩ := var_p W p
  obtain ⟨Z, hZ⟩ : ∃ Z, W.heap.size = Z := ⟨_, rfl⟩
  rw [hZ] at s0 r0'
  have T0 : Hid (TP w W0 w.heap.size (w.heap.size + 1) Z h g o n c l p) := ⟨⟨r0.below b0, r1.below b0, below_over bW b0, by omega⟩, (hs.below bW).below b0, r0', by omega, hs.low (by omega)⟩
  obtain ⟨b19, h19⟩ : ∃ z, p.bt 19 = z := ⟨_, rfl⟩
  obtain ⟨b17, h17⟩ : ∃ z, p.bt 17 = z := ⟨_, rfl⟩
  obtain ⟨b27, h27⟩ : ∃ z, p.bt 27 = z := ⟨_, rfl⟩
  obtain ⟨b18, h18⟩ : ∃ z, p.bt 18 = z := ⟨_, rfl⟩
  obtain ⟨PB, hPB⟩ : ∃ z, hasB p = z := ⟨_, rfl⟩
  have EP : Hid (hasB p = PB) := hPB
  have EB : Hid (p.bt 19 = b19 ∧ p.bt 17 = b17 ∧ p.bt 27 = b27 ∧ p.bt 18 = b18) := ⟨h19, h17, h27, h18⟩
  clear hs hn hk r0 r1 bW zW b0 z0 r0' hp hkl h19 h17 h27 h18 hPB
  cases PB
  · have E : OO = some (l.set k (lrnP p)) := by
      rw [← EO.out]
      unfold actO
      rw [HP.out]
      rw [if_pos EP.out]
    have E : Hid (OO = some (l.set k (lrnP p))) := E
    have c19 := T0.out.pv.pbit (j := 19) rfl
    rw [EB.out.1] at c19
    have c17 := T0.out.pv.pbit (j := 17) rfl
    rw [EB.out.2.1] at c17
    have c27 := T0.out.pv.pbit (j := 27) rfl
    rw [EB.out.2.2.1] at c27
    have c18 := T0.out.pv.pbit (j := 18) rfl
    rw [EB.out.2.2.2] at c18
    have lp0 := T0.out.pv.pld
    go_enter Tryz.func171, Tryz.ntmps171
    go_wp2_with fail
    refine (hasp_any p W0).mono ?_
    rintro _ W1 ⟨rfl, b1_⟩
    rw [EP.out]
    have T1 : Hid (TP w W1 w.heap.size (w.heap.size + 1) Z h g o n c l p) := T0.out.below b1_
    clear c19 c17 c27 c18 lp0 b1_
    have c19 := T1.out.pv.pbit (j := 19) rfl
    rw [EB.out.1] at c19
    have c17 := T1.out.pv.pbit (j := 17) rfl
    rw [EB.out.2.1] at c17
    have c27 := T1.out.pv.pbit (j := 27) rfl
    rw [EB.out.2.2.1] at c27
    have c18 := T1.out.pv.pbit (j := 18) rfl
    rw [EB.out.2.2.2] at c18
    have lp1 := T1.out.pv.pld
    have lt0 := T1.out.tre.var.tld
    go_wp2_with fail
    refine (learns_in h (some ⟨g, o, none⟩) n c l k W1 T1.out.sl HL.out.2.1 HL.out.2.2).mono ?_
    rintro _ X ⟨a2, c2, rfl, s2, b2, f2⟩
    have FR : Hid (Nw w a2) := f2.up T1.out.tre.bel.size
    clear f2
    rw [HP.out] at s2
    obtain ⟨U, sU, h1, h2, gU⟩ := (T1.out.tre.below b2).tell (y := .slice a2 n c2) rfl
    have G : Hid (RvAt U (w.heap.size + 1) 39 (trc h (.slice a2 n c2)) ∧ SlAt U a2 n c2 (OO.getD l) ∧ Below w.heap.size w U ∧ OO.isSome = true) := by
      rw [E.out]
      exact ⟨h1, s2.keptT (T1.out.tre.below b2).out gU, h2, rfl⟩
    clear h1 h2 gU s2 b2
    go_wp2
    refine bodyPost_ret (results_tb Tryz.results171 _ _ _ _ _ rfl G.out.1) rfl ?_
    exact ⟨a2, c2, by rw [G.out.2.2.2]; rfl, G.out.2.1, G.out.2.2.1, Or.inr FR.out⟩
  · cases b19
    · cases b17
      · cases b27
        · cases b18
          · have E : OO = none := by
              rw [← EO.out]
              unfold actO
              rw [HP.out]
              rw [if_neg (by rw [EP.out]; simp), if_neg (by rw [EB.out.1, EB.out.2.1]; simp), if_neg (by rw [EB.out.2.2.1]; simp), if_neg (by rw [EB.out.2.2.2]; simp)]
            have E : Hid (OO = none) := E
            have c19 := T0.out.pv.pbit (j := 19) rfl
            rw [EB.out.1] at c19
            have c17 := T0.out.pv.pbit (j := 17) rfl
            rw [EB.out.2.1] at c17
            have c27 := T0.out.pv.pbit (j := 27) rfl
            rw [EB.out.2.2.1] at c27
            have c18 := T0.out.pv.pbit (j := 18) rfl
            rw [EB.out.2.2.2] at c18
            have lp0 := T0.out.pv.pld
            go_enter Tryz.func171, Tryz.ntmps171
            go_wp2_with fail
            refine (hasp_any p W0).mono ?_
            rintro _ W1 ⟨rfl, b1_⟩
            rw [EP.out]
            have T1 : Hid (TP w W1 w.heap.size (w.heap.size + 1) Z h g o n c l p) := T0.out.below b1_
            clear c19 c17 c27 c18 lp0 b1_
            have c19 := T1.out.pv.pbit (j := 19) rfl
            rw [EB.out.1] at c19
            have c17 := T1.out.pv.pbit (j := 17) rfl
            rw [EB.out.2.1] at c17
            have c27 := T1.out.pv.pbit (j := 27) rfl
            rw [EB.out.2.2.1] at c27
            have c18 := T1.out.pv.pbit (j := 18) rfl
            rw [EB.out.2.2.2] at c18
            have lp1 := T1.out.pv.pld
            have lt0 := T1.out.tre.var.tld
            obtain ⟨U, sU, h1, h2, gU⟩ := T1.out.tre.tell (y := .slice (some ⟨g, o, none⟩) n c) rfl
            have G : Hid (RvAt U (w.heap.size + 1) 39 (trc h (.slice (some ⟨g, o, none⟩) n c)) ∧ SlAt U (some ⟨g, o, none⟩) n c (OO.getD l) ∧ Below w.heap.size w U ∧ OO.isSome = false) := by
              rw [E.out]
              exact ⟨h1, T1.out.sl.keptT T1.out.tre.out gU, h2, rfl⟩
            clear h1 h2 gU
            go_wp2
            refine bodyPost_ret (results_tb Tryz.results171 _ _ _ _ _ rfl G.out.1) rfl ?_
            exact ⟨some ⟨g, o, none⟩, c, by rw [G.out.2.2.2]; rfl, G.out.2.1, G.out.2.2.1, Or.inl rfl⟩
          · have E : OO = some (l.set k (ackP p)) := by
              rw [← EO.out]
              unfold actO
              rw [HP.out]
              rw [if_neg (by rw [EP.out]; simp), if_neg (by rw [EB.out.1, EB.out.2.1]; simp), if_neg (by rw [EB.out.2.2.1]; simp), if_pos EB.out.2.2.2]
            have E : Hid (OO = some (l.set k (ackP p))) := E
            have c19 := T0.out.pv.pbit (j := 19) rfl
            rw [EB.out.1] at c19
            have c17 := T0.out.pv.pbit (j := 17) rfl
            rw [EB.out.2.1] at c17
            have c27 := T0.out.pv.pbit (j := 27) rfl
            rw [EB.out.2.2.1] at c27
            have c18 := T0.out.pv.pbit (j := 18) rfl
            rw [EB.out.2.2.2] at c18
            have lp0 := T0.out.pv.pld
            go_enter Tryz.func171, Tryz.ntmps171
            go_wp2_with fail
            refine (hasp_any p W0).mono ?_
            rintro _ W1 ⟨rfl, b1_⟩
            rw [EP.out]
            have T1 : Hid (TP w W1 w.heap.size (w.heap.size + 1) Z h g o n c l p) := T0.out.below b1_
            clear c19 c17 c27 c18 lp0 b1_
            have c19 := T1.out.pv.pbit (j := 19) rfl
            rw [EB.out.1] at c19
            have c17 := T1.out.pv.pbit (j := 17) rfl
            rw [EB.out.2.1] at c17
            have c27 := T1.out.pv.pbit (j := 27) rfl
            rw [EB.out.2.2.1] at c27
            have c18 := T1.out.pv.pbit (j := 18) rfl
            rw [EB.out.2.2.2] at c18
            have lp1 := T1.out.pv.pld
            have lt0 := T1.out.tre.var.tld
            go_wp2_with fail
            refine (acknowledged_in h (some ⟨g, o, none⟩) n c l k W1 T1.out.sl HL.out.2.1 HL.out.2.2).mono ?_
            rintro _ X ⟨a2, c2, rfl, s2, b2, f2⟩
            have FR : Hid (Nw w a2) := f2.up T1.out.tre.bel.size
            clear f2
            rw [HP.out] at s2
            obtain ⟨U, sU, h1, h2, gU⟩ := (T1.out.tre.below b2).tell (y := .slice a2 n c2) rfl
            have G : Hid (RvAt U (w.heap.size + 1) 39 (trc h (.slice a2 n c2)) ∧ SlAt U a2 n c2 (OO.getD l) ∧ Below w.heap.size w U ∧ OO.isSome = true) := by
              rw [E.out]
              exact ⟨h1, s2.keptT (T1.out.tre.below b2).out gU, h2, rfl⟩
            clear h1 h2 gU s2 b2
            go_wp2
            refine bodyPost_ret (results_tb Tryz.results171 _ _ _ _ _ rfl G.out.1) rfl ?_
            exact ⟨a2, c2, by rw [G.out.2.2.2]; rfl, G.out.2.1, G.out.2.2.1, Or.inr FR.out⟩
        · have E : OO = some (l.set k (prgP h p)) := by
            rw [← EO.out]
            unfold actO
            rw [HP.out]
            rw [if_neg (by rw [EP.out]; simp), if_neg (by rw [EB.out.1, EB.out.2.1]; simp), if_pos EB.out.2.2.1]
          have E : Hid (OO = some (l.set k (prgP h p))) := E
          have c19 := T0.out.pv.pbit (j := 19) rfl
          rw [EB.out.1] at c19
          have c17 := T0.out.pv.pbit (j := 17) rfl
          rw [EB.out.2.1] at c17
          have c27 := T0.out.pv.pbit (j := 27) rfl
          rw [EB.out.2.2.1] at c27
          have c18 := T0.out.pv.pbit (j := 18) rfl
          rw [EB.out.2.2.2] at c18
          have lp0 := T0.out.pv.pld
          go_enter Tryz.func171, Tryz.ntmps171
          go_wp2_with fail
          refine (hasp_any p W0).mono ?_
          rintro _ W1 ⟨rfl, b1_⟩
          rw [EP.out]
          have T1 : Hid (TP w W1 w.heap.size (w.heap.size + 1) Z h g o n c l p) := T0.out.below b1_
          clear c19 c17 c27 c18 lp0 b1_
          have c19 := T1.out.pv.pbit (j := 19) rfl
          rw [EB.out.1] at c19
          have c17 := T1.out.pv.pbit (j := 17) rfl
          rw [EB.out.2.1] at c17
          have c27 := T1.out.pv.pbit (j := 27) rfl
          rw [EB.out.2.2.1] at c27
          have c18 := T1.out.pv.pbit (j := 18) rfl
          rw [EB.out.2.2.2] at c18
          have lp1 := T1.out.pv.pld
          have lt0 := T1.out.tre.var.tld
          go_wp2_with fail
          refine (propagating_in h (some ⟨g, o, none⟩) n c l k W1 T1.out.sl HL.out.2.1 HL.out.2.2).mono ?_
          rintro _ X ⟨a2, c2, rfl, s2, b2, f2⟩
          have FR : Hid (Nw w a2) := f2.up T1.out.tre.bel.size
          clear f2
          rw [HP.out] at s2
          obtain ⟨U, sU, h1, h2, gU⟩ := (T1.out.tre.below b2).tell (y := .slice a2 n c2) rfl
          have G : Hid (RvAt U (w.heap.size + 1) 39 (trc h (.slice a2 n c2)) ∧ SlAt U a2 n c2 (OO.getD l) ∧ Below w.heap.size w U ∧ OO.isSome = true) := by
            rw [E.out]
            exact ⟨h1, s2.keptT (T1.out.tre.below b2).out gU, h2, rfl⟩
          clear h1 h2 gU s2 b2
          go_wp2
          refine bodyPost_ret (results_tb Tryz.results171 _ _ _ _ _ rfl G.out.1) rfl ?_
          exact ⟨a2, c2, by rw [G.out.2.2.2]; rfl, G.out.2.1, G.out.2.2.1, Or.inr FR.out⟩
      · have E : OO = some (sprL l k (ntfP h p)) := by
          rw [← EO.out]
          unfold actO
          rw [HP.out]
          rw [if_neg (by rw [EP.out]; simp), if_pos (by rw [EB.out.1, EB.out.2.1]; simp)]
        have E : Hid (OO = some (sprL l k (ntfP h p))) := E
        have c19 := T0.out.pv.pbit (j := 19) rfl
        rw [EB.out.1] at c19
        have c17 := T0.out.pv.pbit (j := 17) rfl
        rw [EB.out.2.1] at c17
        have c27 := T0.out.pv.pbit (j := 27) rfl
        rw [EB.out.2.2.1] at c27
        have c18 := T0.out.pv.pbit (j := 18) rfl
        rw [EB.out.2.2.2] at c18
        have lp0 := T0.out.pv.pld
        go_enter Tryz.func171, Tryz.ntmps171
        go_wp2_with fail
        refine (hasp_any p W0).mono ?_
        rintro _ W1 ⟨rfl, b1_⟩
        rw [EP.out]
        have T1 : Hid (TP w W1 w.heap.size (w.heap.size + 1) Z h g o n c l p) := T0.out.below b1_
        clear c19 c17 c27 c18 lp0 b1_
        have c19 := T1.out.pv.pbit (j := 19) rfl
        rw [EB.out.1] at c19
        have c17 := T1.out.pv.pbit (j := 17) rfl
        rw [EB.out.2.1] at c17
        have c27 := T1.out.pv.pbit (j := 27) rfl
        rw [EB.out.2.2.1] at c27
        have c18 := T1.out.pv.pbit (j := 18) rfl
        rw [EB.out.2.2.2] at c18
        have lp1 := T1.out.pv.pld
        have lt0 := T1.out.tre.var.tld
        go_wp2_with fail
        refine (notified_in h (some ⟨g, o, none⟩) n c l k W1 T1.out.sl HL.out.2.1 HL.out.2.2).mono ?_
        rintro _ X ⟨a2, c2, rfl, s2, b2, f2⟩
        have FR : Hid (Nw w a2) := f2.up T1.out.tre.bel.size
        clear f2
        rw [HP.out] at s2
        obtain ⟨U, sU, h1, h2, gU⟩ := (T1.out.tre.below b2).tell (y := .slice a2 n c2) rfl
        have G : Hid (RvAt U (w.heap.size + 1) 39 (trc h (.slice a2 n c2)) ∧ SlAt U a2 n c2 (OO.getD l) ∧ Below w.heap.size w U ∧ OO.isSome = true) := by
          rw [E.out]
          exact ⟨h1, s2.keptT (T1.out.tre.below b2).out gU, h2, rfl⟩
        clear h1 h2 gU s2 b2
        go_wp2
        refine bodyPost_ret (results_tb Tryz.results171 _ _ _ _ _ rfl G.out.1) rfl ?_
        exact ⟨a2, c2, by rw [G.out.2.2.2]; rfl, G.out.2.1, G.out.2.2.1, Or.inr FR.out⟩
    · have E : OO = some (sprL l k (ntfP h p)) := by
        rw [← EO.out]
        unfold actO
        rw [HP.out]
        rw [if_neg (by rw [EP.out]; simp), if_pos (by rw [EB.out.1]; simp)]
      have E : Hid (OO = some (sprL l k (ntfP h p))) := E
      have c19 := T0.out.pv.pbit (j := 19) rfl
      rw [EB.out.1] at c19
      have c17 := T0.out.pv.pbit (j := 17) rfl
      rw [EB.out.2.1] at c17
      have c27 := T0.out.pv.pbit (j := 27) rfl
      rw [EB.out.2.2.1] at c27
      have c18 := T0.out.pv.pbit (j := 18) rfl
      rw [EB.out.2.2.2] at c18
      have lp0 := T0.out.pv.pld
      go_enter Tryz.func171, Tryz.ntmps171
      go_wp2_with fail
      refine (hasp_any p W0).mono ?_
      rintro _ W1 ⟨rfl, b1_⟩
      rw [EP.out]
      have T1 : Hid (TP w W1 w.heap.size (w.heap.size + 1) Z h g o n c l p) := T0.out.below b1_
      clear c19 c17 c27 c18 lp0 b1_
      have c19 := T1.out.pv.pbit (j := 19) rfl
      rw [EB.out.1] at c19
      have c17 := T1.out.pv.pbit (j := 17) rfl
      rw [EB.out.2.1] at c17
      have c27 := T1.out.pv.pbit (j := 27) rfl
      rw [EB.out.2.2.1] at c27
      have c18 := T1.out.pv.pbit (j := 18) rfl
      rw [EB.out.2.2.2] at c18
      have lp1 := T1.out.pv.pld
      have lt0 := T1.out.tre.var.tld
      go_wp2_with fail
      refine (notified_in h (some ⟨g, o, none⟩) n c l k W1 T1.out.sl HL.out.2.1 HL.out.2.2).mono ?_
      rintro _ X ⟨a2, c2, rfl, s2, b2, f2⟩
      have FR : Hid (Nw w a2) := f2.up T1.out.tre.bel.size
      clear f2
      rw [HP.out] at s2
      obtain ⟨U, sU, h1, h2, gU⟩ := (T1.out.tre.below b2).tell (y := .slice a2 n c2) rfl
      have G : Hid (RvAt U (w.heap.size + 1) 39 (trc h (.slice a2 n c2)) ∧ SlAt U a2 n c2 (OO.getD l) ∧ Below w.heap.size w U ∧ OO.isSome = true) := by
        rw [E.out]
        exact ⟨h1, s2.keptT (T1.out.tre.below b2).out gU, h2, rfl⟩
      clear h1 h2 gU s2 b2
      go_wp2
      refine bodyPost_ret (results_tb Tryz.results171 _ _ _ _ _ rfl G.out.1) rfl ?_
      exact ⟨a2, c2, by rw [G.out.2.2.2]; rfl, G.out.2.1, G.out.2.2.1, Or.inr FR.out⟩
end S14
end
section
namespace S14
open Go.RowKit

attribute [local go_sem ↓] ldP stP stB stU stW ldT stT st32 alP
attribute [local go_sem] alP_run
set_option maxHeartbeats 4000000 in
theorem tcm_in (h : Hd) (a : Option Addr) (n c : Nat) (l : List Pt) (k : Nat) (w : World) (hs : SlAt w a n c l) (hn : n ≤ 1000) (hk : k < n) :
    Calls Tryz.prog 134 #[.agg (trc h (.slice a n c)), .int .i64 (k : Int)] w fun r w' => TBf w h a n l (tcmO h l k) r w' := by
  obtain ⟨OO, hOO⟩ : ∃ z, tcmO h l k = z := ⟨_, rfl⟩
  rw [hOO]
  have EO : Hid (tcmO h l k = OO) := hOO
  clear hOO
  obtain ⟨g, o, rfl⟩ := hs.some' (by omega)
  have HK : Hid (k < l.length) := by rw [hs.len]; exact hk
  have hin0 : (0 : Int) ≤ (k : Int) := by omega
  have hin1 : (k : Int) < (n : Int) := by omega
  obtain ⟨W, hW, r0, r1, bW, zW⟩ := two_t w h (.slice (some ⟨g, o, none⟩) n c)
  have l0 := r0.tld
  have H : Hid (TS w W w.heap.size (w.heap.size + 1) h (.slice (some ⟨g, o, none⟩) n c) ∧ SlAt W (some ⟨g, o, none⟩) n c l ∧ n ≤ 1000 ∧ k < n) := ⟨⟨r0, r1, bW, by omega⟩, hs.below bW, hn, hk⟩
  have T : Hid _ := there_in (h := h) (a := some ⟨g, o, none⟩) (c := c) (w := W) hk
  obtain ⟨N, hN⟩ : ∃ z, (gtP l k).nm 74 = z := ⟨_, rfl⟩
  have HN : Hid ((gtP l k).nm 74 = N) := hN
  clear hs hn hk r0 r1 bW zW hN
  by_cases h1 : N = 1
  · subst h1
    have E : Hid (inaO l k = OO) := by rw [← EO.out]; unfold tcmO; rw [if_pos HN.out]; exact rfl
    go_enter Tryz.func134, Tryz.ntmps134
    go_wp2_with fail
    refine Calls.mono T.out ?_
    rintro _ V ⟨rfl, bV⟩
    have S := (H.out.2.1.below bV)
    have K : Hid (TS w V w.heap.size (w.heap.size + 1) h (.slice (some ⟨g, o, none⟩) n c) ∧ SlAt V (some ⟨g, o, none⟩) n c l) := ⟨H.out.1.below bV, S⟩
    have lV := K.out.1.var.tld
    have c16 := K.out.1.var.t16
    have c74 := S.cell (gtP_at HK.out) ((gtP l k).num (j := 74) (k := .i64) rfl) (by omega)
    rw [HN.out] at c74
    clear bV l0 S hW
    go_wp2_with fail
    refine (ina_in h (some ⟨g, o, none⟩) n c l k V K.out.2 H.out.2.2.1 H.out.2.2.2).mono ?_
    rintro _ X ⟨a2, c2, rfl, s2, b2, f2⟩
    have FR : Hid (Fro w (some ⟨g, o, none⟩) a2) := f2.up K.out.1.bel.size
    clear f2
    rw [E.out] at s2
    rw [E.out]
    obtain ⟨U, sU, h1, h2, gU⟩ := (K.out.1.below b2).tell (y := .slice a2 n c2) rfl
    have G : Hid (RvAt U (w.heap.size + 1) 39 (trc h (.slice a2 n c2)) ∧ SlAt U a2 n c2 (OO.getD l) ∧ Below w.heap.size w U) := ⟨h1, s2.keptT (K.out.1.below b2).out gU, h2⟩
    clear h1 h2 gU s2 b2
    go_wp2
    refine bodyPost_ret (results_tb Tryz.results134 _ _ _ _ _ rfl G.out.1) rfl ?_
    exact ⟨a2, c2, rfl, G.out.2.1, G.out.2.2, FR.out⟩
  have x1 : (N == 1) = false := beq_eq_false_iff_ne.2 h1
  by_cases h2 : N = 2
  · subst h2
    have E : Hid (leaO h l k = OO) := by rw [← EO.out]; unfold tcmO; rw [if_neg (by rw [HN.out]; decide), if_pos HN.out]; exact rfl
    clear h1 x1
    go_enter Tryz.func134, Tryz.ntmps134
    go_wp2_with fail
    refine Calls.mono T.out ?_
    rintro _ V ⟨rfl, bV⟩
    have S := (H.out.2.1.below bV)
    have K : Hid (TS w V w.heap.size (w.heap.size + 1) h (.slice (some ⟨g, o, none⟩) n c) ∧ SlAt V (some ⟨g, o, none⟩) n c l) := ⟨H.out.1.below bV, S⟩
    have lV := K.out.1.var.tld
    have c16 := K.out.1.var.t16
    have c74 := S.cell (gtP_at HK.out) ((gtP l k).num (j := 74) (k := .i64) rfl) (by omega)
    rw [HN.out] at c74
    clear bV l0 S hW
    go_wp2_with fail
    refine (lea_in h (some ⟨g, o, none⟩) n c l k V K.out.2 H.out.2.2.1 H.out.2.2.2).mono ?_
    rintro _ X ⟨a2, c2, rfl, s2, b2, f2⟩
    have FR : Hid (Fro w (some ⟨g, o, none⟩) a2) := f2.up K.out.1.bel.size
    clear f2
    rw [E.out] at s2
    rw [E.out]
    obtain ⟨U, sU, h1, h2, gU⟩ := (K.out.1.below b2).tell (y := .slice a2 n c2) rfl
    have G : Hid (RvAt U (w.heap.size + 1) 39 (trc h (.slice a2 n c2)) ∧ SlAt U a2 n c2 (OO.getD l) ∧ Below w.heap.size w U) := ⟨h1, s2.keptT (K.out.1.below b2).out gU, h2⟩
    clear h1 h2 gU s2 b2
    go_wp2
    refine bodyPost_ret (results_tb Tryz.results134 _ _ _ _ _ rfl G.out.1) rfl ?_
    exact ⟨a2, c2, rfl, G.out.2.1, G.out.2.2, FR.out⟩
  have x2 : (N == 2) = false := beq_eq_false_iff_ne.2 h2
  by_cases h3 : N = 3
  · subst h3
    have E : Hid (actO h l k = OO) := by rw [← EO.out]; unfold tcmO; rw [if_neg (by rw [HN.out]; decide), if_neg (by rw [HN.out]; decide), if_pos HN.out]; exact rfl
    clear h1 h2 x1 x2
    go_enter Tryz.func134, Tryz.ntmps134
    go_wp2_with fail
    refine Calls.mono T.out ?_
    rintro _ V ⟨rfl, bV⟩
    have S := (H.out.2.1.below bV)
    have K : Hid (TS w V w.heap.size (w.heap.size + 1) h (.slice (some ⟨g, o, none⟩) n c) ∧ SlAt V (some ⟨g, o, none⟩) n c l) := ⟨H.out.1.below bV, S⟩
    have lV := K.out.1.var.tld
    have c16 := K.out.1.var.t16
    have c74 := S.cell (gtP_at HK.out) ((gtP l k).num (j := 74) (k := .i64) rfl) (by omega)
    rw [HN.out] at c74
    clear bV l0 S hW
    go_wp2_with fail
    refine (act_in h (some ⟨g, o, none⟩) n c l k V K.out.2 H.out.2.2.1 H.out.2.2.2).mono ?_
    rintro _ X ⟨a2, c2, rfl, s2, b2, f2⟩
    have FR : Hid (Fro w (some ⟨g, o, none⟩) a2) := f2.up K.out.1.bel.size
    clear f2
    rw [E.out] at s2
    rw [E.out]
    obtain ⟨U, sU, h1, h2, gU⟩ := (K.out.1.below b2).tell (y := .slice a2 n c2) rfl
    have G : Hid (RvAt U (w.heap.size + 1) 39 (trc h (.slice a2 n c2)) ∧ SlAt U a2 n c2 (OO.getD l) ∧ Below w.heap.size w U) := ⟨h1, s2.keptT (K.out.1.below b2).out gU, h2⟩
    clear h1 h2 gU s2 b2
    go_wp2
    refine bodyPost_ret (results_tb Tryz.results134 _ _ _ _ _ rfl G.out.1) rfl ?_
    exact ⟨a2, c2, rfl, G.out.2.1, G.out.2.2, FR.out⟩
  have x3 : (N == 3) = false := beq_eq_false_iff_ne.2 h3
  have E : Hid (some (l.set k (quiP (gtP l k))) = OO) := by rw [← EO.out]; unfold tcmO; rw [if_neg (by rw [HN.out]; exact h1), if_neg (by rw [HN.out]; exact h2), if_neg (by rw [HN.out]; exact h3)]; exact rfl
  clear h1 h2 h3
  go_enter Tryz.func134, Tryz.ntmps134
  go_wp2_with fail
  refine Calls.mono T.out ?_
  rintro _ V ⟨rfl, bV⟩
  have S := (H.out.2.1.below bV)
  have K : Hid (TS w V w.heap.size (w.heap.size + 1) h (.slice (some ⟨g, o, none⟩) n c) ∧ SlAt V (some ⟨g, o, none⟩) n c l) := ⟨H.out.1.below bV, S⟩
  have lV := K.out.1.var.tld
  have c16 := K.out.1.var.t16
  have c74 := S.cell (gtP_at HK.out) ((gtP l k).num (j := 74) (k := .i64) rfl) (by omega)
  rw [HN.out] at c74
  clear bV l0 S hW
  go_wp2_with fail
  refine (quiet_in h (some ⟨g, o, none⟩) n c l k V K.out.2 H.out.2.2.1 H.out.2.2.2).mono ?_
  rintro _ X ⟨a2, c2, rfl, s2, b2, f2⟩
  have FR : Hid (Fro w (some ⟨g, o, none⟩) a2) := Or.inr (f2.up K.out.1.bel.size)
  clear f2
  obtain ⟨U, sU, h1, h2, gU⟩ := (K.out.1.below b2).tell (y := .slice a2 n c2) rfl
  have G : Hid (RvAt U (w.heap.size + 1) 39 (trc h (.slice a2 n c2)) ∧ SlAt U a2 n c2 (OO.getD l) ∧ Below w.heap.size w U ∧ OO.isSome = true) := by
    rw [← E.out]
    exact ⟨h1, s2.keptT (K.out.1.below b2).out gU, h2, rfl⟩
  clear h1 h2 gU s2 b2
  go_wp2
  refine bodyPost_ret (results_tb Tryz.results134 _ _ _ _ _ rfl G.out.1) rfl ?_
  exact ⟨a2, c2, by rw [G.out.2.2.2]; rfl, G.out.2.1, G.out.2.2.1, FR.out⟩
end S14
end
end Go.Proofs.YtlchejbggnbccaaGreat
