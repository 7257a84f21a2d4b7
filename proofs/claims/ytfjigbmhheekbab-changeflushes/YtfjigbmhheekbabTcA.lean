/-
  A step of a port's state, and of its machine of changes: the walks of hasPlace, told and of the step from inactive, each for every port and tree.
-/
import Derived.Test.YtfjigbmhheekbabDee
namespace Go.Proofs.Ytfjigbmhheekbab
set_option linter.unusedVariables false
set_option maxRecDepth 4000
set_option linter.unusedSimpArgs false
open Go.RowKit

attribute [local go_sem ↓] ldP stP stB stU stW ldT stT st32 alP
attribute [local go_sem] alP_run
theorem hasp_any (p : Pt) (w : World) : Calls Try.prog 13 #[.agg p.cs] w fun r w' => r = .returned (.bool (hasB p)) ∧ Below w.heap.size w w' := by
  obtain ⟨W, hW, r0, bW, zW⟩ := new_p w p
  have c30 := r0.num (j := 30) (k := .i64) rfl
  have H : Hid (Below w.heap.size w W) := bW
  obtain ⟨B, hB⟩ : ∃ z, hasB p = z := ⟨_, rfl⟩
  rw [hB]
  have E : Hid (((p.nm 30 == 3) || (p.nm 30 == 4)) = B) := hB
  obtain ⟨N, hN⟩ : ∃ z, p.nm 30 = z := ⟨_, rfl⟩
  rw [hN] at c30 E
  clear r0 bW zW hB hN
  by_cases h3 : N = 3
  · subst h3
    go_enter Try.func13, Try.ntmps13
    go_wp2
    go_ret
    exact ⟨by rw [← E.out]; rfl, H.out⟩
  · have x3 : (N == 3) = false := beq_eq_false_iff_ne.2 h3
    clear h3
    go_enter Try.func13, Try.ntmps13
    go_wp2
    go_ret
    exact ⟨by rw [← E.out, x3]; rfl, H.out⟩
theorem told_any (p : Pt) (w : World) : Calls Try.prog 15 #[.agg p.cs] w fun r w' => r = .returned (.bool (tldB p)) ∧ Below w.heap.size w w' := by
  obtain ⟨W, hW, r0, bW, zW⟩ := new_p w p
  have c17 := r0.bit (j := 17) rfl
  have c19 := r0.bit (j := 19) rfl
  have c18 := r0.bit (j := 18) rfl
  have c27 := r0.bit (j := 27) rfl
  have H : Hid (Below w.heap.size w W) := bW
  obtain ⟨B, hB⟩ : ∃ z, tldB p = z := ⟨_, rfl⟩
  rw [hB]
  have E : Hid ((((p.bt 17 || p.bt 19) || p.bt 18) || p.bt 27) = B) := hB
  clear r0 bW zW hB
  obtain ⟨b17, h17⟩ : ∃ z, p.bt 17 = z := ⟨_, rfl⟩
  obtain ⟨b19, h19⟩ : ∃ z, p.bt 19 = z := ⟨_, rfl⟩
  obtain ⟨b18, h18⟩ : ∃ z, p.bt 18 = z := ⟨_, rfl⟩
  obtain ⟨b27, h27⟩ : ∃ z, p.bt 27 = z := ⟨_, rfl⟩
  rw [h17] at c17 E
  rw [h19] at c19 E
  rw [h18] at c18 E
  rw [h27] at c27 E
  clear h17 h19 h18 h27
  cases b17
  · cases b19
    · cases b18
      · go_enter Try.func15, Try.ntmps15
        go_wp2
        go_ret
        exact ⟨by rw [← E.out]; rfl, H.out⟩
      · go_enter Try.func15, Try.ntmps15
        go_wp2
        go_ret
        exact ⟨by rw [← E.out]; rfl, H.out⟩
    · go_enter Try.func15, Try.ntmps15
      go_wp2
      go_ret
      exact ⟨by rw [← E.out]; rfl, H.out⟩
  · go_enter Try.func15, Try.ntmps15
    go_wp2
    go_ret
    exact ⟨by rw [← E.out]; rfl, H.out⟩
set_option maxHeartbeats 4000000 in
theorem ina_in (h : Hd) (a : Option Addr) (n c : Nat) (l : List Pt) (k : Nat) (w : World) (hs : SlAt w a n c l) (hn : n ≤ 1000) (hk : k < n) :
    Calls Try.prog 8 #[.agg (trc h (.slice a n c)), .int .i64 (k : Int)] w fun r w' => TBs w h n l (inaO l k) r w' := by
  obtain ⟨OO, hOO⟩ : ∃ z, inaO l k = z := ⟨_, rfl⟩
  rw [hOO]
  have EO : Hid (inaO l k = OO) := hOO
  clear hOO
  obtain ⟨g, o, rfl⟩ := hs.some' (by omega)
  have HL : Hid (l.length = n ∧ n ≤ 1000 ∧ k < n) := ⟨hs.len, hn, hk⟩
  have hkl : k < l.length := by rw [HL.out.1]; exact hk
  have hin0 : (0 : Int) ≤ (k : Int) := by omega
  have hin1 : (k : Int) < (n : Int) := by omega
  obtain ⟨W, hW, r0, r1, bW, zW⟩ := two_t w h (.slice (some ⟨g, o, none⟩) n c)
  have c16 := r0.t16
  have lp := (hs.below bW).ld (gtP_at hkl)
  obtain ⟨p, hp⟩ : ∃ p, gtP l k = p := ⟨_, rfl⟩
  rw [hp] at lp
  have HP : Hid (gtP l k = p) := hp
  obtain ⟨W0, s0, r0', b0, z0⟩ := var_p W p
  obtain ⟨Z, hZ⟩ : ∃ Z, W.heap.size = Z := ⟨_, rfl⟩
  rw [hZ] at s0 r0'
  have T0 : Hid (TP w W0 w.heap.size (w.heap.size + 1) Z h g o n c l p) := ⟨⟨r0.below b0, r1.below b0, below_over bW b0, by omega⟩, (hs.below bW).below b0, r0', by omega, hs.low (by omega)⟩
  obtain ⟨b9, h9⟩ : ∃ z, p.bt 9 = z := ⟨_, rfl⟩
  obtain ⟨b6, h6⟩ : ∃ z, p.bt 6 = z := ⟨_, rfl⟩
  have EB : Hid (p.bt 9 = b9 ∧ p.bt 6 = b6) := ⟨h9, h6⟩
  clear hs hn hk r0 r1 bW zW b0 z0 r0' hp hkl h9 h6
  cases b9
  · have E : OO = none := by
      rw [← EO.out]
      unfold inaO
      rw [HP.out]
      rw [if_neg (by rw [EB.out.1]; simp)]
    have E : Hid (OO = none) := E
    have c9 := T0.out.pv.pbit (j := 9) rfl
    rw [EB.out.1] at c9
    have c6 := T0.out.pv.pbit (j := 6) rfl
    rw [EB.out.2] at c6
    have lt0 := T0.out.tre.var.tld
    go_enter Try.func8, Try.ntmps8
    obtain ⟨U, sU, h1, h2, gU⟩ := T0.out.tre.tell (y := .slice (some ⟨g, o, none⟩) n c) rfl
    have G : Hid (RvAt U (w.heap.size + 1) 31 (trc h (.slice (some ⟨g, o, none⟩) n c)) ∧ SlAt U (some ⟨g, o, none⟩) n c (OO.getD l) ∧ Below w.heap.size w U ∧ OO.isSome = false) := by
      rw [E.out]
      exact ⟨h1, T0.out.sl.keptT T0.out.tre.out gU, h2, rfl⟩
    clear h1 h2 gU
    go_wp2
    refine bodyPost_ret (results_tb Try.results8 _ _ _ _ _ rfl G.out.1) rfl ?_
    exact ⟨some ⟨g, o, none⟩, c, by rw [G.out.2.2.2]; rfl, G.out.2.1, G.out.2.2.1⟩
  · cases b6
    · have E : OO = some (l.set k (lrnP p)) := by
        rw [← EO.out]
        unfold inaO
        rw [HP.out]
        rw [if_pos (by rw [EB.out.1, EB.out.2]; simp)]
      have E : Hid (OO = some (l.set k (lrnP p))) := E
      have c9 := T0.out.pv.pbit (j := 9) rfl
      rw [EB.out.1] at c9
      have c6 := T0.out.pv.pbit (j := 6) rfl
      rw [EB.out.2] at c6
      have lt0 := T0.out.tre.var.tld
      go_enter Try.func8, Try.ntmps8
      go_wp2_with fail
      refine (learns_in h (some ⟨g, o, none⟩) n c l k W0 T0.out.sl HL.out.2.1 HL.out.2.2).mono ?_
      rintro _ X ⟨a2, c2, rfl, s2, b2⟩
      rw [HP.out] at s2
      obtain ⟨U, sU, h1, h2, gU⟩ := (T0.out.tre.below b2).tell (y := .slice a2 n c2) rfl
      have G : Hid (RvAt U (w.heap.size + 1) 31 (trc h (.slice a2 n c2)) ∧ SlAt U a2 n c2 (OO.getD l) ∧ Below w.heap.size w U ∧ OO.isSome = true) := by
        rw [E.out]
        exact ⟨h1, s2.keptT (T0.out.tre.below b2).out gU, h2, rfl⟩
      clear h1 h2 gU s2 b2
      go_wp2
      refine bodyPost_ret (results_tb Try.results8 _ _ _ _ _ rfl G.out.1) rfl ?_
      exact ⟨a2, c2, by rw [G.out.2.2.2]; rfl, G.out.2.1, G.out.2.2.1⟩
    · have E : OO = none := by
        rw [← EO.out]
        unfold inaO
        rw [HP.out]
        rw [if_neg (by rw [EB.out.1, EB.out.2]; simp)]
      have E : Hid (OO = none) := E
      have c9 := T0.out.pv.pbit (j := 9) rfl
      rw [EB.out.1] at c9
      have c6 := T0.out.pv.pbit (j := 6) rfl
      rw [EB.out.2] at c6
      have lt0 := T0.out.tre.var.tld
      go_enter Try.func8, Try.ntmps8
      obtain ⟨U, sU, h1, h2, gU⟩ := T0.out.tre.tell (y := .slice (some ⟨g, o, none⟩) n c) rfl
      have G : Hid (RvAt U (w.heap.size + 1) 31 (trc h (.slice (some ⟨g, o, none⟩) n c)) ∧ SlAt U (some ⟨g, o, none⟩) n c (OO.getD l) ∧ Below w.heap.size w U ∧ OO.isSome = false) := by
        rw [E.out]
        exact ⟨h1, T0.out.sl.keptT T0.out.tre.out gU, h2, rfl⟩
      clear h1 h2 gU
      go_wp2
      refine bodyPost_ret (results_tb Try.results8 _ _ _ _ _ rfl G.out.1) rfl ?_
      exact ⟨some ⟨g, o, none⟩, c, by rw [G.out.2.2.2]; rfl, G.out.2.1, G.out.2.2.1⟩
end Go.Proofs.Ytfjigbmhheekbab
