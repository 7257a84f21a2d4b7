/-
  The definition: the walk of Tcm, for every tree.
-/
import Derived.Test.YtfjigbmhheekbaaRfL
import Derived.Test.YtfjigbmhheekbaaRfT
namespace Go.Proofs.Ytfjigbmhheekbaa
set_option linter.unusedVariables false
set_option maxRecDepth 4000
set_option linter.unusedSimpArgs false
open Go.RowKit

attribute [local go_sem ↓] ldP stP stB stU stW ldT stT st32 alP
attribute [local go_sem] alP_run
set_option maxHeartbeats 2000000 in
theorem rtcm_out (h : Hd) (a : Option Addr) (n c : Nat) (l : List Pt) (i : Int) (w : World) (hs : SlAt w a n c l) (hi : ¬ (0 ≤ i ∧ i < n)) :
    Calls Try.prog 19 #[.agg (trc h (.slice a n c)), .int .i64 i] w fun r w' => TBs w h n l none r w' := by
  obtain ⟨W, hW, r0, r1, bW, zW⟩ := two_t w h (.slice a n c)
  have l0 := r0.tld
  have H : Hid (TS w W w.heap.size (w.heap.size + 1) h (.slice a n c) ∧ SlAt W a n c l) := ⟨⟨r0, r1, bW, by omega⟩, hs.below bW⟩
  have T : Hid _ := has_out (h := h) (a := a) (c := c) (w := W) hi
  clear hs r0 r1 bW zW hi
  go_enter Try.func19, Try.ntmps19
  go_wp2_with fail
  refine Calls.mono T.out ?_
  rintro _ V ⟨rfl, bV⟩
  have lV := (H.out.1.below bV).var.tld
  obtain ⟨U, sU, h1, h2, gU⟩ := (H.out.1.below bV).tell (y := .slice a n c) rfl
  have G : Hid (RvAt U (w.heap.size + 1) 43 (trc h (.slice a n c)) ∧ SlAt U a n c l ∧ Below w.heap.size w U) := ⟨h1, (H.out.2.below bV).keptT (H.out.1.below bV).out gU, h2⟩
  clear h1 h2 gU bV l0 T
  go_wp2
  refine bodyPost_ret (results_tb Try.results19 _ _ _ _ _ rfl G.out.1) rfl ?_
  exact ⟨a, c, rfl, G.out.2⟩
set_option maxHeartbeats 4000000 in
theorem rtcm_in (h : Hd) (a : Option Addr) (n c : Nat) (l : List Pt) (k : Nat) (w : World) (hs : SlAt w a n c l) (hn : n ≤ 1000) (hk : k < n) :
    Calls Try.prog 19 #[.agg (trc h (.slice a n c)), .int .i64 (k : Int)] w fun r w' => TBs w h n l (tcmO h l k) r w' := by
  obtain ⟨OO, hOO⟩ : ∃ z, tcmO h l k = z := ⟨_, rfl⟩
  rw [hOO]
  have EO : Hid (tcmO h l k = OO) := hOO
  clear hOO
  obtain ⟨g, o, rfl⟩ := hs.some' (by omega)
  have HL : Hid (l.length = n ∧ n ≤ 1000 ∧ k < n ∧ k < l.length) := ⟨hs.len, hn, hk, by rw [hs.len]; exact hk⟩
  have hin0 : (0 : Int) ≤ (k : Int) := by omega
  have hin1 : (k : Int) < (n : Int) := by omega
  obtain ⟨W, hW, r0, r1, bW, zW⟩ := two_t w h (.slice (some ⟨g, o, none⟩) n c)
  have GL : g < w.heap.size := hs.low (by omega)
  have l0 := r0.tld
  have GLH : Hid (g < w.heap.size) := GL
  have H : Hid (TS w W w.heap.size (w.heap.size + 1) h (.slice (some ⟨g, o, none⟩) n c) ∧ SlAt W (some ⟨g, o, none⟩) n c l) := ⟨⟨r0, r1, bW, by omega⟩, hs.below bW⟩
  have T : Hid _ := has_in (h := h) (a := some ⟨g, o, none⟩) (c := c) (w := W) hk
  obtain ⟨p, hp⟩ : ∃ p, gtP l k = p := ⟨_, rfl⟩
  have HP : Hid (gtP l k = p) := hp
  obtain ⟨N, hN⟩ : ∃ z, p.nm 74 = z := ⟨_, rfl⟩
  have HN : Hid (p.nm 74 = N) := hN
  obtain ⟨PB, hPB⟩ : ∃ z, hasB p = z := ⟨_, rfl⟩
  have EP : Hid (hasB p = PB) := hPB
  have EP2 : Hid (((p.nm 30 == 3) || (p.nm 30 == 4)) = PB) := hPB
  obtain ⟨b9, h9⟩ : ∃ z, p.bt 9 = z := ⟨_, rfl⟩
  have H9 : Hid (p.bt 9 = b9) := h9
  clear h9
  obtain ⟨b6, h6⟩ : ∃ z, p.bt 6 = z := ⟨_, rfl⟩
  have H6 : Hid (p.bt 6 = b6) := h6
  clear h6
  clear hs hn hk r0 r1 bW zW hp hN hPB GL
  go_enter Try.func19, Try.ntmps19
  go_wp2_with fail
  refine Calls.mono T.out ?_
  rintro _ V ⟨rfl, bV⟩
  have K : Hid (TS w V w.heap.size (w.heap.size + 1) h (.slice (some ⟨g, o, none⟩) n c) ∧ SlAt V (some ⟨g, o, none⟩) n c l) := ⟨H.out.1.below bV, H.out.2.below bV⟩
  have c16 := K.out.1.var.t16
  have lp := K.out.2.ld (gtP_at HL.out.2.2.2)
  rw [HP.out] at lp
  obtain ⟨W0, s0, r0', b0, z0⟩ := var_p V p
  have ltz : w.heap.size ≤ V.heap.size := K.out.1.bel.size
  obtain ⟨Z, hZ⟩ : ∃ Z, V.heap.size = Z := ⟨_, rfl⟩
  rw [hZ] at s0 r0' ltz
  have T0 : Hid (TV w W0 w.heap.size (w.heap.size + 1) Z h (some ⟨g, o, none⟩) n c l p) := ⟨K.out.1.below b0, K.out.2.below b0, r0', ltz, Nat.le_refl _, by omega, fun x e => by cases e; have := GLH.out; show g ≠ Z; omega⟩
  have R := r0'.rdE
  clear b0 z0 r0' ltz bV l0 hW H T
  go_upto_region 4 with fail
  refine wp_plain (C := fun w' => w' = W0) rfl ?_
  refine q_put (v := .pointer (some ⟨Z, 0 + 30, none⟩)) (yq rfl (Rn.qt (qfield rfl rfl fp30))) ?_
  try simp only [Act.put, List.setIfInBounds_toArray, List.set_cons_zero, List.set_cons_succ]
  refine q_put (v := .int .i64 (p.nm 30)) (yq rfl (Rn.qt (qload rfl rfl (R.role rfl)))) ?_
  try simp only [Act.put, List.setIfInBounds_toArray, List.set_cons_zero, List.set_cons_succ]
  refine q_put (v := .bool ((p.nm 30) == 3)) (yq rfl (Rn.qt (qbin rfl rfl rfl (eg_role _ _ _ _ _) (eq_role _ _)))) ?_
  try simp only [Act.put, List.setIfInBounds_toArray, List.set_cons_zero, List.set_cons_succ]
  refine q_put (v := .bool ((p.nm 30) == 3)) (yq rfl (Rn.qt (qmove rfl rfl))) ?_
  try simp only [Act.put, List.setIfInBounds_toArray, List.set_cons_zero, List.set_cons_succ]
  refine q_put (v := gd ((p.nm 30) == 3) false (.pointer (some ⟨Z, 0 + 30, none⟩))) (yq1 rfl rfl (fun e => Rn.qt (qfield rfl rfl fp30))) ?_
  try simp only [Act.put, List.setIfInBounds_toArray, List.set_cons_zero, List.set_cons_succ]
  refine q_put (v := gd ((p.nm 30) == 3) false (.int .i64 (p.nm 30))) (yq1 rfl rfl (fun e => Rn.qt (qload rfl (on e rfl) (R.role rfl)))) ?_
  try simp only [Act.put, List.setIfInBounds_toArray, List.set_cons_zero, List.set_cons_succ]
  refine q_put (v := gd ((p.nm 30) == 3) false (.bool ((p.nm 30) == 4))) (yq1 rfl rfl (fun e => Rn.qt (qbin rfl (on e rfl) rfl (eg_role _ _ _ _ _) (eq_role _ _)))) ?_
  try simp only [Act.put, List.setIfInBounds_toArray, List.set_cons_zero, List.set_cons_succ]
  refine q_put (v := .bool (((p.nm 30) == 3) || ((p.nm 30) == 4))) (yq rfl (Rn.qt (qpick rfl rfl (pkO rfl rfl)))) ?_
  try simp only [Act.put, List.setIfInBounds_toArray, List.set_cons_zero, List.set_cons_succ]
  refine q_put (v := .bool (((p.nm 30) == 3) || ((p.nm 30) == 4))) (yq rfl (Rn.qt (qassign rfl rfl))) ?_
  try simp only [Act.put, List.setIfInBounds_toArray, List.set_cons_zero, List.set_cons_succ]
  refine wpQuiet_nil ?_
  rintro y hy
  rw [hy]
  clear hy y R lp s0 c16 K
  rw [EP2.out]
  clear EP2
  by_cases h1 : N = 1
  · subst h1
    have E0 : Hid (inaO l k = OO) := by rw [← EO.out]; unfold tcmO; rw [HP.out, if_pos HN.out]; exact rfl
    cases b9
    · have E : OO = none := by
        rw [← E0.out]
        unfold inaO
        rw [HP.out]
        rw [if_neg (by rw [H9.out]; simp)]
      have E : Hid (OO = none) := E
      have c9 := T0.out.pv.pbit (j := 9) rfl
      rw [H9.out] at c9
      have c6 := T0.out.pv.pbit (j := 6) rfl
      rw [H6.out] at c6
      have c74 := T0.out.pv.pnum (j := 74) (k := .i64) rfl
      rw [HN.out] at c74
      have lt9 := T0.out.tre.var.tld
      obtain ⟨U, sU, h1, h2, gU⟩ := (T0.out.tre).tell (y := .slice (some ⟨g, o, none⟩) n c) rfl
      have G : Hid (RvAt U (w.heap.size + 1) 43 (trc h (.slice (some ⟨g, o, none⟩) n c)) ∧ SlAt U (some ⟨g, o, none⟩) n c (OO.getD l) ∧ Below w.heap.size w U ∧ OO.isSome = false) := by
        rw [E.out]
        exact ⟨h1, T0.out.sl.keptT (T0.out.tre).out gU, h2, rfl⟩
      clear h1 h2 gU
      go_wp2
      refine bodyPost_ret (results_tb Try.results19 _ _ _ _ _ rfl G.out.1) rfl ?_
      exact ⟨some ⟨g, o, none⟩, c, by rw [G.out.2.2.2]; rfl, G.out.2.1, G.out.2.2.1⟩
    · cases b6
      · have E : OO = some (l.set k (lrnP p)) := by
          rw [← E0.out]
          unfold inaO
          rw [HP.out]
          rw [if_pos (by rw [H9.out, H6.out]; simp)]
        have E : Hid (OO = some (l.set k (lrnP p))) := E
        have c9 := T0.out.pv.pbit (j := 9) rfl
        rw [H9.out] at c9
        have c6 := T0.out.pv.pbit (j := 6) rfl
        rw [H6.out] at c6
        have c74 := T0.out.pv.pnum (j := 74) (k := .i64) rfl
        rw [HN.out] at c74
        have lt9 := T0.out.tre.var.tld
        go_wp2_with fail
        refine (rlearns_in h (some ⟨g, o, none⟩) n c l k W0 T0.out.sl HL.out.2.1 HL.out.2.2.1).mono ?_
        rintro _ Y ⟨a8, c8, rfl, s8, b8⟩
        rw [HP.out] at s8
        obtain ⟨U, sU, h1, h2, gU⟩ := (T0.out.tre.below b8).tell (y := .slice a8 n c8) rfl
        have G : Hid (RvAt U (w.heap.size + 1) 43 (trc h (.slice a8 n c8)) ∧ SlAt U a8 n c8 (OO.getD l) ∧ Below w.heap.size w U ∧ OO.isSome = true) := by
          rw [E.out]
          exact ⟨h1, s8.keptT (T0.out.tre.below b8).out gU, h2, rfl⟩
        clear h1 h2 gU
        go_wp2
        refine bodyPost_ret (results_tb Try.results19 _ _ _ _ _ rfl G.out.1) rfl ?_
        exact ⟨a8, c8, by rw [G.out.2.2.2]; rfl, G.out.2.1, G.out.2.2.1⟩
      · have E : OO = none := by
          rw [← E0.out]
          unfold inaO
          rw [HP.out]
          rw [if_neg (by rw [H9.out, H6.out]; simp)]
        have E : Hid (OO = none) := E
        have c9 := T0.out.pv.pbit (j := 9) rfl
        rw [H9.out] at c9
        have c6 := T0.out.pv.pbit (j := 6) rfl
        rw [H6.out] at c6
        have c74 := T0.out.pv.pnum (j := 74) (k := .i64) rfl
        rw [HN.out] at c74
        have lt9 := T0.out.tre.var.tld
        obtain ⟨U, sU, h1, h2, gU⟩ := (T0.out.tre).tell (y := .slice (some ⟨g, o, none⟩) n c) rfl
        have G : Hid (RvAt U (w.heap.size + 1) 43 (trc h (.slice (some ⟨g, o, none⟩) n c)) ∧ SlAt U (some ⟨g, o, none⟩) n c (OO.getD l) ∧ Below w.heap.size w U ∧ OO.isSome = false) := by
          rw [E.out]
          exact ⟨h1, T0.out.sl.keptT (T0.out.tre).out gU, h2, rfl⟩
        clear h1 h2 gU
        go_wp2
        refine bodyPost_ret (results_tb Try.results19 _ _ _ _ _ rfl G.out.1) rfl ?_
        exact ⟨some ⟨g, o, none⟩, c, by rw [G.out.2.2.2]; rfl, G.out.2.1, G.out.2.2.1⟩
  have x1 : (N == 1) = false := beq_eq_false_iff_ne.2 h1
  by_cases h2 : N = 2
  · subst h2
    have E : Hid (leaO h l k = OO) := by rw [← EO.out]; unfold tcmO; rw [HP.out, if_neg (by rw [HN.out]; decide), if_pos HN.out]; exact rfl
    clear h1 x1
    have C := rlea_in h (some ⟨g, o, none⟩) n c l k W0 T0.out.sl HL.out.2.1 HL.out.2.2.1
    rw [HP.out, EP.out] at C
    have C : Hid _ := C
    have lt9 := T0.out.tre.var.tld
    have c74 := T0.out.pv.pnum (j := 74) (k := .i64) rfl
    rw [HN.out] at c74
    go_wp2_with fail
    refine Calls.mono C.out ?_
    rintro _ Y ⟨a8, c8, rfl, s8, b8⟩
    rw [E.out] at s8
    rw [E.out]
    obtain ⟨U, sU, h1, h2, gU⟩ := (T0.out.tre.below b8).tell (y := .slice a8 n c8) rfl
    have G : Hid (RvAt U (w.heap.size + 1) 43 (trc h (.slice a8 n c8)) ∧ SlAt U a8 n c8 (OO.getD l) ∧ Below w.heap.size w U) := ⟨h1, s8.keptT (T0.out.tre.below b8).out gU, h2⟩
    clear h1 h2 gU C s8 b8
    go_wp2
    refine bodyPost_ret (results_tb Try.results19 _ _ _ _ _ rfl G.out.1) rfl ?_
    exact ⟨a8, c8, rfl, G.out.2⟩
  have x2 : (N == 2) = false := beq_eq_false_iff_ne.2 h2
  by_cases h3 : N = 3
  · subst h3
    have E : Hid (actO h l k = OO) := by rw [← EO.out]; unfold tcmO; rw [HP.out, if_neg (by rw [HN.out]; decide), if_neg (by rw [HN.out]; decide), if_pos HN.out]; exact rfl
    clear h1 h2 x1 x2
    have C := ract_in h (some ⟨g, o, none⟩) n c l k W0 T0.out.sl HL.out.2.1 HL.out.2.2.1
    rw [HP.out, EP.out] at C
    have C : Hid _ := C
    have lt9 := T0.out.tre.var.tld
    have c74 := T0.out.pv.pnum (j := 74) (k := .i64) rfl
    rw [HN.out] at c74
    go_wp2_with fail
    refine Calls.mono C.out ?_
    rintro _ Y ⟨a8, c8, rfl, s8, b8⟩
    rw [E.out] at s8
    rw [E.out]
    obtain ⟨U, sU, h1, h2, gU⟩ := (T0.out.tre.below b8).tell (y := .slice a8 n c8) rfl
    have G : Hid (RvAt U (w.heap.size + 1) 43 (trc h (.slice a8 n c8)) ∧ SlAt U a8 n c8 (OO.getD l) ∧ Below w.heap.size w U) := ⟨h1, s8.keptT (T0.out.tre.below b8).out gU, h2⟩
    clear h1 h2 gU C s8 b8
    go_wp2
    refine bodyPost_ret (results_tb Try.results19 _ _ _ _ _ rfl G.out.1) rfl ?_
    exact ⟨a8, c8, rfl, G.out.2⟩
  have x3 : (N == 3) = false := beq_eq_false_iff_ne.2 h3
  have E : Hid (OO = some (l.set k (quiP p))) := by rw [← EO.out]; unfold tcmO; rw [HP.out, if_neg (by rw [HN.out]; exact h1), if_neg (by rw [HN.out]; exact h2), if_neg (by rw [HN.out]; exact h3)]; exact rfl
  clear h1 h2 h3
  have c74 := T0.out.pv.pnum (j := 74) (k := .i64) rfl
  rw [HN.out] at c74
  have lt9 := T0.out.tre.var.tld
  go_wp2_with fail
  refine (rquiet_in h (some ⟨g, o, none⟩) n c l k W0 T0.out.sl HL.out.2.1 HL.out.2.2.1).mono ?_
  rintro _ Y ⟨a8, c8, rfl, s8, b8⟩
  rw [HP.out] at s8
  obtain ⟨U, sU, h1, h2, gU⟩ := (T0.out.tre.below b8).tell (y := .slice a8 n c8) rfl
  have G : Hid (RvAt U (w.heap.size + 1) 43 (trc h (.slice a8 n c8)) ∧ SlAt U a8 n c8 (OO.getD l) ∧ Below w.heap.size w U ∧ OO.isSome = true) := by
    rw [E.out]
    exact ⟨h1, s8.keptT (T0.out.tre.below b8).out gU, h2, rfl⟩
  clear h1 h2 gU
  go_wp2
  refine bodyPost_ret (results_tb Try.results19 _ _ _ _ _ rfl G.out.1) rfl ?_
  exact ⟨a8, c8, by rw [G.out.2.2.2]; rfl, G.out.2.1, G.out.2.2.1⟩
end Go.Proofs.Ytfjigbmhheekbaa
