/-
  A step of a port's machine of changes: the walk of Tcm, for every tree.
-/
import Derived.Test.YtfjigbmhheekbabTcL
import Derived.Test.YtfjigbmhheekbabTcB
namespace Go.Proofs.Ytfjigbmhheekbab
set_option linter.unusedVariables false
set_option maxRecDepth 4000
set_option linter.unusedSimpArgs false
open Go.RowKit

attribute [local go_sem ↓] ldP stP stB stU stW ldT stT st32 alP
attribute [local go_sem] alP_run
set_option maxHeartbeats 2000000 in
theorem tcm_out (h : Hd) (a : Option Addr) (n c : Nat) (l : List Pt) (i : Int) (w : World) (hs : SlAt w a n c l) (hi : ¬ (0 ≤ i ∧ i < n)) :
    Calls Try.prog 6 #[.agg (trc h (.slice a n c)), .int .i64 i] w fun r w' => TBs w h n l none r w' := by
  obtain ⟨W, hW, r0, r1, bW, zW⟩ := two_t w h (.slice a n c)
  have l0 := r0.tld
  have H : Hid (TS w W w.heap.size (w.heap.size + 1) h (.slice a n c) ∧ SlAt W a n c l) := ⟨⟨r0, r1, bW, by omega⟩, hs.below bW⟩
  have T : Hid _ := there_out (h := h) (a := a) (c := c) (w := W) hi
  clear hs r0 r1 bW zW hi
  go_enter Try.func6, Try.ntmps6
  go_wp2_with fail
  refine Calls.mono T.out ?_
  rintro _ V ⟨rfl, bV⟩
  have lV := (H.out.1.below bV).var.tld
  obtain ⟨U, sU, h1, h2, gU⟩ := (H.out.1.below bV).tell (y := .slice a n c) rfl
  have G : Hid (RvAt U (w.heap.size + 1) 31 (trc h (.slice a n c)) ∧ SlAt U a n c l ∧ Below w.heap.size w U) := ⟨h1, (H.out.2.below bV).keptT (H.out.1.below bV).out gU, h2⟩
  clear h1 h2 gU bV l0 T
  go_wp2
  refine bodyPost_ret (results_tb Try.results6 _ _ _ _ _ rfl G.out.1) rfl ?_
  exact ⟨a, c, rfl, G.out.2⟩
set_option maxHeartbeats 4000000 in
theorem tcm_in (h : Hd) (a : Option Addr) (n c : Nat) (l : List Pt) (k : Nat) (w : World) (hs : SlAt w a n c l) (hn : n ≤ 1000) (hk : k < n) :
    Calls Try.prog 6 #[.agg (trc h (.slice a n c)), .int .i64 (k : Int)] w fun r w' => TBs w h n l (tcmO h l k) r w' := by
  obtain ⟨OO, hOO⟩ : ∃ z, tcmO h l k = z := ⟨_, rfl⟩
  rw [hOO]
  have EO : Hid (tcmO h l k = OO) := hOO
  clear hOO
  obtain ⟨g, o, rfl⟩ := hs.some' (by omega)
  have HK : Hid (k < l.length) := by rw [hs.len]; exact hk
  have hin0 : (0 : Int) ≤ (k : Int) := by omega
  have hin1 : (k : Int) < (n : Int) := by omega
  obtain ⟨W, hW, r0, r1, bW, zW⟩ := two_t w h (.slice (some ⟨g, o, none⟩) n c)
  have l0 := r0.tld
  have H : Hid (TS w W w.heap.size (w.heap.size + 1) h (.slice (some ⟨g, o, none⟩) n c) ∧ SlAt W (some ⟨g, o, none⟩) n c l ∧ n ≤ 1000 ∧ k < n) := ⟨⟨r0, r1, bW, by omega⟩, hs.below bW, hn, hk⟩
  have T : Hid _ := there_in (h := h) (a := some ⟨g, o, none⟩) (c := c) (w := W) hk
  obtain ⟨N, hN⟩ : ∃ z, (gtP l k).nm 74 = z := ⟨_, rfl⟩
  have HN : Hid ((gtP l k).nm 74 = N) := hN
  clear hs hn hk r0 r1 bW zW hN
  by_cases h1 : N = 1
  · subst h1
    have E : Hid (inaO l k = OO) := by rw [← EO.out]; unfold tcmO; rw [if_pos HN.out]; exact rfl
    go_enter Try.func6, Try.ntmps6
    go_wp2_with fail
    refine Calls.mono T.out ?_
    rintro _ V ⟨rfl, bV⟩
    have S := (H.out.2.1.below bV)
    have K : Hid (TS w V w.heap.size (w.heap.size + 1) h (.slice (some ⟨g, o, none⟩) n c) ∧ SlAt V (some ⟨g, o, none⟩) n c l) := ⟨H.out.1.below bV, S⟩
    have lV := K.out.1.var.tld
    have c16 := K.out.1.var.t16
    have c74 := S.cell (gtP_at HK.out) ((gtP l k).num (j := 74) (k := .i64) rfl) (by omega)
    rw [HN.out] at c74
    clear bV l0 S hW
    go_wp2_with fail
    refine (ina_in h (some ⟨g, o, none⟩) n c l k V K.out.2 H.out.2.2.1 H.out.2.2.2).mono ?_
    rintro _ X ⟨a2, c2, rfl, s2, b2⟩
    rw [E.out] at s2
    rw [E.out]
    obtain ⟨U, sU, h1, h2, gU⟩ := (K.out.1.below b2).tell (y := .slice a2 n c2) rfl
    have G : Hid (RvAt U (w.heap.size + 1) 31 (trc h (.slice a2 n c2)) ∧ SlAt U a2 n c2 (OO.getD l) ∧ Below w.heap.size w U) := ⟨h1, s2.keptT (K.out.1.below b2).out gU, h2⟩
    clear h1 h2 gU s2 b2
    go_wp2
    refine bodyPost_ret (results_tb Try.results6 _ _ _ _ _ rfl G.out.1) rfl ?_
    exact ⟨a2, c2, rfl, G.out.2⟩
  have x1 : (N == 1) = false := beq_eq_false_iff_ne.2 h1
  by_cases h2 : N = 2
  · subst h2
    have E : Hid (leaO h l k = OO) := by rw [← EO.out]; unfold tcmO; rw [if_neg (by rw [HN.out]; decide), if_pos HN.out]; exact rfl
    clear h1 x1
    go_enter Try.func6, Try.ntmps6
    go_wp2_with fail
    refine Calls.mono T.out ?_
    rintro _ V ⟨rfl, bV⟩
    have S := (H.out.2.1.below bV)
    have K : Hid (TS w V w.heap.size (w.heap.size + 1) h (.slice (some ⟨g, o, none⟩) n c) ∧ SlAt V (some ⟨g, o, none⟩) n c l) := ⟨H.out.1.below bV, S⟩
    have lV := K.out.1.var.tld
    have c16 := K.out.1.var.t16
    have c74 := S.cell (gtP_at HK.out) ((gtP l k).num (j := 74) (k := .i64) rfl) (by omega)
    rw [HN.out] at c74
    clear bV l0 S hW
    go_wp2_with fail
    refine (lea_in h (some ⟨g, o, none⟩) n c l k V K.out.2 H.out.2.2.1 H.out.2.2.2).mono ?_
    rintro _ X ⟨a2, c2, rfl, s2, b2⟩
    rw [E.out] at s2
    rw [E.out]
    obtain ⟨U, sU, h1, h2, gU⟩ := (K.out.1.below b2).tell (y := .slice a2 n c2) rfl
    have G : Hid (RvAt U (w.heap.size + 1) 31 (trc h (.slice a2 n c2)) ∧ SlAt U a2 n c2 (OO.getD l) ∧ Below w.heap.size w U) := ⟨h1, s2.keptT (K.out.1.below b2).out gU, h2⟩
    clear h1 h2 gU s2 b2
    go_wp2
    refine bodyPost_ret (results_tb Try.results6 _ _ _ _ _ rfl G.out.1) rfl ?_
    exact ⟨a2, c2, rfl, G.out.2⟩
  have x2 : (N == 2) = false := beq_eq_false_iff_ne.2 h2
  by_cases h3 : N = 3
  · subst h3
    have E : Hid (actO h l k = OO) := by rw [← EO.out]; unfold tcmO; rw [if_neg (by rw [HN.out]; decide), if_neg (by rw [HN.out]; decide), if_pos HN.out]; exact rfl
    clear h1 h2 x1 x2
    go_enter Try.func6, Try.ntmps6
    go_wp2_with fail
    refine Calls.mono T.out ?_
    rintro _ V ⟨rfl, bV⟩
    have S := (H.out.2.1.below bV)
    have K : Hid (TS w V w.heap.size (w.heap.size + 1) h (.slice (some ⟨g, o, none⟩) n c) ∧ SlAt V (some ⟨g, o, none⟩) n c l) := ⟨H.out.1.below bV, S⟩
    have lV := K.out.1.var.tld
    have c16 := K.out.1.var.t16
    have c74 := S.cell (gtP_at HK.out) ((gtP l k).num (j := 74) (k := .i64) rfl) (by omega)
    rw [HN.out] at c74
    clear bV l0 S hW
    go_wp2_with fail
    refine (act_in h (some ⟨g, o, none⟩) n c l k V K.out.2 H.out.2.2.1 H.out.2.2.2).mono ?_
    rintro _ X ⟨a2, c2, rfl, s2, b2⟩
    rw [E.out] at s2
    rw [E.out]
    obtain ⟨U, sU, h1, h2, gU⟩ := (K.out.1.below b2).tell (y := .slice a2 n c2) rfl
    have G : Hid (RvAt U (w.heap.size + 1) 31 (trc h (.slice a2 n c2)) ∧ SlAt U a2 n c2 (OO.getD l) ∧ Below w.heap.size w U) := ⟨h1, s2.keptT (K.out.1.below b2).out gU, h2⟩
    clear h1 h2 gU s2 b2
    go_wp2
    refine bodyPost_ret (results_tb Try.results6 _ _ _ _ _ rfl G.out.1) rfl ?_
    exact ⟨a2, c2, rfl, G.out.2⟩
  have x3 : (N == 3) = false := beq_eq_false_iff_ne.2 h3
  have E : Hid (some (l.set k (quiP (gtP l k))) = OO) := by rw [← EO.out]; unfold tcmO; rw [if_neg (by rw [HN.out]; exact h1), if_neg (by rw [HN.out]; exact h2), if_neg (by rw [HN.out]; exact h3)]; exact rfl
  clear h1 h2 h3
  go_enter Try.func6, Try.ntmps6
  go_wp2_with fail
  refine Calls.mono T.out ?_
  rintro _ V ⟨rfl, bV⟩
  have S := (H.out.2.1.below bV)
  have K : Hid (TS w V w.heap.size (w.heap.size + 1) h (.slice (some ⟨g, o, none⟩) n c) ∧ SlAt V (some ⟨g, o, none⟩) n c l) := ⟨H.out.1.below bV, S⟩
  have lV := K.out.1.var.tld
  have c16 := K.out.1.var.t16
  have c74 := S.cell (gtP_at HK.out) ((gtP l k).num (j := 74) (k := .i64) rfl) (by omega)
  rw [HN.out] at c74
  clear bV l0 S hW
  go_wp2_with fail
  refine (quiet_in h (some ⟨g, o, none⟩) n c l k V K.out.2 H.out.2.2.1 H.out.2.2.2).mono ?_
  rintro _ X ⟨a2, c2, rfl, s2, b2⟩
  obtain ⟨U, sU, h1, h2, gU⟩ := (K.out.1.below b2).tell (y := .slice a2 n c2) rfl
  have G : Hid (RvAt U (w.heap.size + 1) 31 (trc h (.slice a2 n c2)) ∧ SlAt U a2 n c2 (OO.getD l) ∧ Below w.heap.size w U ∧ OO.isSome = true) := by
    rw [← E.out]
    exact ⟨h1, s2.keptT (K.out.1.below b2).out gU, h2, rfl⟩
  clear h1 h2 gU s2 b2
  go_wp2
  refine bodyPost_ret (results_tb Try.results6 _ _ _ _ _ rfl G.out.1) rfl ?_
  exact ⟨a2, c2, by rw [G.out.2.2.2]; rfl, G.out.2.1, G.out.2.2.1⟩
end Go.Proofs.Ytfjigbmhheekbab
