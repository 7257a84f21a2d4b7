/-
  PimOnce: its walk, for every tree.
-/
import Derived.Test.YtlneoegmlcbidaaLawS
namespace Go.Proofs.Ytlneoegmlcbidaa
set_option linter.unusedVariables false
set_option maxRecDepth 4000
set_option linter.unusedSimpArgs false
open Go.RowKit

theorem set_back {l : List Pt} {k : Nat} {q : Pt} (hk : k < l.length) : (l.set k q).set k (gtP l k) = l := by rw [List.set_set, set_self hk]
/-- A port that receives has no message any more. -/
theorem once_14 {p : Pt} (h72 : p.nm 72 = 3) (h2 : p.bt 2 = true) (h14 : p.bt 14 = true) (h28 : p.bt 28 = false) : (tellO p (stepO p)).bt 14 = false := by
  have e : stepO p = some (recP p) := by simp [stepO, fcuO, h72, h2, h14, h28]
  rw [e]
  exact rec_14 p
attribute [local go_sem ↓] ldP stP ldT stT apE st32
set_option maxHeartbeats 8000000 in
theorem PimOnce_walk (h : Hd) (a0 : Option Addr) (n0 c0 : Nat) (l : List Pt) (i : Int) (w : World) (hs : SlAt w a0 n0 c0 l) (hi : -9223372036854775808 ≤ i ∧ i ≤ 9223372036854775807) :
    Calls Try.prog 4 #[.agg (trc h (.slice a0 n0 c0)), .int .i64 i] w fun r w' => r = .returned (.bool true) ∧ Below w.heap.size w w' := by
  obtain ⟨W, hW, r0, bW, zW⟩ := one_t w h (.slice a0 n0 c0)
  have l0 := r0.tld
  have H : Hid (SlAt W a0 n0 c0 l ∧ RvAt W w.heap.size 31 (trc h (.slice a0 n0 c0)) ∧ Below w.heap.size w W) := ⟨hs.below bW, r0, bW⟩
  clear hs r0 bW zW hi
  go_enter Try.func4, Try.ntmps4
  go_wp2_with fail
  refine (few_any h a0 n0 c0 l W H.out.1).mono ?_
  rintro _ W1 ⟨v, rfl, o1, b1⟩
  obtain ⟨ls, a, n, c, V, hlen, hn, rfl, sV, t, gV⟩ := few_in H.out.2.1 H.out.2.2 (Nat.le_refl _) b1 o1
  have G : Hid (TQ w V w.heap.size h a n c ls) := t
  have HN : Hid (ls.length = n) := hlen
  have hn1 : n ≤ 1000 := by omega
  have lV := t.ld
  clear o1 b1 gV t l0 H hlen hW hn
  go_wp2_with fail
  refine (pstep_any h a n c ls i V G.out.sl hn1).mono ?_
  rintro _ V1 ⟨a1, c1, rfl, s1, b1⟩
  obtain ⟨V2, s2, t2, b2⟩ := TQ.new (w := w) (h := h) s1 (below_over G.out.bel b1)
  have hlt := (G.out.var.below b1).lt
  obtain ⟨i1, hi1⟩ : ∃ z, V1.heap.size = z := ⟨_, rfl⟩
  rw [hi1] at s2 t2 hlt
  have G2 : Hid (TQ w V2 w.heap.size h a n c ls ∧ TQ w V2 i1 h a1 n c1 (stepL ls i) ∧ w.heap.size < i1) := ⟨(G.out.below b1).below b2, t2, hlt⟩
  have l2 := G2.out.1.ld
  clear s1 b1 t2 b2 G lV sV hlt
  go_wp2_with fail
  refine (has_any h a n c i V2 hn1).mono ?_
  rintro _ V3 ⟨rfl, b3⟩
  have G3 : Hid (TQ w V3 w.heap.size h a n c ls ∧ TQ w V3 i1 h a1 n c1 (stepL ls i) ∧ w.heap.size < i1) := ⟨G2.out.1.below b3, G2.out.2.1.below b3, G2.out.2.2⟩
  clear b3 G2 l2 s2 hi1
  by_cases hi : 0 ≤ i ∧ i < (n : Int)
  rotate_left
  · have eb : (decide (0 ≤ i) && decide (i < (n : Int))) = false := by simp; omega
    have es : stepB ls i = false := by unfold stepB; rw [if_neg (by have := HN.out; omega)]
    rw [eb, es]
    clear eb es hi
    have F : Hid (Below w.heap.size w V3) := G3.out.1.bel
    clear G3
    go_wp2_with fail
    refine (awake_any _).mono ?_
    rintro _ V4 ⟨rfl, b4⟩
    have F2 : Hid (Below w.heap.size w V4) := below_over F.out b4
    clear b4
    go_wp2
    go_ret
    exact ⟨rfl, F2.out⟩
  have eb : (decide (0 ≤ i) && decide (i < (n : Int))) = true := by simp; omega
  rw [eb]
  clear eb
  obtain ⟨k, hk⟩ : ∃ k : Nat, i = (k : Int) := ⟨i.toNat, by omega⟩
  subst hk
  have hin0 : (0 : Int) ≤ (k : Int) := by omega
  have hin1 : (k : Int) < (n : Int) := by omega
  have hkn : k < n := by omega
  have hkl : k < ls.length := by rw [HN.out]; exact hkn
  obtain ⟨g0, o0, rfl⟩ := G3.out.1.sl.some' (by omega)
  obtain ⟨g1, o1, rfl⟩ := G3.out.2.1.sl.some' (by omega)
  have p16 := G3.out.1.var.t16
  have q16 := G3.out.2.1.var.t16
  obtain ⟨p, hp⟩ : ∃ p, gtP ls k = p := ⟨_, rfl⟩
  have at0 : ls[k]? = some p := by rw [← hp]; exact gtP_at hkl
  have e1 := (step_at hkl).1
  have e2 := (step_at hkl).2
  rw [hp] at e1 e2
  rw [e2]
  have at1 : (stepL ls (k : Int))[k]? = some (tellO p (stepO p)) := by rw [e1, List.getElem?_set, if_pos rfl, if_pos hkl]
  have c72 := G3.out.1.cell at0 (p.num (j := 72) (k := .i64) rfl) (by omega)
  have c2 := G3.out.1.cell at0 (p.bit (j := 2) rfl) (by omega)
  have c14 := G3.out.1.cell at0 (p.bit (j := 14) rfl) (by omega)
  have c28 := G3.out.1.cell at0 (p.bit (j := 28) rfl) (by omega)
  have d14 := G3.out.2.1.cell at1 ((tellO p (stepO p)).bit (j := 14) rfl) (by omega)
  have lp := G3.out.1.sl.ld at0
  have EL : Hid (stepL ls (k : Int) = ls.set k (tellO p (stepO p)) ∧ (ls.set k (tellO p (stepO p))).set k p = ls) := ⟨e1, by rw [← hp]; exact set_back hkl⟩
  -- what is behind the question
  have rest : Hid (∀ V4, V4 = V3.alloc (.cells #[] 47) → ∃ v V5 V6, (apS 29 #[.slice (some ⟨V3.heap.size, 0, none⟩) 0 0, .slice (some ⟨g1, o1, none⟩) n c1]).run Try.prog V4 = .ok v V5 ∧ V4.cell? ⟨i1, 16, none⟩ = some (.slice (some ⟨g1, o1, none⟩) n c1) ∧ (stS 29 (.pointer (some ⟨i1, 16, none⟩)) v).run Try.prog V5 = .ok () V6 ∧ ∃ g c', v = .slice (some ⟨g, 0, none⟩) n c' ∧ RvAt V6 i1 31 (trc h v) ∧ PAt V6 g c' (ls.set k (tellO p (stepO p))) ∧ TQ w V6 w.heap.size h (some ⟨g0, o0, none⟩) n c ls ∧ V3.heap.size ≤ g ∧ i1 < V3.heap.size) := by
    intro V4 hV4
    have b4 : Below V3.heap.size V3 V4 := by rw [hV4]; exact (Below.refl _ _).alloc (Nat.le_refl _) _
    have o4 : Own V4 V3.heap.size (.slice (some ⟨V3.heap.size, 0, none⟩) 0 0) [] := by rw [hV4]; exact zero_new V3 _ (Nat.le_refl _)
    have s4 := (G3.out.2.1.below b4)
    obtain ⟨v, V5, ap, o5, g5⟩ := o4.app s4.sl (by rw [stepL_len, HN.out]; simp; omega) b4.size 29
    rw [List.nil_append] at o5
    have hi1 := G3.out.2.1.var.lt
    have b5 : Below V3.heap.size V4 V5 := below_of_grown g5 b4.size (fun j e => by cases e; exact Nat.le_refl _)
    have r5 := s4.var.keptBut g5 (by simp [Value.ownBlock]; omega)
    obtain ⟨V6, s6, r6, g6⟩ := r5.tset o5.one
    have o6 := o5.keptBut g6 (o5.apart hi1)
    have t5 : TQ w V5 w.heap.size h (some ⟨g0, o0, none⟩) n c ls := (G3.out.1.below (b4.trans b5))
    have t6 : TQ w V6 w.heap.size h (some ⟨g0, o0, none⟩) n c ls := ⟨t5.var.keptBut g6 (by have := G3.out.2.2; simp; omega), t5.sl.keptT r5 g6, gro t5.bel g6 G3.out.2.1.hb t5.bel.size, Nat.le_refl _⟩
    rcases o6.pat with ⟨hv, hle⟩ | ⟨g, cc, hv, hg, hp6⟩
    · have := stepL_len ls (k : Int)
      rw [hle, HN.out] at this
      simp at this
      omega
    · rw [stepL_len, HN.out] at hv
      exact ⟨v, V5, V6, ap, s4.var.t16, s6, g, cc, hv, r6, by rw [← EL.out.1]; exact hp6, t6, hg, hi1⟩
  have AT : Hid (ls[k]? = some p) := at0
  clear e1 e2 at0 at1 hp hkl hi
  cases hB : (stepO p).isSome
  · clear hB
    have R0 := rest.out _ rfl
    obtain ⟨v, V5, V6, ap, f16, s6, g, c', rfl, r6, p6, t6, hg, hi1⟩ := R0
    have z16 := fun qq : Later V6 => (r6.below qq.below).t16
    have y16 := fun qq : Later V6 => (t6.var.below qq.below).t16
    have lpp := fun qq : Later V6 => (t6.sl.below qq.below).ld AT.out
    have K6 : Hid (RvAt V6 i1 31 (trc h (.slice (some ⟨g, 0, none⟩) n c')) ∧ PAt V6 g c' (ls.set k (tellO p (stepO p))) ∧ TQ w V6 w.heap.size h (some ⟨g0, o0, none⟩) n c ls ∧ V3.heap.size ≤ g ∧ i1 < V3.heap.size) := ⟨r6, p6, t6, hg, hi1⟩
    clear r6 p6 t6 hg hi1
    go_wp2_with fail
    refine wp_region_later_tail 9 (by kernel_rfl) (by kernel_rfl) ?_
    simp only [List.take_succ_cons, List.take_zero]
    repeat (go_big_quiet_step (first | exact rfl))
    refine wpQuiet_nil ?_
    intro u
    simp only [List.drop_succ_cons, List.drop_zero]
    obtain ⟨V7, s7, p7, g7⟩ := (K6.out.2.1.below u.below).stp (i := k) (p := p) (by rw [List.length_set, HN.out]; exact hkn) rfl
    rw [EL.out.2] at p7
    have r7 := (K6.out.1.below u.below).keptBut g7 (by have := K6.out.2.2.2; simp; omega)
    have t7' := K6.out.2.2.1.below u.below
    have t7 : TQ w V7 w.heap.size h (some ⟨g0, o0, none⟩) n c ls := ⟨t7'.var.keptBut g7 (by have := K6.out.2.2.2; have := G3.out.2.2; simp; omega), t7'.sl.keptBut g7 (fun x hx e => by
        cases hx
        simp only [Option.some.injEq] at e
        have := G3.out.1.sl.cell AT.out (p.num (j := 72) (k := .i64) rfl) (by omega)
        have hlt0 : g0 < V3.heap.size := World.block_lt_of_cell? V3 _ this
        have := K6.out.2.2.2.1
        omega), gro t7'.bel g7 (by have := K6.out.2.2.2.1; have := G3.out.1.bel.size; omega) t7'.bel.size, Nat.le_refl _⟩
    have sl7 := p7.sl
    rw [HN.out] at sl7
    have l7 := r7.tld
    have m7 := t7.ld
    have T7 : Hid (TQ w V7 w.heap.size h (some ⟨g0, o0, none⟩) n c ls ∧ SlAt V7 (some ⟨g, 0, none⟩) n c' ls) := ⟨t7, sl7⟩
    clear z16 y16 lpp ap f16 s6 p7 g7 r7 t7' t7 sl7 K6 rest G3 lp p16 q16
    go_wp2_with fail
    refine (rsame_any h h (some ⟨g, 0, none⟩) (some ⟨g0, o0, none⟩) n n c' c ls ls V7 T7.out.2 T7.out.1.sl hn1 hn1).mono ?_
    rintro _ V8 ⟨rfl, b8⟩
    rw [sameT_self]
    have F : Hid (Below w.heap.size w V8) := below_over T7.out.1.bel b8
    clear b8 l7 m7 s7 T7
    go_wp2_with fail
    refine (awake_any _).mono ?_
    rintro _ V9 ⟨rfl, b9⟩
    have F2 : Hid (Below w.heap.size w V9) := below_over F.out b9
    clear b9
    go_wp2
    go_ret
    exact ⟨rfl, F2.out⟩
  · clear hB
    by_cases h72 : p.nm 72 = 3
    rotate_left
    · obtain ⟨K72, g72⟩ : ∃ K, p.nm 72 = K := ⟨_, rfl⟩
      rw [g72] at c72 h72
      have q72 : (K72 == 3) = false := by simp [h72]
      clear g72
      have R0 := rest.out _ rfl
      obtain ⟨v, V5, V6, ap, f16, s6, g, c', rfl, r6, p6, t6, hg, hi1⟩ := R0
      have z16 := fun qq : Later V6 => (r6.below qq.below).t16
      have y16 := fun qq : Later V6 => (t6.var.below qq.below).t16
      have lpp := fun qq : Later V6 => (t6.sl.below qq.below).ld AT.out
      have K6 : Hid (RvAt V6 i1 31 (trc h (.slice (some ⟨g, 0, none⟩) n c')) ∧ PAt V6 g c' (ls.set k (tellO p (stepO p))) ∧ TQ w V6 w.heap.size h (some ⟨g0, o0, none⟩) n c ls ∧ V3.heap.size ≤ g ∧ i1 < V3.heap.size) := ⟨r6, p6, t6, hg, hi1⟩
      clear r6 p6 t6 hg hi1
      go_wp2_with fail
      refine wp_region_later_tail 9 (by kernel_rfl) (by kernel_rfl) ?_
      simp only [List.take_succ_cons, List.take_zero]
      repeat (go_big_quiet_step (first | exact rfl))
      refine wpQuiet_nil ?_
      intro u
      simp only [List.drop_succ_cons, List.drop_zero]
      obtain ⟨V7, s7, p7, g7⟩ := (K6.out.2.1.below u.below).stp (i := k) (p := p) (by rw [List.length_set, HN.out]; exact hkn) rfl
      rw [EL.out.2] at p7
      have r7 := (K6.out.1.below u.below).keptBut g7 (by have := K6.out.2.2.2; simp; omega)
      have t7' := K6.out.2.2.1.below u.below
      have t7 : TQ w V7 w.heap.size h (some ⟨g0, o0, none⟩) n c ls := ⟨t7'.var.keptBut g7 (by have := K6.out.2.2.2; have := G3.out.2.2; simp; omega), t7'.sl.keptBut g7 (fun x hx e => by
          cases hx
          simp only [Option.some.injEq] at e
          have := G3.out.1.sl.cell AT.out (p.num (j := 72) (k := .i64) rfl) (by omega)
          have hlt0 : g0 < V3.heap.size := World.block_lt_of_cell? V3 _ this
          have := K6.out.2.2.2.1
          omega), gro t7'.bel g7 (by have := K6.out.2.2.2.1; have := G3.out.1.bel.size; omega) t7'.bel.size, Nat.le_refl _⟩
      have sl7 := p7.sl
      rw [HN.out] at sl7
      have l7 := r7.tld
      have m7 := t7.ld
      have T7 : Hid (TQ w V7 w.heap.size h (some ⟨g0, o0, none⟩) n c ls ∧ SlAt V7 (some ⟨g, 0, none⟩) n c' ls) := ⟨t7, sl7⟩
      clear z16 y16 lpp ap f16 s6 p7 g7 r7 t7' t7 sl7 K6 rest G3 lp p16 q16
      go_wp2_with fail
      refine (rsame_any h h (some ⟨g, 0, none⟩) (some ⟨g0, o0, none⟩) n n c' c ls ls V7 T7.out.2 T7.out.1.sl hn1 hn1).mono ?_
      rintro _ V8 ⟨rfl, b8⟩
      rw [sameT_self]
      have F : Hid (Below w.heap.size w V8) := below_over T7.out.1.bel b8
      clear b8 l7 m7 s7 T7
      go_wp2_with fail
      refine (awake_any _).mono ?_
      rintro _ V9 ⟨rfl, b9⟩
      have F2 : Hid (Below w.heap.size w V9) := below_over F.out b9
      clear b9
      go_wp2
      go_ret
      exact ⟨rfl, F2.out⟩
    · rw [h72] at c72
      cases h2 : p.bt 2
      · rw [h2] at c2
        clear h2 h72
        have R0 := rest.out _ rfl
        obtain ⟨v, V5, V6, ap, f16, s6, g, c', rfl, r6, p6, t6, hg, hi1⟩ := R0
        have z16 := fun qq : Later V6 => (r6.below qq.below).t16
        have y16 := fun qq : Later V6 => (t6.var.below qq.below).t16
        have lpp := fun qq : Later V6 => (t6.sl.below qq.below).ld AT.out
        have K6 : Hid (RvAt V6 i1 31 (trc h (.slice (some ⟨g, 0, none⟩) n c')) ∧ PAt V6 g c' (ls.set k (tellO p (stepO p))) ∧ TQ w V6 w.heap.size h (some ⟨g0, o0, none⟩) n c ls ∧ V3.heap.size ≤ g ∧ i1 < V3.heap.size) := ⟨r6, p6, t6, hg, hi1⟩
        clear r6 p6 t6 hg hi1
        go_wp2_with fail
        refine wp_region_later_tail 9 (by kernel_rfl) (by kernel_rfl) ?_
        simp only [List.take_succ_cons, List.take_zero]
        repeat (go_big_quiet_step (first | exact rfl))
        refine wpQuiet_nil ?_
        intro u
        simp only [List.drop_succ_cons, List.drop_zero]
        obtain ⟨V7, s7, p7, g7⟩ := (K6.out.2.1.below u.below).stp (i := k) (p := p) (by rw [List.length_set, HN.out]; exact hkn) rfl
        rw [EL.out.2] at p7
        have r7 := (K6.out.1.below u.below).keptBut g7 (by have := K6.out.2.2.2; simp; omega)
        have t7' := K6.out.2.2.1.below u.below
        have t7 : TQ w V7 w.heap.size h (some ⟨g0, o0, none⟩) n c ls := ⟨t7'.var.keptBut g7 (by have := K6.out.2.2.2; have := G3.out.2.2; simp; omega), t7'.sl.keptBut g7 (fun x hx e => by
            cases hx
            simp only [Option.some.injEq] at e
            have := G3.out.1.sl.cell AT.out (p.num (j := 72) (k := .i64) rfl) (by omega)
            have hlt0 : g0 < V3.heap.size := World.block_lt_of_cell? V3 _ this
            have := K6.out.2.2.2.1
            omega), gro t7'.bel g7 (by have := K6.out.2.2.2.1; have := G3.out.1.bel.size; omega) t7'.bel.size, Nat.le_refl _⟩
        have sl7 := p7.sl
        rw [HN.out] at sl7
        have l7 := r7.tld
        have m7 := t7.ld
        have T7 : Hid (TQ w V7 w.heap.size h (some ⟨g0, o0, none⟩) n c ls ∧ SlAt V7 (some ⟨g, 0, none⟩) n c' ls) := ⟨t7, sl7⟩
        clear z16 y16 lpp ap f16 s6 p7 g7 r7 t7' t7 sl7 K6 rest G3 lp p16 q16
        go_wp2_with fail
        refine (rsame_any h h (some ⟨g, 0, none⟩) (some ⟨g0, o0, none⟩) n n c' c ls ls V7 T7.out.2 T7.out.1.sl hn1 hn1).mono ?_
        rintro _ V8 ⟨rfl, b8⟩
        rw [sameT_self]
        have F : Hid (Below w.heap.size w V8) := below_over T7.out.1.bel b8
        clear b8 l7 m7 s7 T7
        go_wp2_with fail
        refine (awake_any _).mono ?_
        rintro _ V9 ⟨rfl, b9⟩
        have F2 : Hid (Below w.heap.size w V9) := below_over F.out b9
        clear b9
        go_wp2
        go_ret
        exact ⟨rfl, F2.out⟩
      · rw [h2] at c2
        cases h14 : p.bt 14
        · rw [h14] at c14
          clear h14 h2 h72
          have R0 := rest.out _ rfl
          obtain ⟨v, V5, V6, ap, f16, s6, g, c', rfl, r6, p6, t6, hg, hi1⟩ := R0
          have z16 := fun qq : Later V6 => (r6.below qq.below).t16
          have y16 := fun qq : Later V6 => (t6.var.below qq.below).t16
          have lpp := fun qq : Later V6 => (t6.sl.below qq.below).ld AT.out
          have K6 : Hid (RvAt V6 i1 31 (trc h (.slice (some ⟨g, 0, none⟩) n c')) ∧ PAt V6 g c' (ls.set k (tellO p (stepO p))) ∧ TQ w V6 w.heap.size h (some ⟨g0, o0, none⟩) n c ls ∧ V3.heap.size ≤ g ∧ i1 < V3.heap.size) := ⟨r6, p6, t6, hg, hi1⟩
          clear r6 p6 t6 hg hi1
          go_wp2_with fail
          refine wp_region_later_tail 9 (by kernel_rfl) (by kernel_rfl) ?_
          simp only [List.take_succ_cons, List.take_zero]
          repeat (go_big_quiet_step (first | exact rfl))
          refine wpQuiet_nil ?_
          intro u
          simp only [List.drop_succ_cons, List.drop_zero]
          obtain ⟨V7, s7, p7, g7⟩ := (K6.out.2.1.below u.below).stp (i := k) (p := p) (by rw [List.length_set, HN.out]; exact hkn) rfl
          rw [EL.out.2] at p7
          have r7 := (K6.out.1.below u.below).keptBut g7 (by have := K6.out.2.2.2; simp; omega)
          have t7' := K6.out.2.2.1.below u.below
          have t7 : TQ w V7 w.heap.size h (some ⟨g0, o0, none⟩) n c ls := ⟨t7'.var.keptBut g7 (by have := K6.out.2.2.2; have := G3.out.2.2; simp; omega), t7'.sl.keptBut g7 (fun x hx e => by
              cases hx
              simp only [Option.some.injEq] at e
              have := G3.out.1.sl.cell AT.out (p.num (j := 72) (k := .i64) rfl) (by omega)
              have hlt0 : g0 < V3.heap.size := World.block_lt_of_cell? V3 _ this
              have := K6.out.2.2.2.1
              omega), gro t7'.bel g7 (by have := K6.out.2.2.2.1; have := G3.out.1.bel.size; omega) t7'.bel.size, Nat.le_refl _⟩
          have sl7 := p7.sl
          rw [HN.out] at sl7
          have l7 := r7.tld
          have m7 := t7.ld
          have T7 : Hid (TQ w V7 w.heap.size h (some ⟨g0, o0, none⟩) n c ls ∧ SlAt V7 (some ⟨g, 0, none⟩) n c' ls) := ⟨t7, sl7⟩
          clear z16 y16 lpp ap f16 s6 p7 g7 r7 t7' t7 sl7 K6 rest G3 lp p16 q16
          go_wp2_with fail
          refine (rsame_any h h (some ⟨g, 0, none⟩) (some ⟨g0, o0, none⟩) n n c' c ls ls V7 T7.out.2 T7.out.1.sl hn1 hn1).mono ?_
          rintro _ V8 ⟨rfl, b8⟩
          rw [sameT_self]
          have F : Hid (Below w.heap.size w V8) := below_over T7.out.1.bel b8
          clear b8 l7 m7 s7 T7
          go_wp2_with fail
          refine (awake_any _).mono ?_
          rintro _ V9 ⟨rfl, b9⟩
          have F2 : Hid (Below w.heap.size w V9) := below_over F.out b9
          clear b9
          go_wp2
          go_ret
          exact ⟨rfl, F2.out⟩
        · rw [h14] at c14
          cases h28 : p.bt 28
          · rw [h28] at c28
            have e14 := once_14 h72 h2 h14 h28
            rw [e14] at d14
            clear e14 h28 h14 h2 h72
            have R0 := rest.out _ rfl
            obtain ⟨v, V5, V6, ap, f16, s6, g, c', rfl, r6, p6, t6, hg, hi1⟩ := R0
            have z16 := fun qq : Later V6 => (r6.below qq.below).t16
            have y16 := fun qq : Later V6 => (t6.var.below qq.below).t16
            have lpp := fun qq : Later V6 => (t6.sl.below qq.below).ld AT.out
            have K6 : Hid (RvAt V6 i1 31 (trc h (.slice (some ⟨g, 0, none⟩) n c')) ∧ PAt V6 g c' (ls.set k (tellO p (stepO p))) ∧ TQ w V6 w.heap.size h (some ⟨g0, o0, none⟩) n c ls ∧ V3.heap.size ≤ g ∧ i1 < V3.heap.size) := ⟨r6, p6, t6, hg, hi1⟩
            clear r6 p6 t6 hg hi1
            go_wp2_with fail
            refine wp_region_later_tail 9 (by kernel_rfl) (by kernel_rfl) ?_
            simp only [List.take_succ_cons, List.take_zero]
            repeat (go_big_quiet_step (first | exact rfl))
            refine wpQuiet_nil ?_
            intro u
            simp only [List.drop_succ_cons, List.drop_zero]
            obtain ⟨V7, s7, p7, g7⟩ := (K6.out.2.1.below u.below).stp (i := k) (p := p) (by rw [List.length_set, HN.out]; exact hkn) rfl
            rw [EL.out.2] at p7
            have r7 := (K6.out.1.below u.below).keptBut g7 (by have := K6.out.2.2.2; simp; omega)
            have t7' := K6.out.2.2.1.below u.below
            have t7 : TQ w V7 w.heap.size h (some ⟨g0, o0, none⟩) n c ls := ⟨t7'.var.keptBut g7 (by have := K6.out.2.2.2; have := G3.out.2.2; simp; omega), t7'.sl.keptBut g7 (fun x hx e => by
                cases hx
                simp only [Option.some.injEq] at e
                have := G3.out.1.sl.cell AT.out (p.num (j := 72) (k := .i64) rfl) (by omega)
                have hlt0 : g0 < V3.heap.size := World.block_lt_of_cell? V3 _ this
                have := K6.out.2.2.2.1
                omega), gro t7'.bel g7 (by have := K6.out.2.2.2.1; have := G3.out.1.bel.size; omega) t7'.bel.size, Nat.le_refl _⟩
            have sl7 := p7.sl
            rw [HN.out] at sl7
            have l7 := r7.tld
            have m7 := t7.ld
            have T7 : Hid (TQ w V7 w.heap.size h (some ⟨g0, o0, none⟩) n c ls ∧ SlAt V7 (some ⟨g, 0, none⟩) n c' ls) := ⟨t7, sl7⟩
            clear z16 y16 lpp ap f16 s6 p7 g7 r7 t7' t7 sl7 K6 rest G3 lp p16 q16
            go_wp2_with fail
            refine (rsame_any h h (some ⟨g, 0, none⟩) (some ⟨g0, o0, none⟩) n n c' c ls ls V7 T7.out.2 T7.out.1.sl hn1 hn1).mono ?_
            rintro _ V8 ⟨rfl, b8⟩
            rw [sameT_self]
            have F : Hid (Below w.heap.size w V8) := below_over T7.out.1.bel b8
            clear b8 l7 m7 s7 T7
            go_wp2_with fail
            refine (awake_any _).mono ?_
            rintro _ V9 ⟨rfl, b9⟩
            have F2 : Hid (Below w.heap.size w V9) := below_over F.out b9
            clear b9
            go_wp2
            go_ret
            exact ⟨rfl, F2.out⟩
          · rw [h28] at c28
            clear h28 h14 h2 h72
            have R0 := rest.out _ rfl
            obtain ⟨v, V5, V6, ap, f16, s6, g, c', rfl, r6, p6, t6, hg, hi1⟩ := R0
            have z16 := fun qq : Later V6 => (r6.below qq.below).t16
            have y16 := fun qq : Later V6 => (t6.var.below qq.below).t16
            have lpp := fun qq : Later V6 => (t6.sl.below qq.below).ld AT.out
            have K6 : Hid (RvAt V6 i1 31 (trc h (.slice (some ⟨g, 0, none⟩) n c')) ∧ PAt V6 g c' (ls.set k (tellO p (stepO p))) ∧ TQ w V6 w.heap.size h (some ⟨g0, o0, none⟩) n c ls ∧ V3.heap.size ≤ g ∧ i1 < V3.heap.size) := ⟨r6, p6, t6, hg, hi1⟩
            clear r6 p6 t6 hg hi1
            go_wp2_with fail
            refine wp_region_later_tail 9 (by kernel_rfl) (by kernel_rfl) ?_
            simp only [List.take_succ_cons, List.take_zero]
            repeat (go_big_quiet_step (first | exact rfl))
            refine wpQuiet_nil ?_
            intro u
            simp only [List.drop_succ_cons, List.drop_zero]
            obtain ⟨V7, s7, p7, g7⟩ := (K6.out.2.1.below u.below).stp (i := k) (p := p) (by rw [List.length_set, HN.out]; exact hkn) rfl
            rw [EL.out.2] at p7
            have r7 := (K6.out.1.below u.below).keptBut g7 (by have := K6.out.2.2.2; simp; omega)
            have t7' := K6.out.2.2.1.below u.below
            have t7 : TQ w V7 w.heap.size h (some ⟨g0, o0, none⟩) n c ls := ⟨t7'.var.keptBut g7 (by have := K6.out.2.2.2; have := G3.out.2.2; simp; omega), t7'.sl.keptBut g7 (fun x hx e => by
                cases hx
                simp only [Option.some.injEq] at e
                have := G3.out.1.sl.cell AT.out (p.num (j := 72) (k := .i64) rfl) (by omega)
                have hlt0 : g0 < V3.heap.size := World.block_lt_of_cell? V3 _ this
                have := K6.out.2.2.2.1
                omega), gro t7'.bel g7 (by have := K6.out.2.2.2.1; have := G3.out.1.bel.size; omega) t7'.bel.size, Nat.le_refl _⟩
            have sl7 := p7.sl
            rw [HN.out] at sl7
            have l7 := r7.tld
            have m7 := t7.ld
            have T7 : Hid (TQ w V7 w.heap.size h (some ⟨g0, o0, none⟩) n c ls ∧ SlAt V7 (some ⟨g, 0, none⟩) n c' ls) := ⟨t7, sl7⟩
            clear z16 y16 lpp ap f16 s6 p7 g7 r7 t7' t7 sl7 K6 rest G3 lp p16 q16
            go_wp2_with fail
            refine (rsame_any h h (some ⟨g, 0, none⟩) (some ⟨g0, o0, none⟩) n n c' c ls ls V7 T7.out.2 T7.out.1.sl hn1 hn1).mono ?_
            rintro _ V8 ⟨rfl, b8⟩
            rw [sameT_self]
            have F : Hid (Below w.heap.size w V8) := below_over T7.out.1.bel b8
            clear b8 l7 m7 s7 T7
            go_wp2_with fail
            refine (awake_any _).mono ?_
            rintro _ V9 ⟨rfl, b9⟩
            have F2 : Hid (Below w.heap.size w V9) := below_over F.out b9
            clear b9
            go_wp2
            go_ret
            exact ⟨rfl, F2.out⟩
end Go.Proofs.Ytlneoegmlcbidaa
