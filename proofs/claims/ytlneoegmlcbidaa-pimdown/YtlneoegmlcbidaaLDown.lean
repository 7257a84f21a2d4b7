/-
  PimDown: its walk, for every tree and message.
-/
import Derived.Test.YtlneoegmlcbidaaLawS
namespace Go.Proofs.Ytlneoegmlcbidaa
set_option linter.unusedVariables false
set_option maxRecDepth 4000
set_option linter.unusedSimpArgs false
open Go.RowKit

theorem up_at {l : List Pt} {k : Nat} (hk : k < l.length) : gtP (upL l (k : Int) false) k = upP false (gtP l k) := by
  unfold upL
  rw [if_pos ⟨by omega, by omega⟩]
  exact gtP_put hk
theorem up_2 (p : Pt) (b : Bool) : (upP b p).bt 2 = b := setB_at p kb2 b
theorem hear_down {l : List Pt} {k : Nat} (m : Mg) (hk : k < l.length) (h2 : (gtP l k).bt 2 = false) : hearL l (k : Int) m = l := by
  unfold hearL
  rw [if_pos ⟨by omega, by omega⟩]
  show l.set k (takeP (gtP l k) m) = l
  rw [take_down m h2]
  exact set_self hk
attribute [local go_sem ↓] ldP stP ldT stT ldM stM
set_option maxHeartbeats 8000000 in
theorem PimDown_walk (h : Hd) (a0 : Option Addr) (n0 c0 : Nat) (l : List Pt) (i : Int) (m : Mg) (w : World) (hs : SlAt w a0 n0 c0 l) (hi : -9223372036854775808 ≤ i ∧ i ≤ 9223372036854775807) :
    Calls Try.prog 6 #[.agg (trc h (.slice a0 n0 c0)), .int .i64 i, .agg m.cs] w fun r w' => r = .returned (.bool true) ∧ Below w.heap.size w w' := by
  obtain ⟨W, hW, r0, rm, bW, zW⟩ := two_tm w h (.slice a0 n0 c0) m
  have l0 := r0.tld
  have H : Hid (SlAt W a0 n0 c0 l ∧ RvAt W w.heap.size 31 (trc h (.slice a0 n0 c0)) ∧ Below w.heap.size w W ∧ RvAt W (w.heap.size + 1) 35 m.cs) := ⟨hs.below bW, r0, bW, rm⟩
  clear hs r0 bW zW hi rm
  go_enter Try.func6, Try.ntmps6
  go_wp2_with fail
  refine (few_any h a0 n0 c0 l W H.out.1).mono ?_
  rintro _ W1 ⟨v, rfl, o1, b1⟩
  obtain ⟨ls, a, n, c, V, hlen, hn, rfl, sV, t, gV⟩ := few_in H.out.2.1 H.out.2.2.1 (Nat.le_refl _) b1 o1
  have rm := (H.out.2.2.2.below b1).keptBut gV (by simp)
  have G : Hid (TQ w V w.heap.size h a n c ls ∧ RvAt V (w.heap.size + 1) 35 m.cs) := ⟨t, rm⟩
  have HN : Hid (ls.length = n) := hlen
  have hn1 : n ≤ 1000 := by omega
  have lV := t.ld
  clear o1 b1 gV t rm l0 H hlen hW hn
  go_wp2_with fail
  refine (has_any h a n c i V hn1).mono ?_
  rintro _ V1 ⟨rfl, b1⟩
  have G1 : Hid (TQ w V1 w.heap.size h a n c ls ∧ RvAt V1 (w.heap.size + 1) 35 m.cs) := ⟨G.out.1.below b1, G.out.2.below b1⟩
  clear b1 G lV sV
  by_cases hi : 0 ≤ i ∧ i < (n : Int)
  rotate_left
  · have eb : (decide (0 ≤ i) && decide (i < (n : Int))) = false := by simp; omega
    rw [eb]
    clear eb hi
    have F : Hid (Below w.heap.size w V1) := G1.out.1.bel
    clear G1
    go_wp2_with fail
    refine (awake_any _).mono ?_
    rintro _ V4 ⟨rfl, b4⟩
    have F2 : Hid (Below w.heap.size w V4) := below_over F.out b4
    clear b4
    go_wp2
    go_ret
    exact ⟨rfl, F2.out⟩
  have eb : (decide (0 ≤ i) && decide (i < (n : Int))) = true := by simp; omega
  rw [eb]
  clear eb
  obtain ⟨k, hk⟩ : ∃ k : Nat, i = (k : Int) := ⟨i.toNat, by omega⟩
  subst hk
  have hin0 : (0 : Int) ≤ (k : Int) := by omega
  have hin1 : (k : Int) < (n : Int) := by omega
  have hkn : k < n := by omega
  have hkl : k < ls.length := by rw [HN.out]; exact hkn
  have l1 := G1.out.1.ld
  go_wp2_with fail
  refine (rup_any h a n c ls (k : Int) false V1 G1.out.1.sl hn1).mono ?_
  rintro _ V2 ⟨v2, rfl, o2, b2⟩
  obtain ⟨a2, c2, hv2, s2, _⟩ := o2.form
  rw [upL_len, HN.out] at hv2 s2
  subst hv2
  obtain ⟨V3, s3, t3, g3⟩ := (G1.out.1.below b2).st s2
  have r3 := (G1.out.2.below b2).keptBut g3 (by simp)
  have D0 : (gtP (upL ls (k : Int) false) k).bt 2 = false := by rw [up_at hkl, up_2]
  have G3 : Hid (TQ w V3 w.heap.size h a2 n c2 (upL ls (k : Int) false) ∧ RvAt V3 (w.heap.size + 1) 35 m.cs ∧ (upL ls (k : Int) false).length = n ∧ (gtP (upL ls (k : Int) false) k).bt 2 = false ∧ Rests 2 (gtP (upL ls (k : Int) false) k)) := ⟨t3, r3, by rw [upL_len]; exact HN.out, D0, rests_two D0⟩
  clear o2 b2 s2 t3 g3 r3 D0 G1 l1 hi
  go_wp2_with fail
  clear s3
  go_loopw [7] (fun v7 wr => ∃ r : Nat, r ≤ 2 ∧ v7 = .int .i64 ((2 - r : Nat) : Int) ∧ ∃ a' c' l', TQ w wr w.heap.size h a' n c' l' ∧ RvAt wr (w.heap.size + 1) 35 m.cs ∧ l'.length = n ∧ (gtP l' k).bt 2 = false ∧ Rests r (gtP l' k)) (fun v7 _ => 3 - (intOf v7).toNat)
  case atStart => exact ⟨2, by omega, rfl, _, _, _, G3.out.1, G3.out.2.1, G3.out.2.2.1, G3.out.2.2.2.1, G3.out.2.2.2.2⟩
  case round =>
    obtain ⟨r, hr2, rfl, a', c', l', ht, hm, hl', hd, hR⟩ := hrel
    have hkl' : k < l'.length := by omega
    have J : Hid (TQ w wr w.heap.size h a' n c' l' ∧ RvAt wr (w.heap.size + 1) 35 m.cs ∧ l'.length = n ∧ (gtP l' k).bt 2 = false) := ⟨ht, hm, hl', hd⟩
    have lt := ht.ld
    have hv0 : ((2 - r : Nat) : Int) < 3 := by omega
    obtain ⟨vv, hvv⟩ : ∃ z : Nat, 2 - r = z := ⟨_, rfl⟩
    rw [hvv] at hv0 ⊢
    have HV : Hid (2 - r = vv) := hvv
    clear hvv
    cases ho : stepO (gtP l' k) with
    | none =>
      obtain ⟨e1, e2⟩ := step_none hkl' ho
      have h29 := rest_29 hd ho
      have eh := hear_down m hkl' hd
      have E : Hid (stepL l' (k : Int) = l' ∧ stepB l' (k : Int) = false ∧ hearL l' (k : Int) m = l' ∧ (gtP l' k).nm 29 = 0) := ⟨e1, e2, eh, h29⟩
      clear ht hm hl' hd hR ho e1 e2 h29 eh
      go_wp2_with fail
      refine (pstep_any h a' n c' l' (k : Int) wr J.out.1.sl hn1).mono ?_
      rintro _ U1 ⟨a1, c1, rfl, s1, b1⟩
      rw [E.out.1] at s1
      rw [E.out.2.1]
      obtain ⟨U2, s2, t2, b2⟩ := TQ.new (w := w) (h := h) s1 (below_over J.out.1.bel b1)
      obtain ⟨i1, hi1⟩ : ∃ z, U1.heap.size = z := ⟨_, rfl⟩
      rw [hi1] at s2 t2
      have J2 : Hid (TQ w U2 w.heap.size h a' n c' l' ∧ RvAt U2 (w.heap.size + 1) 35 m.cs) := ⟨(J.out.1.below b1).below b2, (J.out.2.1.below b1).below b2⟩
      have f2 := J2.out.1.ld
      have fm := J2.out.2.mld
      clear s1 b1 t2 b2 lt
      go_wp2_with fail
      refine (phear_any h a' n c' l' (k : Int) m U2 J2.out.1.sl hn1).mono ?_
      rintro _ U3 ⟨a3, c3, rfl, s3, b3⟩
      rw [E.out.2.2.1] at s3
      obtain ⟨U4, s4, t4, g4⟩ := (J2.out.1.below b3).st s3
      have f4 := t4.ld
      have J4 : Hid (TQ w U4 w.heap.size h a3 n c3 l') := t4
      clear s3 b3 t4 g4 J2 f2 fm s2 hi1
      go_wp2_with fail
      refine (pstep_any h a3 n c3 l' (k : Int) U4 J4.out.sl hn1).mono ?_
      rintro _ U5 ⟨a5, c5, rfl, s5, b5⟩
      rw [E.out.1] at s5
      rw [E.out.2.1]
      obtain ⟨U6, s6, t6, b6⟩ := TQ.new (w := w) (h := h) s5 (below_over J4.out.bel b5)
      obtain ⟨i2, hi2⟩ : ∃ z, U5.heap.size = z := ⟨_, rfl⟩
      rw [hi2] at s6 t6
      have J6 : Hid (TQ w U6 w.heap.size h a3 n c3 l' ∧ TQ w U6 i2 h a5 n c5 l') := ⟨(J4.out.below b5).below b6, t6⟩
      have x16 := J6.out.1.var.t16
      have y16 := t6.var.t16
      have f6 := t6.ld
      clear s5 b5 t6 b6 f4 s4 J4
      go_wp2_with fail
      refine (has_any h a5 n c5 (k : Int) U6 hn1).mono ?_
      rintro _ U7 ⟨rfl, b7⟩
      have eb : (decide (0 ≤ (k : Int)) && decide ((k : Int) < (n : Int))) = true := by simp; omega
      rw [eb]
      have J7 : Hid (TQ w U7 w.heap.size h a3 n c3 l' ∧ TQ w U7 i2 h a5 n c5 l') := ⟨J6.out.1.below b7, J6.out.2.below b7⟩
      obtain ⟨g3, o3, rfl⟩ := J7.out.1.sl.some' (by omega)
      obtain ⟨g5, o5, rfl⟩ := J7.out.2.sl.some' (by omega)
      obtain ⟨p, hp⟩ : ∃ p, gtP l' k = p := ⟨_, rfl⟩
      have atp : l'[k]? = some p := by rw [← hp]; exact gtP_at hkl'
      have p29 : p.nm 29 = 0 := by rw [← hp]; exact E.out.2.2.2
      clear b7 J6 f6 x16 y16 s6 hi2 eb
      have x16 := J7.out.1.var.t16
      have y16 := J7.out.2.var.t16
      have x29 := J7.out.1.cell atp (p.num (j := 29) (k := .i64) rfl) (by omega)
      have y29 := J7.out.2.cell atp (p.num (j := 29) (k := .i64) rfl) (by omega)
      have y72 := J7.out.2.cell atp (p.num (j := 72) (k := .i64) rfl) (by omega)
      rw [p29] at x29 y29
      have F : Hid (Below w.heap.size w U7) := J7.out.1.bel
      obtain ⟨K72, hK72⟩ : ∃ z, p.nm 72 = z := ⟨_, rfl⟩
      rw [hK72] at y72
      clear J7 atp hp p29 E hK72 J
      by_cases h1 : K72 = 1
      · subst h1
        go_wp2_with fail
        refine (awake_any _).mono ?_
        rintro _ U8 ⟨rfl, b8⟩
        have F2 : Hid (Below w.heap.size w U8) := below_over F.out b8
        clear b8
        go_wp2
        go_ret
        exact ⟨rfl, F2.out⟩
      · have q1 : (K72 == 1) = false := by simp [h1]
        go_wp2_with fail
        refine (awake_any _).mono ?_
        rintro _ U8 ⟨rfl, b8⟩
        have F2 : Hid (Below w.heap.size w U8) := below_over F.out b8
        clear b8
        go_wp2
        go_ret
        exact ⟨rfl, F2.out⟩
    | some q =>
      obtain ⟨e1, e2⟩ := step_some hkl' ho
      match r, hr2, HV, hR with
      | 0, _, _, hR => exact absurd (show stepO (gtP l' k) = none from hR) (by rw [ho]; simp)
      | r + 1, hr2, HV, hR =>
        have hq : q.bt 2 = false ∧ Rests r q := by
          rcases hR with e | ⟨q', e, h1, h2⟩
          · rw [ho] at e; cases e
          · rw [ho] at e
            cases e
            exact ⟨h1, h2⟩
        have Q : Hid (q.bt 2 = false ∧ Rests r q ∧ gtP (l'.set k q) k = q ∧ (l'.set k q).length = n) := ⟨hq.1, hq.2, gtP_put hkl', by rw [List.length_set]; exact hl'⟩
        clear ht hm hl' hd hR ho hq
        go_wp2_with fail
        refine (pstep_any h a' n c' l' (k : Int) wr J.out.1.sl hn1).mono ?_
        rintro _ U1 ⟨a1, c1, rfl, s1, b1⟩
        rw [e1] at s1
        rw [e2]
        obtain ⟨U2, s2, t2, b2⟩ := TQ.new (w := w) (h := h) s1 (below_over J.out.1.bel b1)
        obtain ⟨i1, hi1⟩ : ∃ z, U1.heap.size = z := ⟨_, rfl⟩
        rw [hi1] at s2 t2
        have f1 := t2.ld
        have tb := (J.out.1.below b1).below b2
        obtain ⟨U3, s3, t3, g3⟩ := tb.st t2.sl
        have m3 := ((J.out.2.1.below b1).below b2).keptBut g3 (by simp)
        have K : Hid (TQ w U3 w.heap.size h a1 n c1 (l'.set k q) ∧ RvAt U3 (w.heap.size + 1) 35 m.cs) := ⟨t3, m3⟩
        clear s1 b1 t2 b2 lt tb t3 g3 m3 e1 e2 J
        go_wp2
        go_roundw
        case rel => exact ⟨r, by omega, by have := HV.out; rw [show 2 - r = vv + 1 by omega]; go_num, _, _, _, K.out.1, K.out.2, Q.out.2.2.2, by rw [Q.out.2.2.1]; exact Q.out.1, by rw [Q.out.2.2.1]; exact Q.out.2.1⟩
        case measure => have := HV.out; simp [intOf]; omega
end Go.Proofs.Ytlneoegmlcbidaa
