/-
  PimAges: its walk, for every tree.
-/
import Derived.Test.YtlneoegmlcbidaaLawS
namespace Go.Proofs.Ytlneoegmlcbidaa
set_option linter.unusedVariables false
set_option maxRecDepth 4000
set_option linter.unusedSimpArgs false
open Go.RowKit

theorem gtP_map {l : List Pt} {k : Nat} {f : Pt → Pt} (hk : k < l.length) : gtP (l.map f) k = f (gtP l k) := by
  have h1 := gtP_at (l := l.map f) (i := k) (by rw [List.length_map]; exact hk)
  rw [List.getElem?_map, gtP_at hk] at h1
  exact (Option.some.inj h1).symm
attribute [local go_sem ↓] ldP stP ldT stT stB stU stI stW
attribute [local go_sem ↓] alP alM
attribute [local go_sem] alP_run alM_run
set_option maxHeartbeats 8000000 in
theorem PimAges_walk (h : Hd) (a0 : Option Addr) (n0 c0 : Nat) (l : List Pt) (i : Int) (w : World) (hs : SlAt w a0 n0 c0 l) (hi : -9223372036854775808 ≤ i ∧ i ≤ 9223372036854775807) :
    Calls Try.prog 5 #[.agg (trc h (.slice a0 n0 c0)), .int .i64 i] w fun r w' => r = .returned (.bool true) ∧ Below w.heap.size w w' := by
  obtain ⟨W, hW, r0, bW, zW⟩ := one_t w h (.slice a0 n0 c0)
  have l0 := r0.tld
  have H : Hid (SlAt W a0 n0 c0 l ∧ RvAt W w.heap.size 31 (trc h (.slice a0 n0 c0)) ∧ Below w.heap.size w W) := ⟨hs.below bW, r0, bW⟩
  clear hs r0 bW zW hi
  go_enter Try.func5, Try.ntmps5
  go_wp2_with fail
  refine (few_any h a0 n0 c0 l W H.out.1).mono ?_
  rintro _ W1 ⟨v, rfl, o1, b1⟩
  obtain ⟨ls, a, n, c, V, hlen, hn, rfl, sV, t, gV⟩ := few_in H.out.2.1 H.out.2.2 (Nat.le_refl _) b1 o1
  have G : Hid (TQ w V w.heap.size h a n c ls) := t
  have HN : Hid (ls.length = n) := hlen
  have hn1 : n ≤ 1000 := by omega
  have lV := t.ld
  clear o1 b1 gV t l0 H hlen hW hn
  go_wp2_with fail
  refine (has_any h a n c i V hn1).mono ?_
  rintro _ V1 ⟨rfl, b1⟩
  have G1 : Hid (TQ w V1 w.heap.size h a n c ls) := G.out.below b1
  clear b1 G lV sV
  by_cases hi : 0 ≤ i ∧ i < (n : Int)
  rotate_left
  · have eb : (decide (0 ≤ i) && decide (i < (n : Int))) = false := by simp; omega
    rw [eb]
    clear eb hi
    have F : Hid (Below w.heap.size w V1) := G1.out.bel
    clear G1
    go_wp2_with fail
    refine (awake_any _).mono ?_
    rintro _ V4 ⟨rfl, b4⟩
    have F2 : Hid (Below w.heap.size w V4) := below_over F.out b4
    clear b4
    go_wp2
    go_ret
    exact ⟨rfl, F2.out⟩
  have eb : (decide (0 ≤ i) && decide (i < (n : Int))) = true := by simp; omega
  rw [eb]
  clear eb
  obtain ⟨k, hk⟩ : ∃ k : Nat, i = (k : Int) := ⟨i.toNat, by omega⟩
  subst hk
  have hin0 : (0 : Int) ≤ (k : Int) := by omega
  have hin1 : (k : Int) < (n : Int) := by omega
  have hkn : k < n := by omega
  have hkl : k < ls.length := by rw [HN.out]; exact hkn
  obtain ⟨g0, o0, rfl⟩ := G1.out.sl.some' (by omega)
  have p16 := G1.out.var.t16
  have lp := G1.out.sl.ld (gtP_at hkl)
  obtain ⟨p, hp⟩ : ∃ p, gtP ls k = p := ⟨_, rfl⟩
  rw [hp] at lp
  obtain ⟨V2, s2, r2, b2, z2⟩ := var_p V1 p
  have hlt := G1.out.var.lt
  obtain ⟨i1, hi1⟩ : ∃ z, V1.heap.size = z := ⟨_, rfl⟩
  rw [hi1] at s2 r2 z2 hlt
  have hiw : w.heap.size ≤ i1 := by omega
  -- the port as the statement makes it
  have q3 : ∃ V3 V4 V5 V6 V7, (stS 4 (.pointer (some ⟨i1, 2, none⟩)) (.bool true)).run Try.prog V2 = .ok () V3 ∧ (stS 45 (.pointer (some ⟨i1, 72, none⟩)) (.int .i64 3)).run Try.prog V3 = .ok () V4 ∧ (stS 44 (.pointer (some ⟨i1, 29, none⟩)) (.int .i64 3)).run Try.prog V4 = .ok () V5 ∧ (stS 4 (.pointer (some ⟨i1, 14, none⟩)) (.bool false)).run Try.prog V5 = .ok () V6 ∧ (stS 4 (.pointer (some ⟨i1, 28, none⟩)) (.bool false)).run Try.prog V6 = .ok () V7 ∧ RvAt V7 i1 47 (waitP p).cs ∧ V2.grownBy V7 (some i1) := by
    obtain ⟨V3, s3, r3, g3⟩ := r2.setB kb2 true
    obtain ⟨V4, s4, r4, g4⟩ := r3.rset (tv := 45) (v := .int .i64 3) infoS (by decide) rfl (fit_num kn72 wi3)
    obtain ⟨V5, s5, r5, g5⟩ := r4.rset (tv := 44) (v := .int .i64 3) infoI (by decide) rfl (fit_num kn29 wi3)
    obtain ⟨V6, s6, r6, g6⟩ := r5.setB kb14 false
    obtain ⟨V7, s7, r7, g7⟩ := r6.setB kb28 false
    exact ⟨V3, V4, V5, V6, V7, s3, s4, s5, s6, s7, r7, grown_self (grown_self (grown_self (grown_self g3 g4) g5) g6) g7⟩
  obtain ⟨V3, V4, V5, V6, V7, s3, s4, s5, s6, s7, r7, g7⟩ := q3
  have t2 := G1.out.below b2
  have t7 : TQ w V7 w.heap.size h (some ⟨g0, o0, none⟩) n c ls := ⟨t2.var.keptBut g7 (by simp; omega), t2.sl.keptBut g7 (fun x hx e => by
      cases hx
      simp only [Option.some.injEq] at e
      have := G1.out.sl.cell (gtP_at hkl) ((gtP ls k).num (j := 72) (k := .i64) rfl) (by omega)
      have hlt0 : g0 < V1.heap.size := World.block_lt_of_cell? V1 _ this
      omega), gro t2.bel g7 hiw t2.bel.size, Nat.le_refl _⟩
  have l7 := t7.ld
  have lq := r7.pld
  have W0 : Hid (Wait (waitP p) (p.nm 69)) := waitP_is p
  obtain ⟨N, hN⟩ : ∃ N : Nat, p.nm 69 = (N : Int) := ⟨(p.nm 69).toNat, by have := p.u8 (j := 69) rfl; omega⟩
  have hN8 : N ≤ 255 := by have := p.u8 (j := 69) rfl; omega
  rw [hN] at W0
  have G7 : Hid (TQ w V7 w.heap.size h (some ⟨g0, o0, none⟩) n c ls ∧ RvAt V7 i1 47 (waitP p).cs ∧ w.heap.size < i1) := ⟨t7, r7, hlt⟩
  obtain ⟨q, hq⟩ : ∃ q, waitP p = q := ⟨_, rfl⟩
  rw [hq] at lq G7 W0
  clear t7 r7 g7 t2 r2 b2 z2 hp hlt hiw hN hq hi G1
  go_wp2_with fail
  refine (with_any h (some ⟨g0, o0, none⟩) n c ls k q V7 G7.out.1.sl hn1 hkn).mono ?_
  rintro _ V8 ⟨g1, c1, rfl, _, s8, b8⟩
  obtain ⟨V9, s9, t9, g9⟩ := (G7.out.1.below b8).st s8
  have r9 := (G7.out.2.1.below b8).keptBut g9 (by have := G7.out.2.2; simp; omega)
  have G9 : Hid (TQ w V9 w.heap.size h (some ⟨g1, 0, none⟩) n c1 (ls.set k q) ∧ RvAt V9 i1 47 q.cs ∧ w.heap.size < i1 ∧ (ls.set k q).length = n ∧ Wait (gtP (ls.set k q) k) ((N : Int) - ((0 : Nat) : Int))) := ⟨t9, r9, G7.out.2.2, by rw [List.length_set]; exact HN.out, by rw [gtP_put hkl, show ((N : Int) - ((0 : Nat) : Int)) = (N : Int) by omega]; exact W0.out⟩
  have HQ : Hid (q.nm 69 = (N : Int)) := W0.out.left
  clear s8 b8 t9 g9 r9 G7 W0 lq l7 s2 s3 s4 s5 s6 s7 lp p16 hkl hi1
  go_wp2_with fail
  clear s9
  go_loopw [6] (fun v6 wr => ∃ m : Nat, m ≤ N ∧ v6 = .int .i64 m ∧ ∃ a' c' l', TQ w wr w.heap.size h a' n c' l' ∧ RvAt wr i1 47 q.cs ∧ l'.length = n ∧ Wait (gtP l' k) ((N : Int) - (m : Int))) (fun v6 _ => N - (intOf v6).toNat)
  case atStart => exact ⟨0, by omega, rfl, _, _, _, G9.out.1, G9.out.2.1, G9.out.2.2.2.1, G9.out.2.2.2.2⟩
  case round =>
    obtain ⟨m, hm, rfl, a', c', l', ht, hr, hl', hw⟩ := hrel
    have hkl' : k < l'.length := by omega
    have c69 := hr.num (j := 69) (k := .u8) rfl
    rw [HQ.out] at c69
    have hwr : IntKind.i64.wrap (N : Int) = (N : Int) := IntWalk.i64_in _ (by omega)
    have J : Hid (TQ w wr w.heap.size h a' n c' l' ∧ RvAt wr i1 47 q.cs ∧ l'.length = n ∧ Wait (gtP l' k) ((N : Int) - (m : Int))) := ⟨ht, hr, hl', hw⟩
    have lt := ht.ld
    by_cases hmN : m < N
    · have hm1 : (m : Int) < (N : Int) := by omega
      obtain ⟨e1, e2⟩ := step_none hkl' (hw.still (by omega))
      clear ht hr hl' hw
      go_wp2_with fail
      refine (pstep_any h a' n c' l' (k : Int) wr J.out.1.sl hn1).mono ?_
      rintro _ U1 ⟨a2, c2, rfl, s1, b1⟩
      rw [e1] at s1
      rw [e2]
      obtain ⟨U2, s2, t2, b2⟩ := TQ.new (w := w) (h := h) s1 (below_over J.out.1.bel b1)
      obtain ⟨i2, hi2⟩ : ∃ z, U1.heap.size = z := ⟨_, rfl⟩
      rw [hi2] at s2 t2
      have J2 : Hid (TQ w U2 w.heap.size h a' n c' l' ∧ RvAt U2 i1 47 q.cs ∧ TQ w U2 i2 h a2 n c2 l') := ⟨(J.out.1.below b1).below b2, (J.out.2.1.below b1).below b2, t2⟩
      have f1 := t2.ld
      have f2 := J2.out.1.ld
      clear s1 b1 t2 b2 lt c69
      go_wp2_with fail
      refine (rsame_any h h a2 a' n n c2 c' l' l' U2 J2.out.2.2.sl J2.out.1.sl hn1 hn1).mono ?_
      rintro _ U3 ⟨rfl, b3⟩
      rw [sameT_self]
      have J3 : Hid (TQ w U3 w.heap.size h a' n c' l' ∧ RvAt U3 i1 47 q.cs) := ⟨J2.out.1.below b3, J2.out.2.1.below b3⟩
      have f3 := J3.out.1.ld
      clear b3 J2 f1 f2 s2 hi2
      go_wp2_with fail
      refine (rtick_any h a' n c' l' U3 J3.out.1.sl hn1).mono ?_
      rintro _ U4 ⟨v4, rfl, o4, b4⟩
      obtain ⟨a4, c4, hv4, s4, _⟩ := o4.form
      rw [List.length_map, J.out.2.2.1] at hv4 s4
      subst hv4
      obtain ⟨U5, s5, t5, g5⟩ := (J3.out.1.below b4).st s4
      have r5 := (J3.out.2.below b4).keptBut g5 (by have := G9.out.2.2.1; simp; omega)
      have K : Hid (TQ w U5 w.heap.size h a4 n c4 (l'.map tickP) ∧ RvAt U5 i1 47 q.cs ∧ (l'.map tickP).length = n ∧ Wait (gtP (l'.map tickP) k) ((N : Int) - ((m + 1 : Nat) : Int))) := ⟨t5, r5, by rw [List.length_map]; exact J.out.2.2.1, by
        rw [gtP_map hkl', show ((N : Int) - ((m + 1 : Nat) : Int)) = ((N : Int) - (m : Int)) - 1 by omega]
        exact J.out.2.2.2.tick (by omega)⟩
      clear o4 b4 s4 t5 g5 r5 J3 f3 J
      go_wp2
      go_roundw
      case rel => exact ⟨m + 1, by omega, by go_num, _, _, _, K.out.1, K.out.2.1, K.out.2.2.1, K.out.2.2.2⟩
      case measure => simp [intOf]; omega
    · have hmN' : m = N := by omega
      subst hmN'
      have hm1 : ¬ (m : Int) < (m : Int) := by omega
      rw [Int.sub_self] at hw
      have e0 := hw.out
      obtain ⟨e1, e2⟩ := step_some hkl' e0
      obtain ⟨x, hx⟩ : ∃ x, agdP (gtP l' k) = x := ⟨_, rfl⟩
      rw [hx] at e1
      have x29 : x.nm 29 = 1 := by rw [← hx, agd_29]
      have x72 : x.nm 72 = 2 := by rw [← hx, agd_72]
      have x21 : x.bt 21 = true := by rw [← hx, agd_21]
      clear ht hr hw hl' e0 hx
      go_wp2_with fail
      refine (pstep_any h a' n c' l' (k : Int) wr J.out.1.sl hn1).mono ?_
      rintro _ U1 ⟨a2, c2, rfl, s1, b1⟩
      rw [e1] at s1
      rw [e2]
      obtain ⟨U2, s2, t2, b2⟩ := TQ.new (w := w) (h := h) s1 (below_over J.out.1.bel b1)
      obtain ⟨i2, hi2⟩ : ∃ z, U1.heap.size = z := ⟨_, rfl⟩
      rw [hi2] at s2 t2
      obtain ⟨g2, o2, rfl⟩ := t2.sl.some' (by omega)
      have f16 := t2.var.t16
      have d16 := ((J.out.1.below b1).below b2).var.t16
      have atx : (l'.set k x)[k]? = some x := by rw [List.getElem?_set, if_pos rfl, if_pos hkl']
      have y29 := t2.cell atx (x.num (j := 29) (k := .i64) rfl) (by omega)
      have y72 := t2.cell atx (x.num (j := 72) (k := .i64) rfl) (by omega)
      have y21 := t2.cell atx (x.bit (j := 21) rfl) (by omega)
      rw [x29] at y29
      rw [x72] at y72
      rw [x21] at y21
      have F : Hid (Below w.heap.size w U2) := t2.bel
      clear s1 b1 t2 b2 lt c69 J atx x29 x72 x21 e1 e2
      go_wp2_with fail
      refine (awake_any _).mono ?_
      rintro _ U3 ⟨rfl, b3⟩
      have F2 : Hid (Below w.heap.size w U3) := below_over F.out b3
      clear b3
      go_wp2
      go_ret
      exact ⟨rfl, F2.out⟩
end Go.Proofs.Ytlneoegmlcbidaa
