/-
  RvarOut: its walk, for every tree.
-/
import Derived.Test.YtnjepjkbmgkdkaaAwake
import Derived.Test.YtnjepjkbmgkdkaaOutP
namespace Go.Proofs.Ytnjepjkbmgkdkaa
set_option linter.unusedVariables false
set_option maxRecDepth 4000
set_option linter.unusedSimpArgs false
open Go.RowKit

attribute [local go_sem ↓] ldP stP ldT stT st5 st29 eqgP neqP
attribute [local go_sem] zeroPort
/-- What stands when the three trees are made. -/
structure OSt (w V : World) (b0 b1 b2 : Nat) (h : Hd) (a d : Option Addr) (n c k : Nat) (ls : List Pt) : Prop where
  t : RvAt V b0 34 (trc h (.slice a n c))
  s : RvAt V b1 34 (trc h (.slice d n k))
  ts : SlAt V a n c ls
  ss : SlAt V d n k ls
  ta : ∀ x, a = some x → x.block < b2
  sa : ∀ x, d = some x → x.block < b2
  l0 : b0 < b2
  l1 : b1 < b2
  bel : Below w.heap.size w V
  lw : w.heap.size ≤ b2
theorem OSt.grown {w V V' : World} {b0 b1 b2 : Nat} {h : Hd} {a d : Option Addr} {n c k : Nat} {ls : List Pt} (o : OSt w V b0 b1 b2 h a d n c k ls) (g : V.grownBy V' (some b2)) : OSt w V' b0 b1 b2 h a d n c k ls :=
  ⟨o.t.keptBut g (by have := o.l0; simp; omega), o.s.keptBut g (by have := o.l1; simp; omega), o.ts.keptBut g (fun x hx => by have := o.ta x hx; simp; omega), o.ss.keptBut g (fun x hx => by have := o.sa x hx; simp; omega), o.ta, o.sa, o.l0, o.l1, gro o.bel g o.lw o.bel.size, o.lw⟩
theorem OSt.grow {w V V' : World} {b0 b1 b2 g : Nat} {h : Hd} {a d : Option Addr} {n c k : Nat} {ls : List Pt} (o : OSt w V b0 b1 b2 h a d n c k ls) (hg : V.grownBy V' (some g)) (hl : b2 ≤ g) : OSt w V' b0 b1 b2 h a d n c k ls :=
  ⟨o.t.keptBut hg (by have := o.l0; simp; omega), o.s.keptBut hg (by have := o.l1; simp; omega), o.ts.keptBut hg (fun x hx => by have := o.ta x hx; simp; omega), o.ss.keptBut hg (fun x hx => by have := o.sa x hx; simp; omega), o.ta, o.sa, o.l0, o.l1, gro o.bel hg (by have := o.lw; omega) o.bel.size, o.lw⟩
theorem OSt.below {w V V' : World} {b0 b1 b2 : Nat} {h : Hd} {a d : Option Addr} {n c k : Nat} {ls : List Pt} (o : OSt w V b0 b1 b2 h a d n c k ls) (g : Below V.heap.size V V') : OSt w V' b0 b1 b2 h a d n c k ls :=
  ⟨o.t.below g, o.s.below g, o.ts.below g, o.ss.below g, o.ta, o.sa, o.l0, o.l1, below_over o.bel g, o.lw⟩
theorem kind29 : kdP[1]? = some (some .u32) := rfl
set_option maxHeartbeats 8000000 in
theorem RvarOut_walk (h : Hd) (a0 : Option Addr) (n0 c0 : Nat) (l : List Pt) (w : World) (hs : SlAt w a0 n0 c0 l) :
    Calls Try.prog 6 #[.agg (trc h (.slice a0 n0 c0))] w fun r w' => r = .returned (.bool true) ∧ Below w.heap.size w w' := by
  obtain ⟨W, hW, r0, bW, zW⟩ := one_t w h (.slice a0 n0 c0)
  have l0 := r0.tld
  have H : Hid (SlAt W a0 n0 c0 l ∧ RvAt W w.heap.size 34 (trc h (.slice a0 n0 c0)) ∧ Below w.heap.size w W ∧ W.heap.size = w.heap.size + 1) := ⟨hs.below bW, r0, bW, zW⟩
  clear hs r0 bW zW
  go_enter Try.func6, Try.ntmps6
  go_wp2_with fail
  refine (few_any h a0 n0 c0 l W H.out.1).mono ?_
  rintro _ W1 ⟨v, rfl, o1, b1⟩
  obtain ⟨V, sV, rV, gV⟩ := (H.out.2.1.below b1).tst (g := h) (y := v) o1.one
  have oV := o1.keptBut gV (o1.apart (by have := H.out.2.2.2; omega))
  obtain ⟨ls, hls⟩ : ∃ ls, l.take 10 = ls := ⟨_, rfl⟩
  have hlen : ls.length ≤ 10 := by rw [← hls, List.length_take]; omega
  rw [hls] at oV
  obtain ⟨a, c, hv, sv, ab⟩ := oV.form
  obtain ⟨n, hn0⟩ : ∃ n, ls.length = n := ⟨_, rfl⟩
  rw [hn0] at hv sv hlen
  subst hv
  have bV : Below w.heap.size w V := gro (below_over H.out.2.2.1 b1) gV (Nat.le_refl _) (below_over H.out.2.2.1 b1).size
  have G : Hid (RvAt V w.heap.size 34 (trc h (.slice a n c)) ∧ SlAt V a n c ls ∧ Below w.heap.size w V ∧ (∀ x, a = some x → x.block < V.heap.size)) := ⟨rV, sv, bV, fun x hx => (ab x hx).2⟩
  have HN : Hid (ls.length = n) := hn0
  have lV := rV.tld
  clear o1 b1 rV gV oV hls sv bV l0 hn0 ab H
  go_wp2_with fail
  refine (few_any h a n c ls V G.out.2.1).mono ?_
  rintro _ V1 ⟨v1, rfl, o2, b2⟩
  rw [List.take_of_length_le (by rw [HN.out]; exact hlen)] at o2
  obtain ⟨d, k, hv1, sd, db⟩ := o2.form
  rw [HN.out] at hv1 sd
  subst hv1
  obtain ⟨V2, s2, r2, bb2, z2⟩ := new_tv V1 h (.slice d n k) rfl
  have l2 := (G.out.1.below (below_over b2 bb2)).tld
  obtain ⟨p1, hp1⟩ : ∃ p, V1.heap.size = p := ⟨_, rfl⟩
  rw [hp1] at s2 r2 z2
  obtain ⟨V3, s3, r3, bb3, z3⟩ := new_tv V2 h (.slice a n c) rfl
  have ez : V2.heap.size = p1 + 1 := z2
  rw [ez] at s3 r3 z3
  have bb := below_over (below_over b2 bb2) bb3
  have hVs := b2.size
  have S0 : Hid (OSt w V3 w.heap.size p1 (p1 + 1) h a d n c k ls ∧ RvAt V3 (p1 + 1) 34 (trc h (.slice a n c)) ∧ V3.heap.size = p1 + 2) := by
    have hw := G.out.2.2.1.size
    have hlt := G.out.1.lt
    refine ⟨⟨G.out.1.below bb, r2.below bb3, G.out.2.1.below bb, (sd.below bb2).below bb3, fun x hx => ?_, fun x hx => ?_, by omega, by omega, below_over G.out.2.2.1 bb, by omega⟩, r3, by omega⟩
    · have := G.out.2.2.2 x hx; omega
    · have := (db x hx).2; omega
  clear b2 bb2 r2 o2 sd db bb3 r3 z3 z2 bb hVs G lV
  go_wp2_with fail
  clear s2 s3 l2
  go_loopw [5] (fun v5 wr => ∃ i : Nat, i ≤ 255 ∧ v5 = .int .i64 i ∧ ∃ au cu, OSt w wr w.heap.size p1 (p1 + 1) h a d n c k ls ∧ RvAt wr (p1 + 1) 34 (trc h (.slice au n cu)) ∧ SlAt wr au n cu (tickL i ls) ∧ p1 + 2 ≤ wr.heap.size) (fun v5 _ => 255 - (intOf v5).toNat)
  case atStart => exact ⟨0, by omega, rfl, a, c, S0.out.1, S0.out.2.1, by rw [tickL_zero]; exact S0.out.1.ts, by have := S0.out.2.2; omega⟩
  case round =>
    obtain ⟨i, hi, rfl, au, cu, oS, uR, uS, zr⟩ := hrel
    have lu := uR.tld
    by_cases hit : i < 255
    · have hin1 : (i : Int) < 255 := by omega
      have J : Hid (OSt w wr w.heap.size p1 (p1 + 1) h a d n c k ls ∧ RvAt wr (p1 + 1) 34 (trc h (.slice au n cu)) ∧ SlAt wr au n cu (tickL i ls) ∧ p1 + 2 ≤ wr.heap.size) := ⟨oS, uR, uS, zr⟩
      clear oS uR uS zr
      go_wp2_with fail
      refine (tick_any h au n cu (tickL i ls) wr J.out.2.2.1 (by omega)).mono ?_
      rintro _ X ⟨vx, rfl, ox, bx⟩
      rw [tickL_next] at ox
      obtain ⟨Y, sY, rY, gY⟩ := (J.out.2.1.below bx).tst (g := h) (y := vx) ox.one
      have oY := ox.keptBut gY (ox.apart (by have := J.out.2.2.2; omega))
      obtain ⟨ay, cy, hy, sy, _⟩ := oY.form
      rw [tickL_len, HN.out] at hy sy
      have N : Hid (OSt w Y w.heap.size p1 (p1 + 1) h a d n c k ls ∧ RvAt Y (p1 + 1) 34 (trc h (.slice ay n cy)) ∧ SlAt Y ay n cy (tickL (i + 1) ls) ∧ p1 + 2 ≤ Y.heap.size) := ⟨(J.out.1.below bx).grown gY, by rw [← hy]; exact rY, sy, by have := J.out.2.2.2; have := bx.size; have := gY.size; omega⟩
      clear ox bx rY gY oY hy sy lu
      go_wp2
      go_roundw
      case rel => exact ⟨i + 1, by omega, by go_num, ay, cy, N.out.1, N.out.2.1, N.out.2.2.1, N.out.2.2.2⟩
      case measure => simp [intOf]; omega
    · have hin : i = 255 := by omega
      have hu : Hid (∀ j, j < n → (tickL i ls)[j]? = some (offP (gtP ls j))) := fun j hj => tickL_at i (by omega) (by rw [HN.out]; exact hj)
      obtain ⟨us, hus⟩ : ∃ us, tickL i ls = us := ⟨_, rfl⟩
      rw [hus] at uS hu
      clear hus
      subst hin
      obtain ⟨A, hA⟩ : ∃ A, wr = A := ⟨_, rfl⟩
      rw [hA] at oS uR uS zr lu ⊢
      have J : Hid (OSt w A w.heap.size p1 (p1 + 1) h a d n c k ls ∧ RvAt A (p1 + 1) 34 (trc h (.slice au n cu)) ∧ SlAt A au n cu us ∧ p1 + 2 ≤ A.heap.size) := ⟨oS, uR, uS, zr⟩
      have cu16 := uR.t16
      have ct16 := oS.t.t16
      clear oS uR uS zr lu hA
      go_wp2_with fail
      clear cu16 ct16
      go_loopw [6] (fun v6 wr => ∃ j : Nat, j ≤ n ∧ v6 = .int .i64 j ∧ Below A.heap.size A wr) (fun v6 _ => n - (intOf v6).toNat)
      case atStart => exact ⟨0, by omega, rfl, Below.refl _ _⟩
      case round =>
        obtain ⟨j, hj, rfl, hB⟩ := hrel
        have hin0 : (0 : Int) ≤ (j : Int) := by omega
        have ct16 := (J.out.1.t.below hB).t16
        by_cases hjn : j < n
        · have hin1 : (j : Int) < (n : Int) := by omega
          have hjl : j < ls.length := by rw [HN.out]; exact hjn
          obtain ⟨b, o, rfl⟩ := J.out.1.ts.some' (by omega)
          obtain ⟨b', o', rfl⟩ := J.out.2.2.1.some' (by omega)
          have lp := (J.out.1.ts.below hB).ld (gtP_at hjl)
          obtain ⟨x, hx⟩ : ∃ x, gtP ls j = x := ⟨_, rfl⟩
          rw [hx] at lp
          obtain ⟨U, sU, rU, bU, zU⟩ := row_new rtP wr zeroP.cs x.cs (by rw [Row.csize, lenP]) (by rw [Row.csize, lenP]) (Row.one' _)
          obtain ⟨q, hq⟩ : ∃ q, wr.heap.size = q := ⟨_, rfl⟩
          rw [hq] at sU rU zU
          obtain ⟨U0, s0, e0, g0⟩ := rU.pU (j := 65) (n := 0) rfl (by omega)
          obtain ⟨U1, s1, e1, g1⟩ := e0.pU (j := 66) (n := 0) rfl (by omega)
          obtain ⟨U2, s2, e2, g2⟩ := e1.pU (j := 67) (n := 0) rfl (by omega)
          obtain ⟨U3, s3, e3, g3⟩ := e2.pU (j := 68) (n := 0) rfl (by omega)
          obtain ⟨U4, s4, e4, g4⟩ := e3.pU (j := 69) (n := 0) rfl (by omega)
          obtain ⟨U5, s5, e5, g5⟩ := e4.pU (j := 70) (n := 0) rfl (by omega)
          obtain ⟨U6, s6, e6, g6⟩ := e5.pU (j := 71) (n := 0) rfl (by omega)
          obtain ⟨U7, s7, e7, g7⟩ := e6.pU (j := 64) (n := 0) rfl (by omega)
          have gg := grown_self (grown_self (grown_self (grown_self (grown_self (grown_self (grown_self g0 g1) g2) g3) g4) g5) g6) g7
          have bA : Below A.heap.size A U7 := gro (below_over hB bU) gg (by have := hB.size; omega) (below_over hB bU).size
          have e7' : RvAt U7 q 55 (offP x).cs := e7
          have K : Hid (RvAt U7 q 55 (offP x).cs ∧ Below A.heap.size A U7) := ⟨e7', bA⟩
          have f1 := fun qq : Later U7 => ((J.out.2.1.below K.out.2).below qq.below).t16
          have f2 := fun qq : Later U7 => ((J.out.2.2.1.below K.out.2).below qq.below).ld (by rw [hu.out j hjn, hx])
          have f3 := fun qq : Later U7 => (K.out.1.below qq.below).pld
          have ee := Row.eq_self (offP x)
          generalize offP x = y at f2 f3 ee
          clear hB rU bU zU e0 e1 e2 e3 e4 e5 e6 e7 g0 g1 g2 g3 g4 g5 g6 g7 gg bA e7' hx hjl
          go_wp2_with fail
          clear s0 s1 s2 s3 s4 s5 s6 s7 sU lp
          refine wp_region_later (by kernel_rfl) (by kernel_rfl) ?_
          repeat (go_big_quiet_step (first | exact rfl))
          refine wpQuiet_nil ?_
          intro _ hw'
          obtain ⟨z, rfl⟩ := hw'
          clear f1 f2 f3 ee
          go_wp2
          go_roundw
          case rel => exact ⟨j + 1, by omega, by go_num, below_over K.out.2 z.below⟩
          case measure => simp [intOf]; omega
        · have hin : j = n := by omega
          subst hin
          have hin1 : ¬ (j : Int) < (j : Int) := by omega
          have J2 : Hid (OSt w wr w.heap.size p1 (p1 + 1) h a d j c k ls ∧ p1 + 2 ≤ wr.heap.size) := ⟨J.out.1.below hB, by have := J.out.2.2.2; have := hB.size; omega⟩
          have lt := J2.out.1.t.tld
          obtain ⟨A2, hA2⟩ : ∃ A2, wr = A2 := ⟨_, rfl⟩
          rw [hA2] at J2 lt ct16 ⊢
          clear hB hA2 J hu
          go_wp2_with fail
          refine (copy_any h a j c ls A2 J2.out.1.ts (by omega)).mono ?_
          rintro _ A3 ⟨vc, rfl, oc, bc⟩
          obtain ⟨A4, s4, r4, b4, z4⟩ := new_tv A3 h vc oc.one
          obtain ⟨q, hq⟩ : ∃ q, A3.heap.size = q := ⟨_, rfl⟩
          rw [hq] at s4 r4 z4
          have o4 := oc.below b4
          have bcs := bc.size
          have hzz := J2.out.2
          have J3 : Hid (OSt w A4 w.heap.size p1 (p1 + 1) h a d j c k ls ∧ RvAt A4 q 34 (trc h vc) ∧ p1 + 2 ≤ q) := ⟨(J2.out.1.below bc).below b4, r4, by omega⟩
          rcases o4.pat with ⟨rfl, hnil⟩ | ⟨g, cc, rfl, hg, hp⟩
          · have j0 : j = 0 := by rw [← HN.out, hnil]; rfl
            subst j0
            have cc16 := r4.t16
            clear oc bc r4 b4 z4 o4 hnil lt ct16 bcs hzz
            go_wp2_with fail
            clear s4 cc16
            go_loopw [9] (fun v9 wr => v9 = .int .i64 0 ∧ Below A4.heap.size A4 wr) (fun _ _ => 0)
            case atStart => exact ⟨rfl, Below.refl _ _⟩
            case round =>
              obtain ⟨rfl, hB9⟩ := hrel
              have cc16 := (J3.out.2.1.below hB9).t16
              have P : Hid (OSt w wr w.heap.size p1 (p1 + 1) h a d 0 c k ls) := J3.out.1.below hB9
              have lt4 := P.out.t.tld
              have ls4 := P.out.s.tld
              clear hB9
              go_wp2_with fail
              refine (rsame_any h h a d 0 0 c k ls ls wr P.out.ts P.out.ss (by omega) (by omega)).mono ?_
              rintro _ A5 ⟨rfl, b5⟩
              rw [sameT_self]
              have B5 : Hid (Below w.heap.size w A5) := below_over P.out.bel b5
              clear b5 cc16 lt4 ls4
              go_wp2_with fail
              refine (awake_any A5).mono ?_
              rintro _ A6 ⟨rfl, b6⟩
              have B6 : Hid (Below w.heap.size w A6) := below_over B5.out b6
              clear b6
              go_wp2
              go_ret
              exact ⟨rfl, B6.out⟩
          · have hlj : ls.length = j := HN.out
            have hgl := hp.lt
            have hgq : g ≠ q := fun e => by
              have := (r4 : A4.heap[q]? = _)
              obtain ⟨cur, hb, _⟩ := hp
              rw [e] at hb
              have h1 : A4.heap[q]? = some (.cells cur 55 (0, 0)) := hb
              rw [this] at h1
              injection h1 with h1
              injection h1 with _ h2
              revert h2
              decide
            rw [hlj] at s4 r4
            have M : Hid (PAt A4 g cc ls ∧ RvAt A4 q 34 (trc h (.slice (some ⟨g, 0, none⟩) j cc)) ∧ A2.heap.size ≤ g ∧ g ≠ q) := ⟨hp, r4, hg, hgq⟩
            clear oc bc r4 b4 z4 o4 lt ct16 bcs hgl hgq hp hg
            simp only [hlj]
            go_wp2_with fail
            clear s4
            go_loopw [9] (fun v9 wr => ∃ (t : Nat) (l' : List Pt), t ≤ j ∧ v9 = .int .i64 t ∧ l'.length = j ∧ PAt wr g cc l' ∧ A4.grownBy wr (some g)) (fun v9 _ => j - (intOf v9).toNat)
            case atStart => exact ⟨0, ls, by omega, rfl, hlj, M.out.1, World.grownBy.refl _ _⟩
            case round =>
              obtain ⟨t, l', ht, rfl, hl', hp', hg'⟩ := hrel
              have hr := M.out.2.1.keptBut hg' (by have := M.out.2.2.2; simp; omega)
              have c16 := hr.t16
              have hin0 : (0 : Int) ≤ (t : Int) := by omega
              by_cases htj : t < j
              · have hin1 : (t : Int) < (j : Int) := by omega
                obtain ⟨Y, sY, pY, gY⟩ := hp'.st1 (i := t) (q := t * 77 + 1) (j := 1) (v := .int .u32 77) (gtP_at (by omega)) info1.2.2.1 (by omega) rfl (fit_num kind29 (by decide)) rfl
                have N : Hid (PAt Y g cc (l'.set t ((gtP l' t).set 1 (.int .u32 77) (fit_num kind29 (by decide)))) ∧ A4.grownBy Y (some g) ∧ (l'.set t ((gtP l' t).set 1 (.int .u32 77) (fit_num kind29 (by decide)))).length = j) := ⟨pY, grown_self hg' gY, by rw [List.length_set]; exact hl'⟩
                clear hp' hg' hr pY gY
                go_wp2
                go_roundw
                case rel => exact ⟨t + 1, _, by omega, by go_num, N.out.2.2, N.out.1, N.out.2.1⟩
                case measure => simp [intOf]; omega
              · have hin : t = j := by omega
                subst hin
                have hin1 : ¬ (t : Int) < (t : Int) := by omega
                have hz2 := J2.out.2
                have P : Hid (OSt w wr w.heap.size p1 (p1 + 1) h a d t c k ls) := J3.out.1.grow hg' (by have := M.out.2.2.1; omega)
                have lt4 := P.out.t.tld
                have ls4 := P.out.s.tld
                clear hp' hg' hr hz2
                go_wp2_with fail
                refine (rsame_any h h a d t t c k ls ls wr P.out.ts P.out.ss (by omega) (by omega)).mono ?_
                rintro _ A5 ⟨rfl, b5⟩
                rw [sameT_self]
                have B5 : Hid (Below w.heap.size w A5) := below_over P.out.bel b5
                clear b5 c16 lt4 ls4
                go_wp2_with fail
                refine (awake_any A5).mono ?_
                rintro _ A6 ⟨rfl, b6⟩
                have B6 : Hid (Below w.heap.size w A6) := below_over B5.out b6
                clear b6
                go_wp2
                go_ret
                exact ⟨rfl, B6.out⟩
end Go.Proofs.Ytnjepjkbmgkdkaa
