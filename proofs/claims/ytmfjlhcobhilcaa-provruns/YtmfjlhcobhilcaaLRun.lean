/-
  What any commands make of a bridge, one behind the other: the walk of the statement, for every input.
-/
import Derived.Test.YtmfjlhcobhilcaaMde
import Derived.Test.YtmfjlhcobhilcaaLDo
namespace Go.Proofs.Ytmfjlhcobhilcaa
set_option linter.unusedVariables false
set_option maxRecDepth 4000
set_option linter.unusedSimpArgs false
open Go.RowKit
attribute [local go_sem ↓] ldM stM ldC stC ldB stB ldP stP apI bsI
attribute [local go_sem] bsI_is bsI2_is

attribute [local go_sem ↓] stIs stKs stMs stCs stBs ldD stD apK bsK
attribute [local go_sem] bsK_is
set_option maxHeartbeats 16000000 in
theorem ProvRuns_walk (bits ports : Int) (a : Option Addr) (n c : Nat) (rr : List Cm) (L : List Cd) (w : World) (hb : 0 ≤ bits ∧ bits ≤ 255) (hp : 0 ≤ ports ∧ ports ≤ 255) (h : Cms w a n c rr L) :
    Calls Try.prog 5 #[.int .u8 bits, .int .u8 ports, .slice a n c] w fun r w' => r = .returned (.bool true) ∧ Below w.heap.size w w' := by
  have H : Hid (Cms w a n c rr L) := h
  have hni := h.sl.int
  clear h
  go_enter Try.func5, Try.ntmps5
  go_wp2_with fail
  refine (made_any bits ports none 0 0 [] [] w hb hp (Cms.nil w)).mono ?_
  rintro _ W1 ⟨⟨x1, rfl, h1⟩, b1⟩
  obtain ⟨P0, hP0⟩ : ∃ z, madeP bits (prtN ports) [] = z := ⟨_, rfl⟩
  have E0 : Hid (chk P0 = true) := by rw [← hP0]; exact made_chk _ _ _
  rw [hP0] at h1
  obtain ⟨W2, s2, S2, b2⟩ := PvS.new (w := w) b1 h1
  have A2 : Hid (PvS w W2 W1.heap.size x1 P0 ∧ W1.heap.size < W2.heap.size) := ⟨S2, S2.var.lt⟩
  clear h1 b1 S2 b2 hP0
  have l2 := A2.out.1.ld
  obtain ⟨W3, s3, S3, b3⟩ := PvS.new (w := w) A2.out.1.bel A2.out.1.pv
  have A3 : Hid (PvS w W3 W1.heap.size x1 P0 ∧ PvS w W3 W2.heap.size x1 P0 ∧ W1.heap.size ≠ W2.heap.size) := ⟨A2.out.1.below b3, S3, by have := A2.out.2; omega⟩
  clear S3 b3
  go_wp2_with fail
  obtain ⟨g1, hg1⟩ : ∃ z, W1.heap.size = z := ⟨_, rfl⟩
  obtain ⟨g2, hg2⟩ : ∃ z, W2.heap.size = z := ⟨_, rfl⟩
  rw [hg1, hg2] at A3
  clear A2 l2
  rw [hg1, hg2]
  clear hg1 hg2
  go_loopw [9] (fun v wr => ∃ (i : Nat) (x y : Pr) (P : Pv), i ≤ n ∧ i ≤ 90 ∧ v = .int .i64 i ∧ chk P = true ∧ PvS w wr g1 x P ∧ PvS w wr g2 y P) (fun v _ => n - (intOf v).toNat)
  case atStart => exact ⟨0, x1, x1, P0, by omega, by omega, rfl, E0.out, A3.out.1, A3.out.2.1⟩
  case round =>
    obtain ⟨i, x, y0, P, hi, hj, rfl, hC, hS, hT⟩ := hrel
    have J : Hid (PvS w wr g1 x P ∧ PvS w wr g2 y0 P ∧ chk P = true ∧ Sz P) := ⟨hS, hT, hC, chk_sz hC⟩
    have hi0 : (0 : Int) ≤ (i : Int) := by omega
    clear hS hT hC
    by_cases hit : i < n ∧ i < 90
    · have hi1 : (i : Int) < (n : Int) := by omega
      have hi2 : (i : Int) < 90 := by omega
      have HI : Hid (i < n ∧ i < 90) := hit
      obtain ⟨b, o, rfl⟩ := H.out.sl.some' (by omega)
      obtain ⟨y, d, hy, hd, hc⟩ := H.out.get (i := i) (by omega)
      have l0 := lD (H.out.sl.below J.out.1.bel) hy
      obtain ⟨U1, s1, m1, b1⟩ := CmAt.put wr y
      have X : Hid (L[i]? = some d ∧ IsCm w y d) := ⟨hd, hc⟩
      have C1 : Hid (CmAt U1 wr.heap.size y ∧ Below wr.heap.size wr U1) := ⟨m1, b1⟩
      clear hy hd hc m1 b1
      have l1 := C1.out.1.b
      go_wp2_with fail
      refine (short_any y.b d.b.ps U1 (X.out.2.p.below (below_over J.out.1.bel C1.out.2))).mono ?_
      rintro _ U2 ⟨⟨z, rfl, hv, hs⟩, b2⟩
      obtain ⟨U3, s3, m3, g3⟩ := (C1.out.1.below b2).stB z
      obtain ⟨y', hy'⟩ : ∃ zz : Cm, { y with b := z } = zz := ⟨_, rfl⟩
      rw [hy'] at m3
      have C3 : Hid (CmAt U3 wr.heap.size y' ∧ Below wr.heap.size wr U3 ∧ IsCm U3 y' (shD d)) := by
        have bb : Below wr.heap.size wr U3 := gro (below_over C1.out.2 b2) g3 (Nat.le_refl _) (below_over C1.out.2 b2).size
        refine ⟨m3, bb, ?_⟩
        rw [← hy']
        exact (X.out.2.sh hv (hs w X.out.2.p)).below (below_over J.out.1.bel bb)
      clear hv hs b2 m3 g3 l0 l1 hy'
      clear hit
      obtain ⟨⟨q, e⟩, hqe⟩ : ∃ zz, doC P (shD d) = zz := ⟨_, rfl⟩
      have D : Hid (doC P (shD d) = (q, e)) := hqe
      clear hqe
      have DQ : Hid (chk q = true ∧ (e ≠ 0 → q = P)) := by
        refine ⟨by have := do_chk (shD d) J.out.2.2.1; rw [D.out] at this; exact this, fun he => ?_⟩
        have := do_err (p := P) (c := shD d) (by rw [D.out]; exact he)
        rw [D.out] at this
        exact this
      have A4 : Hid (PvS w U3 g1 x P ∧ PvS w U3 g2 y0 P) := ⟨J.out.1.below C3.out.2.1, J.out.2.1.below C3.out.2.1⟩
      have l2 := A4.out.1.ld
      have l3 := C3.out.1.ld
      go_wp2_with fail
      refine (do_is A4.out.1.pv J.out.2.2.2 C3.out.2.2 (sh_len d) D.out).mono ?_
      rintro _ U4 ⟨⟨x2, rfl, h4⟩, b4⟩
      obtain ⟨U5, s5, Q5, b5⟩ := PvS.new (w := w) (below_over A4.out.1.bel b4) h4.pv
      have A5 : Hid (PvS w U5 g1 x P ∧ PvS w U5 g2 y0 P ∧ PvS w U5 U4.heap.size x2 q ∧ CmAt U5 wr.heap.size y' ∧ IsCm U5 y' (shD d) ∧ g1 < U4.heap.size ∧ g2 < U4.heap.size) := ⟨(A4.out.1.below b4).below b5, (A4.out.2.below b4).below b5, Q5, (C3.out.1.below b4).below b5, (C3.out.2.2.below b4).below b5, (A4.out.1.below b4).var.lt, (A4.out.2.below b4).var.lt⟩
      clear h4 b4 Q5 b5 l2 l3
      have l2 := A5.out.2.1.ld
      have l3 := A5.out.2.2.2.1.ld
      go_wp2_with fail
      refine (rdo_is A5.out.2.1.pv J.out.2.2.2 A5.out.2.2.2.2.1 (sh_len d)).mono ?_
      rintro _ U6 ⟨⟨x3, rfl, h4⟩, b4⟩
      rw [D.out] at h4
      rw [D.out]
      obtain ⟨U7, s7, Q7, b7⟩ := PvS.new (w := w) (below_over A5.out.1.bel b4) h4
      have A7 : Hid (PvS w U7 g1 x P ∧ PvS w U7 g2 y0 P ∧ PvS w U7 U4.heap.size x2 q ∧ PvS w U7 U6.heap.size x3 q ∧ g1 ≠ U4.heap.size ∧ g2 ≠ U4.heap.size ∧ g1 ≠ U6.heap.size) := ⟨(A5.out.1.below b4).below b7, (A5.out.2.1.below b4).below b7, (A5.out.2.2.1.below b4).below b7, Q7, by have := A5.out.2.2.2.2.2.1; omega, by have := A5.out.2.2.2.2.2.2; omega, by have := (A5.out.1.below b4).var.lt; omega⟩
      clear h4 b4 Q7 b7 l2 l3
      have f3 := A7.out.2.2.1.ld
      have f4 := A7.out.2.2.2.1.ld
      have f1 := A7.out.1.ld
      go_wp2_with fail
      refine (rsame_yes x2 x3 q U7 A7.out.2.2.1.pv A7.out.2.2.2.1.pv).mono ?_
      rintro _ U8 ⟨rfl, b8⟩
      have A8 : Hid (PvS w U8 g1 x P ∧ PvS w U8 g2 y0 P ∧ PvS w U8 U4.heap.size x2 q ∧ PvS w U8 U6.heap.size x3 q) := ⟨A7.out.1.below b8, A7.out.2.1.below b8, A7.out.2.2.1.below b8, A7.out.2.2.2.1.below b8⟩
      clear b8 f3 f4 f1
      by_cases he : e = 0
      · subst he
        have f3 := A8.out.2.2.1.ld
        go_wp2_with fail
        refine (ret_i (chk_any x2 q U8 A8.out.2.2.1.pv (chk_sz DQ.out.1).2.2.2.2) (by rw [DQ.out.1])).mono ?_
        rintro _ U9 ⟨rfl, b9⟩
        rw [erC_yes]
        have A9 : Hid (PvS w U9 g1 x P ∧ PvS w U9 g2 y0 P ∧ PvS w U9 U4.heap.size x2 q ∧ PvS w U9 U6.heap.size x3 q) := ⟨A8.out.1.below b9, A8.out.2.1.below b9, A8.out.2.2.1.below b9, A8.out.2.2.2.below b9⟩
        clear b9 f3
        have f3 := A9.out.2.2.1.ld
        obtain ⟨Y1, sY1, R1, k1⟩ := A9.out.1.st A9.out.2.2.1.pv
        have AY : Hid (PvS w Y1 g1 x2 q ∧ PvS w Y1 g2 y0 _ ∧ PvS w Y1 U6.heap.size x3 q) := ⟨R1, A9.out.2.1.other A9.out.1 k1 A3.out.2.2.symm, A9.out.2.2.2.other A9.out.1 k1 A7.out.2.2.2.2.2.2.symm⟩
        have f4 := AY.out.2.2.ld
        obtain ⟨Y2, sY2, R2, k2⟩ := AY.out.2.1.st AY.out.2.2.pv
        have AZ : Hid (PvS w Y2 g1 x2 q ∧ PvS w Y2 g2 x3 q) := ⟨AY.out.1.other AY.out.2.1 k2 A3.out.2.2, R2⟩
        clear R1 k1 R2 k2
        go_wp2
        go_roundw
        case rel => exact ⟨i + 1, x2, x3, q, by have := HI.out; omega, by have := HI.out; omega, by go_num, DQ.out.1, AZ.out.1, AZ.out.2⟩
        case measure => have := HI.out; simp [intOf]; omega
      · have e0 : (e == 0) = false := by simp [he]
        have e1 : (e != 0) = true := by simp [he]
        obtain rfl : q = P := DQ.out.2 he
        have f3 := A8.out.2.2.1.ld
        have f1 := A8.out.1.ld
        clear he
        go_wp2_with fail
        refine (rsame_yes x2 x q U8 A8.out.2.2.1.pv A8.out.1.pv).mono ?_
        rintro _ U8b ⟨rfl, b9⟩
        have A8b : Hid (PvS w U8b g1 x q ∧ PvS w U8b g2 y0 q ∧ PvS w U8b U4.heap.size x2 q ∧ PvS w U8b U6.heap.size x3 q) := ⟨A8.out.1.below b9, A8.out.2.1.below b9, A8.out.2.2.1.below b9, A8.out.2.2.2.below b9⟩
        clear b9 f3 f1
        have f3 := A8b.out.2.2.1.ld
        go_wp2_with fail
        refine (ret_i (chk_any x2 q U8b A8b.out.2.2.1.pv (chk_sz DQ.out.1).2.2.2.2) (by rw [DQ.out.1])).mono ?_
        rintro _ U9 ⟨rfl, b9⟩
        rw [erC_yes]
        have A9 : Hid (PvS w U9 g1 x q ∧ PvS w U9 g2 y0 q ∧ PvS w U9 U4.heap.size x2 q ∧ PvS w U9 U6.heap.size x3 q) := ⟨A8b.out.1.below b9, A8b.out.2.1.below b9, A8b.out.2.2.1.below b9, A8b.out.2.2.2.below b9⟩
        clear b9 f3
        have f3 := A9.out.2.2.1.ld
        obtain ⟨Y1, sY1, R1, k1⟩ := A9.out.1.st A9.out.2.2.1.pv
        have AY : Hid (PvS w Y1 g1 x2 q ∧ PvS w Y1 g2 y0 _ ∧ PvS w Y1 U6.heap.size x3 q) := ⟨R1, A9.out.2.1.other A9.out.1 k1 A3.out.2.2.symm, A9.out.2.2.2.other A9.out.1 k1 A7.out.2.2.2.2.2.2.symm⟩
        have f4 := AY.out.2.2.ld
        obtain ⟨Y2, sY2, R2, k2⟩ := AY.out.2.1.st AY.out.2.2.pv
        have AZ : Hid (PvS w Y2 g1 x2 q ∧ PvS w Y2 g2 x3 q) := ⟨AY.out.1.other AY.out.2.1 k2 A3.out.2.2, R2⟩
        clear R1 k1 R2 k2
        go_wp2
        go_roundw
        case rel => exact ⟨i + 1, x2, x3, q, by have := HI.out; omega, by have := HI.out; omega, by go_num, DQ.out.1, AZ.out.1, AZ.out.2⟩
        case measure => have := HI.out; simp [intOf]; omega
    · have AW : Hid (Below w.heap.size w wr) := J.out.1.bel
      by_cases h1 : i < n
      · have hi1 : (i : Int) < (n : Int) := by omega
        have hi2 : ¬ (i : Int) < 90 := by omega
        clear hit
        go_wp2_with fail
        refine (awake_any wr).mono ?_
        rintro _ V6 ⟨rfl, b6⟩
        have M6 : Hid (Below w.heap.size w V6) := below_over AW.out b6
        clear b6
        go_wp2
        go_ret
        exact ⟨rfl, M6.out⟩
      · have hi1 : ¬ (i : Int) < (n : Int) := by omega
        clear hit
        go_wp2_with fail
        refine (awake_any wr).mono ?_
        rintro _ V6 ⟨rfl, b6⟩
        have M6 : Hid (Below w.heap.size w V6) := below_over AW.out b6
        clear b6
        go_wp2
        go_ret
        exact ⟨rfl, M6.out⟩
end Go.Proofs.Ytmfjlhcobhilcaa
