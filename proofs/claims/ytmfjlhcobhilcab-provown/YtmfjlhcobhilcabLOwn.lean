/-
  What is told is new memory: the walk of the statement, for every input.
-/
import Derived.Test.YtmfjlhcobhilcabMde
import Derived.Test.YtmfjlhcobhilcabQw
namespace Go.Proofs.Ytmfjlhcobhilcab
set_option linter.unusedVariables false
set_option maxRecDepth 4000
set_option linter.unusedSimpArgs false
open Go.RowKit
attribute [local go_sem ↓] ldM stM ldC stC ldB stB ldP stP apI bsI
attribute [local go_sem] bsI_is bsI2_is

attribute [local go_sem ↓] stIs stKs stMs stCs stBs ldD stD apK bsK
attribute [local go_sem] bsK_is
theorem stI (x y : Value) : Instr.storeAt 3 x y = stS 3 x y := rfl
theorem stKd (x y : Value) : Instr.storeAt 31 x y = stS 31 x y := rfl
attribute [local go_sem ↓] stI stKd
theorem bsI0_is (w : World) : (bsS 36 0 #[]).run Try.prog w = .ok (.slice (some ⟨w.heap.size, 0, none⟩) 0 0) (w.alloc (.cells #[] 3)) := by kernel_rfl
attribute [local go_sem] bsI0_is
theorem infoKd : (Try.prog.info? 31).map (·.size) = some 1 := by kernel_rfl
/-- A command's ports stored. -/
theorem CmAt.stP {W : World} {b : Nat} {x : Cm} (h : CmAt W b x) (a : Option Addr) (n c : Nat) : ∃ V, (stS 36 (.pointer (some ⟨b, 7, none⟩)) (.slice a n c)).run Try.prog W = .ok () V ∧ CmAt V b { x with b := ⟨x.b.v, a, n, c⟩ } ∧ W.grownBy V (some b) := ⟨_, RvAt.st1 h infoIs (by show 7 < 21; omega) rfl, RvAt.set h, grown_row _ _ _⟩
theorem cm_swap {W W' : World} {g : Nat} {y : Cm} {z : Mr} (h : CmAt W g y) (h' : CmAt W' g { y with b := z }) (hg : W.grownBy W' (some g)) (hv : z.v = y.b.v) : Swap W W' g 7 (.slice y.b.a y.b.n y.b.c) (.slice z.a z.n z.c) := by
  refine Swap.of h h' hg rfl rfl fun j hj => ?_
  have e : ({ y with b := z } : Cm).cs = (y.cs.setIfInBounds 6 (.int .i64 z.v)).setIfInBounds 7 (.slice z.a z.n z.c) := rfl
  rw [e, Array.getElem?_setIfInBounds_ne (fun e => hj e.symm)]
  by_cases h6 : j = 6
  · subst h6
    rw [hv]
    rfl
  · rw [Array.getElem?_setIfInBounds_ne (fun e => h6 e.symm)]
theorem rsame_yes (x y : Pr) (q : Pv) (w : World) (h : IsPv w x q) (k : IsPv w y q) : Calls Try.prog 11 #[.agg x.cs, .agg y.cs] w fun r w' => r = .returned (.bool true) ∧ Below w.heap.size w w' :=
  (rsame_any x y q q w h k).mono fun _ _ h => ⟨h.1.is ⟨fun _ => rfl, fun _ => rfl⟩, h.2⟩
set_option maxHeartbeats 64000000 in
theorem ProvOwn_walk (bits ports : Int) (a : Option Addr) (n c : Nat) (rr : List Cm) (L : List Cd) (y : Cm) (d : Cd) (w : World) (hb : 0 ≤ bits ∧ bits ≤ 255) (hp : 0 ≤ ports ∧ ports ≤ 255) (h : Cms w a n c rr L) (hy : IsCm w y d) :
    Calls Try.prog 4 #[.int .u8 bits, .int .u8 ports, .slice a n c, .agg y.cs] w fun r w' => r = .returned (.bool true) ∧ Below w.heap.size w w' := by
  obtain ⟨W1, hW1, m1, b1, z1⟩ := CmAt.new w y
  have H : Hid (Cms w a n c rr L ∧ IsCm w y d) := ⟨h, hy⟩
  have A0 : Hid (CmAt W1 w.heap.size y ∧ Below w.heap.size w W1 ∧ W1.heap.size = w.heap.size + 1) := ⟨m1, b1, z1⟩
  clear h hy m1 b1 z1
  go_enter Try.func4, Try.ntmps4
  go_wp2_with fail
  refine (made_any bits ports a n c rr L W1 hb hp (H.out.1.below A0.out.2.1)).mono ?_
  rintro _ X1 ⟨⟨x, rfl, h1⟩, b1⟩
  obtain ⟨P, hP⟩ : ∃ z, madeP bits (prtN ports) L = z := ⟨_, rfl⟩
  have E0 : Hid (chk P = true ∧ Sz P ∧ madeP bits (prtN ports) L = P) := by rw [← hP]; exact ⟨made_chk _ _ _, chk_sz (made_chk _ _ _), rfl⟩
  rw [hP] at h1
  obtain ⟨X2, s2, S2, b2⟩ := PvS.new (w := w) (below_over A0.out.2.1 b1) h1
  have A1 : Hid (PvS w X2 X1.heap.size x P ∧ CmAt X2 w.heap.size y ∧ w.heap.size < X1.heap.size ∧ X1.heap.size < X2.heap.size) := ⟨S2, (A0.out.1.below b1).below b2, by have := b1.size; have := A0.out.2.2; omega, S2.var.lt⟩
  clear h1 b1 S2 b2 hP
  go_wp2_with fail
  refine (made_any bits ports a n c rr L X2 hb hp (H.out.1.below A1.out.1.bel)).mono ?_
  rintro _ X3 ⟨⟨xk, rfl, h1⟩, b1⟩
  rw [E0.out.2.2] at h1
  obtain ⟨X4, s4, S4, b4⟩ := PvS.new (w := w) (below_over A1.out.1.bel b1) h1
  have A2 : Hid (PvS w X4 X1.heap.size x P ∧ PvS w X4 X3.heap.size xk P ∧ CmAt X4 w.heap.size y ∧ w.heap.size < X1.heap.size ∧ w.heap.size < X3.heap.size ∧ X1.heap.size ≠ X3.heap.size) := ⟨(A1.out.1.below b1).below b4, S4, (A1.out.2.1.below b1).below b4, A1.out.2.2.1, by have := b1.size; have := A1.out.2.2; omega, by have := b1.size; have := A1.out.2.2; omega⟩
  clear h1 b1 S4 b4
  have l0 := A2.out.2.2.1.b
  go_wp2_with fail
  refine (short_all y.b d.b.ps X4 (H.out.2.p.below A2.out.1.bel)).mono ?_
  rintro _ X5 ⟨⟨z, rfl, hv, hs⟩, b5⟩
  obtain ⟨X6, s6, m6, g6⟩ := (A2.out.2.2.1.below b5).stB z
  obtain ⟨gp, hgp⟩ : ∃ zz, X1.heap.size = zz := ⟨_, rfl⟩
  obtain ⟨gk, hgk⟩ : ∃ zz, X3.heap.size = zz := ⟨_, rfl⟩
  rw [hgp, hgk] at A2
  have A6 : Hid (PvS w X6 gp x P ∧ PvS w X6 gk xk P ∧ CmAt X6 w.heap.size { y with b := z } ∧ SlAt eI X6 z.a z.n z.c (d.b.ps.take 10) ∧ z.v = d.b.v) := by
    have sw := cm_swap (A2.out.2.2.1.below b5) m6 g6 hv
    have r1 := (A2.out.1.below b5).swap sw (cut_swap sw hs) (chk_eight E0.out.1) g6 (by have := A2.out.2.2.2.1; omega) (Nat.le_refl _)
    have r2 := (A2.out.2.1.below b5).swap sw (cut_swap sw hs) (chk_eight E0.out.1) g6 (by have := A2.out.2.2.2.2.1; omega) (Nat.le_refl _)
    exact ⟨r1, r2, m6, (hs w d.b.ps H.out.2.p).below r1.bel, hv.trans H.out.2.v⟩
  obtain ⟨y', hy'⟩ : ∃ zz : Cm, { y with b := z } = zz := ⟨_, rfl⟩
  have Y6 : Hid (y'.b = z ∧ y'.k = d.k ∧ y'.m = d.m ∧ y'.c = d.c) := by rw [← hy']; exact ⟨rfl, H.out.2.k, H.out.2.m, H.out.2.c⟩
  rw [hy'] at A6
  clear hv hs b5 m6 g6 l0
  clear hy'
  obtain ⟨V0, hV0⟩ : ∃ zz, X6.alloc (.cells #[] 3) = zz := ⟨_, rfl⟩
  have bV0 : Below X6.heap.size X6 V0 := by rw [← hV0]; exact (Below.refl _ _).alloc (Nat.le_refl _) _
  have oV0 : Own eI V0 X6.heap.size (.slice (some ⟨X6.heap.size, 0, none⟩) 0 0) [] := by rw [← hV0]; exact Own.zero kI X6
  have fx := (A6.out.2.2.1.below bV0).bp
  rw [Y6.out.1] at fx
  obtain ⟨v1, V1, aV1, oV1, gV1⟩ := oV0.app kI (A6.out.2.2.2.1.below bV0) (by rw [List.length_nil, List.length_take]; omega) bV0.size 36
  have aV1 : (apS 36 36 #[.slice (some ⟨X6.heap.size, 0, none⟩) 0 0, .slice z.a z.n z.c]).run Try.prog V0 = .ok v1 V1 := aV1
  rw [List.nil_append] at oV1
  have bV1 : Below X6.heap.size X6 V1 := bV0.trans (below_of_grown gV1 bV0.size (fun j e => by cases e; exact Nat.le_refl _))
  obtain ⟨pa, pc, rfl, ps1, _⟩ := oV1.form
  obtain ⟨V2, s7, m7, g7⟩ := (A6.out.2.2.1.below bV1).stP pa (d.b.ps.take 10).length pc
  obtain ⟨pn, hpn⟩ : ∃ zz, (d.b.ps.take 10).length = zz := ⟨_, rfl⟩
  rw [hpn] at aV1 s7 m7 ps1
  have sl : Swap V1 V2 w.heap.size 7 (.slice z.a z.n z.c) (.slice pa pn pc) := by
    have := cm_swap (A6.out.2.2.1.below bV1) m7 g7 rfl
    rw [Y6.out.1] at this
    exact this
  have hrep : ∀ ps : List Int, ps.length ≤ 8 → SlAt eI V1 z.a z.n z.c ps → SlAt eI V2 pa pn pc ps := fun ps _ hps => by
    have e := SlAt.inj kI inj_I hps (A6.out.2.2.2.1.below bV1)
    rw [e]
    exact ps1.swap kI int_I sl
  obtain ⟨y2, hy2⟩ : ∃ zz : Cm, { y' with b := ⟨y'.b.v, pa, pn, pc⟩ } = zz := ⟨_, rfl⟩
  have A7 : Hid (PvS w V2 gp x P ∧ PvS w V2 gk xk P ∧ CmAt V2 w.heap.size y2 ∧ IsCm V2 y2 (shD d)) := by
    have r1 := (A6.out.1.below bV1).swap sl hrep (chk_eight E0.out.1) g7 (by have := A2.out.2.2.2.1; omega) (Nat.le_refl _)
    have r2 := (A6.out.2.1.below bV1).swap sl hrep (chk_eight E0.out.1) g7 (by have := A2.out.2.2.2.2.1; omega) (Nat.le_refl _)
    refine ⟨r1, r2, by rw [← hy2]; exact m7, ?_⟩
    rw [← hy2]
    exact ⟨Y6.out.2.1, Y6.out.2.2.1, Y6.out.2.2.2, by show y'.b.v = d.b.v; rw [Y6.out.1]; exact A6.out.2.2.2.2, ps1.swap kI int_I sl⟩
  clear bV0 oV0 oV1 gV1 bV1 ps1 m7 g7 sl hrep hy2 hpn
  obtain ⟨⟨q, e⟩, hqe⟩ : ∃ zz, doC P (shD d) = zz := ⟨_, rfl⟩
  have D : Hid (doC P (shD d) = (q, e)) := hqe
  clear hqe
  have l2 := A7.out.1.ld
  have l3 := A7.out.2.2.1.ld
  go_wp2_with fail
  clear fx aV1 s7
  try rw [hgp]
  try rw [hgk]
  clear hgp hgk
  refine (do_is A7.out.1.pv E0.out.2.1 A7.out.2.2.2 (sh_len d) D.out).mono ?_
  rintro _ U4 ⟨⟨xq, rfl, h4⟩, b4⟩
  obtain ⟨U5, s5, m5, b5⟩ := PrAt.put U4 xq h4.pv.one
  obtain ⟨ka, kn, kc, ma, mn, mc, ca, cn, cc, ba, bn, bc, hk, hm, hc, hbb, nk, nm, nc, nb, QQ⟩ := QW.of (h4.below b5) m5
  have A8 : Hid (PvS w V2 gp x P ∧ PvS w V2 gk xk P) := ⟨A7.out.1, A7.out.2.1⟩
  have HQ : Hid (x.k = x.k ∧ xq.k = .slice ka kn kc ∧ xq.m = .slice ma mn mc ∧ xq.c = .slice ca cn cc ∧ xq.b = .slice ba bn bc) := ⟨rfl, hk, hm, hc, hbb⟩
  have HN : Hid (kn ≤ maxLen ∧ mn ≤ maxLen ∧ cn ≤ maxLen ∧ bn ≤ maxLen) := ⟨nk, nm, nc, nb⟩
  have Q5 : Hid (Below V2.heap.size V2 U5 ∧ QW U5 V2.heap.size U4.heap.size xq ka kn ma mn ca cn ba bn) := ⟨below_over b4 b5, QQ⟩
  clear hk hm hc hbb nk nm nc nb QQ h4 b4 m5 b5 l2 l3 A7
  have imn : (mn : Int) ≤ 9223372036854775807 := by have := HN.out.2.1; unfold maxLen at this; omega
  have icn : (cn : Int) ≤ 9223372036854775807 := by have := HN.out.2.2.1; unfold maxLen at this; omega
  have ikn : (kn : Int) ≤ 9223372036854775807 := by have := HN.out.1; unfold maxLen at this; omega
  have ibn : (bn : Int) ≤ 9223372036854775807 := by have := HN.out.2.2.2; unfold maxLen at this; omega
  by_cases he : e = 0
  · subst he
    go_wp2_with fail
    obtain ⟨gq, hgq⟩ : ∃ zz, U4.heap.size = zz := ⟨_, rfl⟩
    rw [hgq] at Q5
    rw [hgq]
    clear hgq
    go_loopw [13] (fun v wx => ∃ i : Nat, i ≤ mn ∧ v = .int .i64 i ∧ Below V2.heap.size V2 wx ∧ QW wx V2.heap.size gq xq ka kn ma mn ca cn ba bn) (fun v _ => mn - (intOf v).toNat)
    case atStart => exact ⟨0, by omega, rfl, Q5.out.1, Q5.out.2⟩
    case round =>
      obtain ⟨i, hi, rfl, hB, hQ⟩ := hrel
      have J : Hid (Below V2.heap.size V2 wr ∧ QW wr V2.heap.size gq xq ka kn ma mn ca cn ba bn) := ⟨hB, hQ⟩
      have hi0 : (0 : Int) ≤ (i : Int) := by omega
      have c1 := J.out.2.var.m
      rw [HQ.out.2.2.1] at c1
      clear hB hQ
      by_cases hit : i < mn
      · have hi1 : (i : Int) < (mn : Int) := by omega
        obtain ⟨g, o, W', cur, hga, hst, so⟩ := J.out.2.m.st (j := 1) (tv := 3) (v := .int .i64 (-1)) hit (by decide) rfl infoI
        have s0 := hst (o + i * 3 + 1) (by omega)
        have G2 : Hid (Below V2.heap.size V2 W' ∧ QW W' V2.heap.size gq xq ka kn ma mn ca cn ba bn) := ⟨so.bel J.out.1, J.out.2.ovr so (by decide) (by decide)⟩
        rw [hga] at c1
        clear hst so
        go_wp2
        go_roundw
        case rel => exact ⟨i + 1, by omega, by go_num, G2.out.1, G2.out.2⟩
        case measure => simp [intOf]; omega
      · have hi1 : ¬ (i : Int) < (mn : Int) := by omega
        clear hit
        go_wp2_with fail
        clear c1 hi1 hi0 hi
        clear Q5
        have Q5 := J
        clear J
        go_loopw [14] (fun v wx => ∃ i : Nat, i ≤ cn ∧ v = .int .i64 i ∧ Below V2.heap.size V2 wx ∧ QW wx V2.heap.size gq xq ka kn ma mn ca cn ba bn) (fun v _ => cn - (intOf v).toNat)
        case atStart => exact ⟨0, by omega, rfl, Q5.out.1, Q5.out.2⟩
        case round =>
          obtain ⟨i, hi, rfl, hB, hQ⟩ := hrel
          have J : Hid (Below V2.heap.size V2 wr ∧ QW wr V2.heap.size gq xq ka kn ma mn ca cn ba bn) := ⟨hB, hQ⟩
          have hi0 : (0 : Int) ≤ (i : Int) := by omega
          have c1 := J.out.2.var.c
          rw [HQ.out.2.2.2.1] at c1
          clear hB hQ
          by_cases hit : i < cn
          · have hi1 : (i : Int) < (cn : Int) := by omega
            obtain ⟨g, o, W', cur, hga, hst, so⟩ := J.out.2.c.st (j := 1) (tv := 3) (v := .int .i64 (-1)) hit (by decide) rfl infoI
            have s0 := hst (o + i * 2 + 1) (by omega)
            have G2 : Hid (Below V2.heap.size V2 W' ∧ QW W' V2.heap.size gq xq ka kn ma mn ca cn ba bn) := ⟨so.bel J.out.1, J.out.2.ovr so (by decide) (by decide)⟩
            rw [hga] at c1
            clear hst so
            go_wp2
            go_roundw
            case rel => exact ⟨i + 1, by omega, by go_num, G2.out.1, G2.out.2⟩
            case measure => simp [intOf]; omega
          · have hi1 : ¬ (i : Int) < (cn : Int) := by omega
            clear hit
            go_wp2_with fail
            clear c1 hi1 hi0 hi
            clear Q5
            have Q5 := J
            clear J
            go_loopw [15] (fun v wx => ∃ i : Nat, i ≤ bn ∧ v = .int .i64 i ∧ Below V2.heap.size V2 wx ∧ QW wx V2.heap.size gq xq ka kn ma mn ca cn ba bn) (fun v _ => bn - (intOf v).toNat)
            case atStart => exact ⟨0, by omega, rfl, Q5.out.1, Q5.out.2⟩
            case round =>
              obtain ⟨i, hi, rfl, hB, hQ⟩ := hrel
              have J : Hid (Below V2.heap.size V2 wr ∧ QW wr V2.heap.size gq xq ka kn ma mn ca cn ba bn) := ⟨hB, hQ⟩
              have hi0 : (0 : Int) ≤ (i : Int) := by omega
              have c1 := J.out.2.var.b
              rw [HQ.out.2.2.2.2] at c1
              clear hB hQ
              by_cases hit : i < bn
              · have hi1 : (i : Int) < (bn : Int) := by omega
                obtain ⟨g, o, pa, pn, pc, hga, hcell, hpn, hblk, curB, hrv, hcur⟩ := J.out.2.b.at' hit
                have ipn : (pn : Int) ≤ 9223372036854775807 := by unfold maxLen at hpn; omega
                have PP : Hid (Blk wr V2.heap.size 3 1 pa pn ∧ RvAt wr g 38 curB ∧ curB[o + i * 2 + 1]? = some (.slice pa pn pc) ∧ ba = some ⟨g, o, none⟩) := ⟨hblk, hrv, hcur, hga⟩
                clear hcell hpn hblk hrv hcur hga
                rw [PP.out.2.2.2] at c1
                go_wp2_with fail
                clear c1
                go_loopw [16] (fun v wx => ∃ k : Nat, k ≤ pn ∧ v = .int .i64 k ∧ Below V2.heap.size V2 wx ∧ QW wx V2.heap.size gq xq ka kn ma mn ca cn ba bn ∧ Blk wx V2.heap.size 3 1 pa pn ∧ RvAt wx g 38 curB) (fun v _ => pn - (intOf v).toNat)
                case atStart => exact ⟨0, by omega, rfl, J.out.1, J.out.2, PP.out.1, PP.out.2.1⟩
                case round =>
                  obtain ⟨k, hk, rfl, hB, hQ, hP, hR⟩ := hrel
                  have JJ : Hid (Below V2.heap.size V2 wr ∧ QW wr V2.heap.size gq xq ka kn ma mn ca cn ba bn ∧ Blk wr V2.heap.size 3 1 pa pn ∧ RvAt wr g 38 curB) := ⟨hB, hQ, hP, hR⟩
                  have hk0 : (0 : Int) ≤ (k : Int) := by omega
                  have c1 := JJ.out.2.1.var.b
                  rw [HQ.out.2.2.2.2, PP.out.2.2.2] at c1
                  have c2 : wr.cell? ⟨g, o + i * 2 + 1, none⟩ = some (.slice pa pn pc) := by rw [JJ.out.2.2.2.get]; exact PP.out.2.2.1
                  clear hB hQ hP hR
                  by_cases hkt : k < pn
                  · have hk1 : (k : Int) < (pn : Int) := by omega
                    obtain ⟨g', o', W', cur, hpa, hst, so⟩ := JJ.out.2.2.1.st (j := 0) (tv := 3) (v := .int .i64 (-1)) hkt (by decide) rfl infoI
                    have s0 := hst (o' + k) (by omega)
                    have G2 : Hid (Below V2.heap.size V2 W' ∧ QW W' V2.heap.size gq xq ka kn ma mn ca cn ba bn ∧ Blk W' V2.heap.size 3 1 pa pn ∧ RvAt W' g 38 curB) := by
                      refine ⟨so.bel JJ.out.1, JJ.out.2.1.ovr so (by decide) (by decide), JJ.out.2.2.1.ovr so, ?_⟩
                      refine RvAt.keptBut JJ.out.2.2.2 so.gb (by simp; intro e; subst e; exact absurd (RvAt.uni JJ.out.2.2.2 so.was).1 (by decide))
                    rw [hpa] at c2
                    clear hst so
                    go_wp2
                    go_roundw
                    case rel => exact ⟨k + 1, by omega, by go_num, G2.out.1, G2.out.2.1, G2.out.2.2.1, G2.out.2.2.2⟩
                    case measure => simp [intOf]; omega
                  · have hk1 : ¬ (k : Int) < (pn : Int) := by omega
                    obtain ⟨g', o', W', cur, cur', hba, hst, so, hrow⟩ := JJ.out.2.1.b.st (z := -1) hit
                    have e1 := PP.out.2.2.2.symm.trans hba
                    simp only [Option.some.injEq, Addr.mk.injEq] at e1
                    obtain ⟨rfl, rfl, _⟩ := e1
                    have s0 := hst (o + i * 2) rfl
                    have G2 : Hid (Below V2.heap.size V2 W' ∧ QW W' V2.heap.size gq xq ka kn ma mn ca cn ba bn) := ⟨so.bel JJ.out.1, JJ.out.2.1.ovrB so hrow⟩
                    clear hst so hrow hkt hba
                    go_wp2
                    go_roundw
                    case rel => exact ⟨i + 1, by omega, by go_num, G2.out.1, G2.out.2⟩
                    case measure => simp [intOf]; omega
              · have hi1 : ¬ (i : Int) < (bn : Int) := by omega
                clear hit
                go_wp2_with fail
                clear c1 hi1 hi0 hi
                clear Q5
                have Q5 := J
                clear J
                go_loopw [17] (fun v wx => ∃ i : Nat, i ≤ kn ∧ v = .int .i64 i ∧ Below V2.heap.size V2 wx ∧ QW wx V2.heap.size gq xq ka kn ma mn ca cn ba bn) (fun v _ => kn - (intOf v).toNat)
                case atStart => exact ⟨0, by omega, rfl, Q5.out.1, Q5.out.2⟩
                case round =>
                  obtain ⟨i, hi, rfl, hB, hQ⟩ := hrel
                  have J : Hid (Below V2.heap.size V2 wr ∧ QW wr V2.heap.size gq xq ka kn ma mn ca cn ba bn) := ⟨hB, hQ⟩
                  have hi0 : (0 : Int) ≤ (i : Int) := by omega
                  have c1 := J.out.2.var.k
                  rw [HQ.out.2.1] at c1
                  clear hB hQ
                  by_cases hit : i < kn
                  · have hi1 : (i : Int) < (kn : Int) := by omega
                    obtain ⟨g, o, W', cur, hga, hst, so⟩ := J.out.2.k.st (j := 0) (tv := 31) (v := .int .i64 0) hit (by decide) rfl infoKd
                    have s0 := hst (o + i) (by omega)
                    have G2 : Hid (Below V2.heap.size V2 W' ∧ QW W' V2.heap.size gq xq ka kn ma mn ca cn ba bn) := ⟨so.bel J.out.1, J.out.2.ovr so (by decide) (by decide)⟩
                    rw [hga] at c1
                    clear hst so
                    go_wp2
                    go_roundw
                    case rel => exact ⟨i + 1, by omega, by go_num, G2.out.1, G2.out.2⟩
                    case measure => simp [intOf]; omega
                  · have hi1 : ¬ (i : Int) < (kn : Int) := by omega
                    clear hit
                    go_wp2_with fail
                    clear c1 hi1 hi0 hi
                    clear Q5
                    have Q5 := J
                    clear J
                    have Z5 : Hid (Below V2.heap.size V2 wr) := Q5.out.1
                    obtain ⟨ra, rn, rc, rv, rs⟩ : ∃ ra rn rc, x.b = .slice ra rn rc ∧ ∃ r, SlAt eB V2 ra rn rc r ∧ Mem V2 r P.bs := by
                      obtain ⟨r, ⟨ra, rn, rc, hv, hs⟩, hm⟩ := A8.out.1.pv.b
                      exact ⟨ra, rn, rc, hv, r, hs, hm⟩
                    obtain ⟨r, rs, rm⟩ := rs
                    have irn := rs.int
                    have R : Hid (x.b = .slice ra rn rc ∧ SlAt eB V2 ra rn rc r ∧ r.length = rn) := ⟨rv, rs, rs.len⟩
                    clear rv rs rm
                    go_loopw [18] (fun v wx => ∃ i : Nat, i ≤ rn ∧ v = .int .i64 i ∧ Below V2.heap.size V2 wx) (fun v _ => rn - (intOf v).toNat)
                    case atStart => exact ⟨0, by omega, rfl, Z5.out⟩
                    case round =>
                      obtain ⟨i, hi, rfl, hB⟩ := hrel
                      have J : Hid (PvS w wr gp x P ∧ Below V2.heap.size V2 wr) := ⟨A8.out.1.below hB, hB⟩
                      have hi0 : (0 : Int) ≤ (i : Int) := by omega
                      have c1 := J.out.1.var.b
                      rw [R.out.1] at c1
                      clear hB
                      by_cases hit : i < rn
                      · have hi1 : (i : Int) < (rn : Int) := by omega
                        obtain ⟨b, o, rfl⟩ := R.out.2.1.some' (by omega)
                        obtain ⟨u, hu⟩ := lt_nth (l := r) (i := i) (by rw [R.out.2.2]; exact hit)
                        have X : Hid (r[i]? = some u) := hu
                        clear hu
                        go_wp2_with fail
                        clear c1
                        obtain ⟨Y0, hY0⟩ : ∃ X0, World.drew wr = X0 := ⟨_, rfl⟩
                        have B0 : Hid (Below wr.heap.size wr Y0) := by rw [← hY0]; exact (Below.refl _ _).drew
                        have f0 := fun k : Later wr => (J.out.1.below k.below).ld
                        have f1 := fun k : Later wr => (J.out.1.below k.below).var.b
                        rw [R.out.1] at f1
                        have f2 := fun k : Later wr => lB0 ((R.out.2.1.below J.out.2).below k.below) X.out
                        refine wp_region_noPanic ?_
                        refine wp_region_held_drew (S := fun w' => ∃ x : Later wr, w' = x.val) (by kernel_rfl) ⟨⟨_, (Below.refl _ _).drew⟩, rfl⟩ (fun hHeld => ?_)
                        rw [hY0] at hHeld ⊢
                        clear hY0
                        refine wpAnyH_take (i := 0) (oi := { dst := some 123, op := Op.load 29 (Operand.tmp 9), type := 29, pos := "law.go:234", after := #[], guard := none }) (v := ?_) rfl (by kernel_rfl) (by kernel_rfl) (by kernel_rfl) (fun _ _ _ h => h) (Or.inl ⟨by rfl, ?_⟩) hHeld ?_
                        rotate_left
                        · intro W_ hSw_
                          obtain ⟨q, rfl⟩ := hSw_
                          first | (go_simp; done) | (go_simp; with_reducible rfl)
                        rotate_left
                        try simp only [Act.put, List.setIfInBounds_toArray, List.set_cons_zero, List.set_cons_succ]
                        refine wpAnyH_take (i := 1) (oi := { dst := some 124, op := Op.fieldAddr 29 (Operand.tmp 9) 4, type := 0, pos := "law.go:234", after := #[], guard := none }) (v := ?_) rfl (by kernel_rfl) (by kernel_rfl) (by kernel_rfl) (fun _ _ _ h => h) (Or.inl ⟨by rfl, ?_⟩) hHeld ?_
                        rotate_left
                        · intro W_ hSw_
                          obtain ⟨q, rfl⟩ := hSw_
                          first | (go_simp; done) | (go_simp; with_reducible rfl)
                        rotate_left
                        try simp only [Act.put, List.setIfInBounds_toArray, List.set_cons_zero, List.set_cons_succ]
                        refine wpAnyH_take (i := 2) (oi := { dst := some 125, op := Op.load 27 (Operand.tmp 124), type := 27, pos := "law.go:234", after := #[{ on := 1, ground := Ground.data }], guard := none }) (v := ?_) rfl (by kernel_rfl) (by kernel_rfl) (by kernel_rfl) (fun _ _ _ h => h) (Or.inl ⟨by rfl, ?_⟩) hHeld ?_
                        rotate_left
                        · intro W_ hSw_
                          obtain ⟨q, rfl⟩ := hSw_
                          first | (go_simp; done) | (go_simp; with_reducible rfl)
                        rotate_left
                        try simp only [Act.put, List.setIfInBounds_toArray, List.set_cons_zero, List.set_cons_succ]
                        refine wpAnyH_take (i := 3) (oi := { dst := some 126, op := Op.move (Operand.tmp 18), type := 3, pos := "law.go:234", after := #[], guard := none }) (v := ?_) rfl (by kernel_rfl) (by kernel_rfl) (by kernel_rfl) (fun _ _ _ h => h) (Or.inl ⟨by rfl, ?_⟩) hHeld ?_
                        rotate_left
                        · intro W_ hSw_
                          obtain ⟨q, rfl⟩ := hSw_
                          first | (go_simp; done) | (go_simp; with_reducible rfl)
                        rotate_left
                        try simp only [Act.put, List.setIfInBounds_toArray, List.set_cons_zero, List.set_cons_succ]
                        refine wpAnyH_take (i := 4) (oi := { dst := some 127, op := Op.indexAddr 27 (Operand.tmp 125) (Operand.tmp 126), type := 0, pos := "law.go:234", after := #[{ on := 2, ground := Ground.data }, { on := 3, ground := Ground.data }], guard := none }) (v := ?_) rfl (by kernel_rfl) (by kernel_rfl) (by kernel_rfl) (fun _ _ _ h => h) (Or.inl ⟨by rfl, ?_⟩) hHeld ?_
                        rotate_left
                        · intro W_ hSw_
                          obtain ⟨q, rfl⟩ := hSw_
                          first | (go_simp; done) | (go_simp; with_reducible rfl)
                        rotate_left
                        try simp only [Act.put, List.setIfInBounds_toArray, List.set_cons_zero, List.set_cons_succ]
                        refine wpAnyH_take (i := 5) (oi := { dst := some 128, op := Op.fieldAddr 38 (Operand.tmp 127) 0, type := 0, pos := "law.go:234", after := #[{ on := 4, ground := Ground.data }], guard := none }) (v := ?_) rfl (by kernel_rfl) (by kernel_rfl) (by kernel_rfl) (fun _ _ _ h => h) (Or.inl ⟨by rfl, ?_⟩) hHeld ?_
                        rotate_left
                        · intro W_ hSw_
                          obtain ⟨q, rfl⟩ := hSw_
                          first | (go_simp; done) | (go_simp; with_reducible rfl)
                        rotate_left
                        try simp only [Act.put, List.setIfInBounds_toArray, List.set_cons_zero, List.set_cons_succ]
                        refine wpAnyH_take (i := 6) (oi := { dst := some 129, op := Op.load 3 (Operand.tmp 128), type := 3, pos := "law.go:234", after := #[{ on := 5, ground := Ground.data }], guard := none }) (v := ?_) rfl (by kernel_rfl) (by kernel_rfl) (by kernel_rfl) (fun _ _ _ h => h) (Or.inl ⟨by rfl, ?_⟩) hHeld ?_
                        rotate_left
                        · intro W_ hSw_
                          obtain ⟨q, rfl⟩ := hSw_
                          first | (go_simp; done) | (go_simp; with_reducible rfl)
                        rotate_left
                        try simp only [Act.put, List.setIfInBounds_toArray, List.set_cons_zero, List.set_cons_succ]
                        refine wpAnyH_ready (rs := [7]) (by kernel_rfl) (by simp) ?_
                        refine AllReadyH.cons (o := { dst := some 130, op := Op.call { callee := Callee.value (Operand.func 10), args := #[Operand.tmp 123, Operand.tmp 129], argTypes := #[29, 3] }, type := 54, pos := "law.go:234", after := #[{ on := 0, ground := Ground.data }, { on := 6, ground := Ground.data }], guard := none }) rfl (fun K hK => ?_) AllReadyH.nil
                        go_simp
                        refine (pts_any x P u.v Y0 (J.out.1.pv.below B0.out) E0.out.2.1.2.2.2.2).mono ?_
                        rintro _ Y1 ⟨pv, rfl, po, hb'⟩
                        obtain ⟨xa, xc, rfl, xb⟩ := Blk.of po
                        obtain ⟨T, hT⟩ : ∃ zz, (pts P u.v).isSome = zz := ⟨_, rfl⟩
                        rw [hT]
                        obtain ⟨xn, hxn⟩ : ∃ zz, ((pts P u.v).getD []).length = zz := ⟨_, rfl⟩
                        have ixn : (xn : Int) ≤ 9223372036854775807 := by
                          obtain ⟨_, _, _, hs, _⟩ := po.form
                          have := hs.int
                          rw [← hxn]
                          exact this
                        rw [hxn] at xb
                        rw [hxn]
                        have G1 : Hid (Below V2.heap.size V2 Y1 ∧ Blk Y1 V2.heap.size 3 1 xa xn) := by
                          refine ⟨below_over (below_over J.out.2 B0.out) hb', ?_⟩
                          rcases xb with xb | ⟨g, o, cur, h1, h2, h3, h4⟩
                          · exact Or.inl xb
                          · exact Or.inr ⟨g, o, cur, h1, Nat.le_trans (below_over J.out.2 B0.out).size h2, h3, h4⟩
                        have bY : Below wr.heap.size wr Y1 := below_over B0.out hb'
                        clear hb' po hT hxn xb
                        clear hHeld
                        refine hK.out _ _ ⟨⟨_, bY⟩, rfl⟩ (fun hHeld => ?_)
                        clear hK K
                        try simp only [Act.put, List.setIfInBounds_toArray, List.set_cons_zero, List.set_cons_succ]
                        refine wpAnyH_take (i := 8) (oi := { dst := some 122, op := Op.move (Operand.tmp 130), type := 54, pos := "law.go:234", after := #[{ on := 7, ground := Ground.data }], guard := none }) (v := ?_) rfl (by kernel_rfl) (by kernel_rfl) (by kernel_rfl) (fun _ _ _ h => h) (Or.inl ⟨by rfl, ?_⟩) hHeld ?_
                        rotate_left
                        · intro W_ hSw_
                          obtain ⟨q, rfl⟩ := hSw_
                          first | (go_simp; done) | (go_simp; with_reducible rfl)
                        rotate_left
                        try simp only [Act.put, List.setIfInBounds_toArray, List.set_cons_zero, List.set_cons_succ]
                        refine wpAnyH_take (i := 9) (oi := { dst := some 131, op := Op.extract (Operand.tmp 122) 0, type := 36, pos := "law.go:234", after := #[{ on := 8, ground := Ground.data }], guard := none }) (v := ?_) rfl (by kernel_rfl) (by kernel_rfl) (by kernel_rfl) (fun _ _ _ h => h) (Or.inl ⟨by rfl, ?_⟩) hHeld ?_
                        rotate_left
                        · intro W_ hSw_
                          obtain ⟨q, rfl⟩ := hSw_
                          first | (go_simp; done) | (go_simp; with_reducible rfl)
                        rotate_left
                        try simp only [Act.put, List.setIfInBounds_toArray, List.set_cons_zero, List.set_cons_succ]
                        refine wpAnyH_take (i := 10) (oi := { dst := some 132, op := Op.extract (Operand.tmp 122) 1, type := 4, pos := "law.go:234", after := #[{ on := 8, ground := Ground.data }, { on := 11, ground := Ground.gcOnly Departure.lateStores }], guard := none }) (v := ?_) rfl (by kernel_rfl) (by kernel_rfl) (by kernel_rfl) (fun _ _ _ h => h) (Or.inl ⟨by rfl, ?_⟩) hHeld ?_
                        rotate_left
                        · intro W_ hSw_
                          obtain ⟨q, rfl⟩ := hSw_
                          first | (go_simp; done) | (go_simp; with_reducible rfl)
                        rotate_left
                        try simp only [Act.put, List.setIfInBounds_toArray, List.set_cons_zero, List.set_cons_succ]
                        refine wpAnyH_take (i := 11) (oi := { dst := some 19, op := Op.assign (Operand.tmp 131), type := 36, pos := "law.go:234", after := #[{ on := 9, ground := Ground.data }, { on := 7, ground := Ground.chain }, { on := 0, ground := Ground.phase }, { on := 1, ground := Ground.phase }, { on := 2, ground := Ground.phase }, { on := 3, ground := Ground.phase }, { on := 4, ground := Ground.phase }, { on := 5, ground := Ground.phase }, { on := 6, ground := Ground.phase }, { on := 7, ground := Ground.phase }, { on := 8, ground := Ground.phase }, { on := 9, ground := Ground.phase }, { on := 10, ground := Ground.textOnly Departure.lateStores }], guard := none }) (v := ?_) rfl (by kernel_rfl) (by kernel_rfl) (by kernel_rfl) (fun _ _ _ h => h) (Or.inl ⟨by rfl, ?_⟩) hHeld ?_
                        rotate_left
                        · intro W_ hSw_
                          obtain ⟨q, rfl⟩ := hSw_
                          first | (go_simp; done) | (go_simp; with_reducible rfl)
                        rotate_left
                        try simp only [Act.put, List.setIfInBounds_toArray, List.set_cons_zero, List.set_cons_succ]
                        refine wpAnyH_take (i := 12) (oi := { dst := some 20, op := Op.assign (Operand.tmp 132), type := 4, pos := "law.go:234", after := #[{ on := 10, ground := Ground.data }, { on := 11, ground := Ground.chain }, { on := 0, ground := Ground.phase }, { on := 1, ground := Ground.phase }, { on := 2, ground := Ground.phase }, { on := 3, ground := Ground.phase }, { on := 4, ground := Ground.phase }, { on := 5, ground := Ground.phase }, { on := 6, ground := Ground.phase }, { on := 7, ground := Ground.phase }, { on := 8, ground := Ground.phase }, { on := 9, ground := Ground.phase }, { on := 10, ground := Ground.phase }, { on := 11, ground := Ground.phase }], guard := none }) (v := ?_) rfl (by kernel_rfl) (by kernel_rfl) (by kernel_rfl) (fun _ _ _ h => h) (Or.inl ⟨by rfl, ?_⟩) hHeld ?_
                        rotate_left
                        · intro W_ hSw_
                          obtain ⟨q, rfl⟩ := hSw_
                          first | (go_simp; done) | (go_simp; with_reducible rfl)
                        rotate_left
                        try simp only [Act.put, List.setIfInBounds_toArray, List.set_cons_zero, List.set_cons_succ]
                        refine wpAnyH_done (by kernel_rfl) ?_ _
                        refine NoPanic.normal ?_
                        clear hHeld
                        clear f0 f1 f2 B0 bY
                        go_wp2_with fail
                        go_loopw [21] (fun v wx => ∃ k : Nat, k ≤ xn ∧ v = .int .i64 k ∧ Below V2.heap.size V2 wx ∧ Blk wx V2.heap.size 3 1 xa xn) (fun v _ => xn - (intOf v).toNat)
                        case atStart => exact ⟨0, by omega, rfl, G1.out.1, G1.out.2⟩
                        case round =>
                          obtain ⟨k, hk, rfl, hB, hQ⟩ := hrel
                          have hk0 : (0 : Int) ≤ (k : Int) := by omega
                          by_cases hkt : k < xn
                          · have hk1 : (k : Int) < (xn : Int) := by omega
                            obtain ⟨g, o', W', cur, rfl, hst, so⟩ := hQ.st (j := 0) (tv := 3) (v := .int .i64 (-1)) hkt (by decide) rfl infoI
                            have s0 := hst (o' + k) (by omega)
                            have G2 : Hid (Below V2.heap.size V2 W' ∧ Blk W' V2.heap.size 3 1 (some ⟨g, o', none⟩) xn) := ⟨so.bel hB, hQ.ovr so⟩
                            clear hB hQ hst so
                            go_wp2
                            go_roundw
                            case rel => exact ⟨k + 1, by omega, by go_num, G2.out.1, G2.out.2⟩
                            case measure => simp [intOf]; omega
                          · have hk1 : ¬ (k : Int) < (xn : Int) := by omega
                            have G2 : Hid (Below V2.heap.size V2 wr) := hB
                            clear hB hQ hkt
                            go_wp2
                            go_roundw
                            case rel => exact ⟨i + 1, by omega, by go_num, G2.out⟩
                            case measure => simp [intOf]; omega
                      · have hi1 : ¬ (i : Int) < (rn : Int) := by omega
                        have K1 : Hid (PvS w wr gp x P ∧ PvS w wr gk xk P) := ⟨J.out.1, A8.out.2.below J.out.2⟩
                        have l1 := K1.out.1.ld
                        have l2 := K1.out.2.ld
                        clear hit
                        go_wp2_with fail
                        clear c1
                        refine (rsame_yes x xk P wr K1.out.1.pv K1.out.2.pv).mono ?_
                        rintro _ V5 ⟨rfl, b5⟩
                        have M5 : Hid (Below w.heap.size w V5) := below_over K1.out.1.bel b5
                        clear b5 l1 l2
                        go_wp2_with fail
                        refine (awake_any V5).mono ?_
                        rintro _ V6 ⟨rfl, b6⟩
                        have M6 : Hid (Below w.heap.size w V6) := below_over M5.out b6
                        clear b6
                        go_wp2
                        go_ret
                        exact ⟨rfl, M6.out⟩
  · have e0 : (e == 0) = false := by simp [he]
    clear he
    go_wp2_with fail
    have Z5 : Hid (Below V2.heap.size V2 U5) := Q5.out.1
    obtain ⟨ra, rn, rc, rv, rs⟩ : ∃ ra rn rc, x.b = .slice ra rn rc ∧ ∃ r, SlAt eB V2 ra rn rc r ∧ Mem V2 r P.bs := by
      obtain ⟨r, ⟨ra, rn, rc, hv, hs⟩, hm⟩ := A8.out.1.pv.b
      exact ⟨ra, rn, rc, hv, r, hs, hm⟩
    obtain ⟨r, rs, rm⟩ := rs
    have irn := rs.int
    have R : Hid (x.b = .slice ra rn rc ∧ SlAt eB V2 ra rn rc r ∧ r.length = rn) := ⟨rv, rs, rs.len⟩
    clear rv rs rm
    go_loopw [18] (fun v wx => ∃ i : Nat, i ≤ rn ∧ v = .int .i64 i ∧ Below V2.heap.size V2 wx) (fun v _ => rn - (intOf v).toNat)
    case atStart => exact ⟨0, by omega, rfl, Z5.out⟩
    case round =>
      obtain ⟨i, hi, rfl, hB⟩ := hrel
      have J : Hid (PvS w wr gp x P ∧ Below V2.heap.size V2 wr) := ⟨A8.out.1.below hB, hB⟩
      have hi0 : (0 : Int) ≤ (i : Int) := by omega
      have c1 := J.out.1.var.b
      rw [R.out.1] at c1
      clear hB
      by_cases hit : i < rn
      · have hi1 : (i : Int) < (rn : Int) := by omega
        obtain ⟨b, o, rfl⟩ := R.out.2.1.some' (by omega)
        obtain ⟨u, hu⟩ := lt_nth (l := r) (i := i) (by rw [R.out.2.2]; exact hit)
        have X : Hid (r[i]? = some u) := hu
        clear hu
        go_wp2_with fail
        clear c1
        obtain ⟨Y0, hY0⟩ : ∃ X0, World.drew wr = X0 := ⟨_, rfl⟩
        have B0 : Hid (Below wr.heap.size wr Y0) := by rw [← hY0]; exact (Below.refl _ _).drew
        have f0 := fun k : Later wr => (J.out.1.below k.below).ld
        have f1 := fun k : Later wr => (J.out.1.below k.below).var.b
        rw [R.out.1] at f1
        have f2 := fun k : Later wr => lB0 ((R.out.2.1.below J.out.2).below k.below) X.out
        refine wp_region_noPanic ?_
        refine wp_region_held_drew (S := fun w' => ∃ x : Later wr, w' = x.val) (by kernel_rfl) ⟨⟨_, (Below.refl _ _).drew⟩, rfl⟩ (fun hHeld => ?_)
        rw [hY0] at hHeld ⊢
        clear hY0
        refine wpAnyH_take (i := 0) (oi := { dst := some 123, op := Op.load 29 (Operand.tmp 9), type := 29, pos := "law.go:234", after := #[], guard := none }) (v := ?_) rfl (by kernel_rfl) (by kernel_rfl) (by kernel_rfl) (fun _ _ _ h => h) (Or.inl ⟨by rfl, ?_⟩) hHeld ?_
        rotate_left
        · intro W_ hSw_
          obtain ⟨q, rfl⟩ := hSw_
          first | (go_simp; done) | (go_simp; with_reducible rfl)
        rotate_left
        try simp only [Act.put, List.setIfInBounds_toArray, List.set_cons_zero, List.set_cons_succ]
        refine wpAnyH_take (i := 1) (oi := { dst := some 124, op := Op.fieldAddr 29 (Operand.tmp 9) 4, type := 0, pos := "law.go:234", after := #[], guard := none }) (v := ?_) rfl (by kernel_rfl) (by kernel_rfl) (by kernel_rfl) (fun _ _ _ h => h) (Or.inl ⟨by rfl, ?_⟩) hHeld ?_
        rotate_left
        · intro W_ hSw_
          obtain ⟨q, rfl⟩ := hSw_
          first | (go_simp; done) | (go_simp; with_reducible rfl)
        rotate_left
        try simp only [Act.put, List.setIfInBounds_toArray, List.set_cons_zero, List.set_cons_succ]
        refine wpAnyH_take (i := 2) (oi := { dst := some 125, op := Op.load 27 (Operand.tmp 124), type := 27, pos := "law.go:234", after := #[{ on := 1, ground := Ground.data }], guard := none }) (v := ?_) rfl (by kernel_rfl) (by kernel_rfl) (by kernel_rfl) (fun _ _ _ h => h) (Or.inl ⟨by rfl, ?_⟩) hHeld ?_
        rotate_left
        · intro W_ hSw_
          obtain ⟨q, rfl⟩ := hSw_
          first | (go_simp; done) | (go_simp; with_reducible rfl)
        rotate_left
        try simp only [Act.put, List.setIfInBounds_toArray, List.set_cons_zero, List.set_cons_succ]
        refine wpAnyH_take (i := 3) (oi := { dst := some 126, op := Op.move (Operand.tmp 18), type := 3, pos := "law.go:234", after := #[], guard := none }) (v := ?_) rfl (by kernel_rfl) (by kernel_rfl) (by kernel_rfl) (fun _ _ _ h => h) (Or.inl ⟨by rfl, ?_⟩) hHeld ?_
        rotate_left
        · intro W_ hSw_
          obtain ⟨q, rfl⟩ := hSw_
          first | (go_simp; done) | (go_simp; with_reducible rfl)
        rotate_left
        try simp only [Act.put, List.setIfInBounds_toArray, List.set_cons_zero, List.set_cons_succ]
        refine wpAnyH_take (i := 4) (oi := { dst := some 127, op := Op.indexAddr 27 (Operand.tmp 125) (Operand.tmp 126), type := 0, pos := "law.go:234", after := #[{ on := 2, ground := Ground.data }, { on := 3, ground := Ground.data }], guard := none }) (v := ?_) rfl (by kernel_rfl) (by kernel_rfl) (by kernel_rfl) (fun _ _ _ h => h) (Or.inl ⟨by rfl, ?_⟩) hHeld ?_
        rotate_left
        · intro W_ hSw_
          obtain ⟨q, rfl⟩ := hSw_
          first | (go_simp; done) | (go_simp; with_reducible rfl)
        rotate_left
        try simp only [Act.put, List.setIfInBounds_toArray, List.set_cons_zero, List.set_cons_succ]
        refine wpAnyH_take (i := 5) (oi := { dst := some 128, op := Op.fieldAddr 38 (Operand.tmp 127) 0, type := 0, pos := "law.go:234", after := #[{ on := 4, ground := Ground.data }], guard := none }) (v := ?_) rfl (by kernel_rfl) (by kernel_rfl) (by kernel_rfl) (fun _ _ _ h => h) (Or.inl ⟨by rfl, ?_⟩) hHeld ?_
        rotate_left
        · intro W_ hSw_
          obtain ⟨q, rfl⟩ := hSw_
          first | (go_simp; done) | (go_simp; with_reducible rfl)
        rotate_left
        try simp only [Act.put, List.setIfInBounds_toArray, List.set_cons_zero, List.set_cons_succ]
        refine wpAnyH_take (i := 6) (oi := { dst := some 129, op := Op.load 3 (Operand.tmp 128), type := 3, pos := "law.go:234", after := #[{ on := 5, ground := Ground.data }], guard := none }) (v := ?_) rfl (by kernel_rfl) (by kernel_rfl) (by kernel_rfl) (fun _ _ _ h => h) (Or.inl ⟨by rfl, ?_⟩) hHeld ?_
        rotate_left
        · intro W_ hSw_
          obtain ⟨q, rfl⟩ := hSw_
          first | (go_simp; done) | (go_simp; with_reducible rfl)
        rotate_left
        try simp only [Act.put, List.setIfInBounds_toArray, List.set_cons_zero, List.set_cons_succ]
        refine wpAnyH_ready (rs := [7]) (by kernel_rfl) (by simp) ?_
        refine AllReadyH.cons (o := { dst := some 130, op := Op.call { callee := Callee.value (Operand.func 10), args := #[Operand.tmp 123, Operand.tmp 129], argTypes := #[29, 3] }, type := 54, pos := "law.go:234", after := #[{ on := 0, ground := Ground.data }, { on := 6, ground := Ground.data }], guard := none }) rfl (fun K hK => ?_) AllReadyH.nil
        go_simp
        refine (pts_any x P u.v Y0 (J.out.1.pv.below B0.out) E0.out.2.1.2.2.2.2).mono ?_
        rintro _ Y1 ⟨pv, rfl, po, hb'⟩
        obtain ⟨xa, xc, rfl, xb⟩ := Blk.of po
        obtain ⟨T, hT⟩ : ∃ zz, (pts P u.v).isSome = zz := ⟨_, rfl⟩
        rw [hT]
        obtain ⟨xn, hxn⟩ : ∃ zz, ((pts P u.v).getD []).length = zz := ⟨_, rfl⟩
        have ixn : (xn : Int) ≤ 9223372036854775807 := by
          obtain ⟨_, _, _, hs, _⟩ := po.form
          have := hs.int
          rw [← hxn]
          exact this
        rw [hxn] at xb
        rw [hxn]
        have G1 : Hid (Below V2.heap.size V2 Y1 ∧ Blk Y1 V2.heap.size 3 1 xa xn) := by
          refine ⟨below_over (below_over J.out.2 B0.out) hb', ?_⟩
          rcases xb with xb | ⟨g, o, cur, h1, h2, h3, h4⟩
          · exact Or.inl xb
          · exact Or.inr ⟨g, o, cur, h1, Nat.le_trans (below_over J.out.2 B0.out).size h2, h3, h4⟩
        have bY : Below wr.heap.size wr Y1 := below_over B0.out hb'
        clear hb' po hT hxn xb
        clear hHeld
        refine hK.out _ _ ⟨⟨_, bY⟩, rfl⟩ (fun hHeld => ?_)
        clear hK K
        try simp only [Act.put, List.setIfInBounds_toArray, List.set_cons_zero, List.set_cons_succ]
        refine wpAnyH_take (i := 8) (oi := { dst := some 122, op := Op.move (Operand.tmp 130), type := 54, pos := "law.go:234", after := #[{ on := 7, ground := Ground.data }], guard := none }) (v := ?_) rfl (by kernel_rfl) (by kernel_rfl) (by kernel_rfl) (fun _ _ _ h => h) (Or.inl ⟨by rfl, ?_⟩) hHeld ?_
        rotate_left
        · intro W_ hSw_
          obtain ⟨q, rfl⟩ := hSw_
          first | (go_simp; done) | (go_simp; with_reducible rfl)
        rotate_left
        try simp only [Act.put, List.setIfInBounds_toArray, List.set_cons_zero, List.set_cons_succ]
        refine wpAnyH_take (i := 9) (oi := { dst := some 131, op := Op.extract (Operand.tmp 122) 0, type := 36, pos := "law.go:234", after := #[{ on := 8, ground := Ground.data }], guard := none }) (v := ?_) rfl (by kernel_rfl) (by kernel_rfl) (by kernel_rfl) (fun _ _ _ h => h) (Or.inl ⟨by rfl, ?_⟩) hHeld ?_
        rotate_left
        · intro W_ hSw_
          obtain ⟨q, rfl⟩ := hSw_
          first | (go_simp; done) | (go_simp; with_reducible rfl)
        rotate_left
        try simp only [Act.put, List.setIfInBounds_toArray, List.set_cons_zero, List.set_cons_succ]
        refine wpAnyH_take (i := 10) (oi := { dst := some 132, op := Op.extract (Operand.tmp 122) 1, type := 4, pos := "law.go:234", after := #[{ on := 8, ground := Ground.data }, { on := 11, ground := Ground.gcOnly Departure.lateStores }], guard := none }) (v := ?_) rfl (by kernel_rfl) (by kernel_rfl) (by kernel_rfl) (fun _ _ _ h => h) (Or.inl ⟨by rfl, ?_⟩) hHeld ?_
        rotate_left
        · intro W_ hSw_
          obtain ⟨q, rfl⟩ := hSw_
          first | (go_simp; done) | (go_simp; with_reducible rfl)
        rotate_left
        try simp only [Act.put, List.setIfInBounds_toArray, List.set_cons_zero, List.set_cons_succ]
        refine wpAnyH_take (i := 11) (oi := { dst := some 19, op := Op.assign (Operand.tmp 131), type := 36, pos := "law.go:234", after := #[{ on := 9, ground := Ground.data }, { on := 7, ground := Ground.chain }, { on := 0, ground := Ground.phase }, { on := 1, ground := Ground.phase }, { on := 2, ground := Ground.phase }, { on := 3, ground := Ground.phase }, { on := 4, ground := Ground.phase }, { on := 5, ground := Ground.phase }, { on := 6, ground := Ground.phase }, { on := 7, ground := Ground.phase }, { on := 8, ground := Ground.phase }, { on := 9, ground := Ground.phase }, { on := 10, ground := Ground.textOnly Departure.lateStores }], guard := none }) (v := ?_) rfl (by kernel_rfl) (by kernel_rfl) (by kernel_rfl) (fun _ _ _ h => h) (Or.inl ⟨by rfl, ?_⟩) hHeld ?_
        rotate_left
        · intro W_ hSw_
          obtain ⟨q, rfl⟩ := hSw_
          first | (go_simp; done) | (go_simp; with_reducible rfl)
        rotate_left
        try simp only [Act.put, List.setIfInBounds_toArray, List.set_cons_zero, List.set_cons_succ]
        refine wpAnyH_take (i := 12) (oi := { dst := some 20, op := Op.assign (Operand.tmp 132), type := 4, pos := "law.go:234", after := #[{ on := 10, ground := Ground.data }, { on := 11, ground := Ground.chain }, { on := 0, ground := Ground.phase }, { on := 1, ground := Ground.phase }, { on := 2, ground := Ground.phase }, { on := 3, ground := Ground.phase }, { on := 4, ground := Ground.phase }, { on := 5, ground := Ground.phase }, { on := 6, ground := Ground.phase }, { on := 7, ground := Ground.phase }, { on := 8, ground := Ground.phase }, { on := 9, ground := Ground.phase }, { on := 10, ground := Ground.phase }, { on := 11, ground := Ground.phase }], guard := none }) (v := ?_) rfl (by kernel_rfl) (by kernel_rfl) (by kernel_rfl) (fun _ _ _ h => h) (Or.inl ⟨by rfl, ?_⟩) hHeld ?_
        rotate_left
        · intro W_ hSw_
          obtain ⟨q, rfl⟩ := hSw_
          first | (go_simp; done) | (go_simp; with_reducible rfl)
        rotate_left
        try simp only [Act.put, List.setIfInBounds_toArray, List.set_cons_zero, List.set_cons_succ]
        refine wpAnyH_done (by kernel_rfl) ?_ _
        refine NoPanic.normal ?_
        clear hHeld
        clear f0 f1 f2 B0 bY
        go_wp2_with fail
        go_loopw [21] (fun v wx => ∃ k : Nat, k ≤ xn ∧ v = .int .i64 k ∧ Below V2.heap.size V2 wx ∧ Blk wx V2.heap.size 3 1 xa xn) (fun v _ => xn - (intOf v).toNat)
        case atStart => exact ⟨0, by omega, rfl, G1.out.1, G1.out.2⟩
        case round =>
          obtain ⟨k, hk, rfl, hB, hQ⟩ := hrel
          have hk0 : (0 : Int) ≤ (k : Int) := by omega
          by_cases hkt : k < xn
          · have hk1 : (k : Int) < (xn : Int) := by omega
            obtain ⟨g, o', W', cur, rfl, hst, so⟩ := hQ.st (j := 0) (tv := 3) (v := .int .i64 (-1)) hkt (by decide) rfl infoI
            have s0 := hst (o' + k) (by omega)
            have G2 : Hid (Below V2.heap.size V2 W' ∧ Blk W' V2.heap.size 3 1 (some ⟨g, o', none⟩) xn) := ⟨so.bel hB, hQ.ovr so⟩
            clear hB hQ hst so
            go_wp2
            go_roundw
            case rel => exact ⟨k + 1, by omega, by go_num, G2.out.1, G2.out.2⟩
            case measure => simp [intOf]; omega
          · have hk1 : ¬ (k : Int) < (xn : Int) := by omega
            have G2 : Hid (Below V2.heap.size V2 wr) := hB
            clear hB hQ hkt
            go_wp2
            go_roundw
            case rel => exact ⟨i + 1, by omega, by go_num, G2.out⟩
            case measure => simp [intOf]; omega
      · have hi1 : ¬ (i : Int) < (rn : Int) := by omega
        have K1 : Hid (PvS w wr gp x P ∧ PvS w wr gk xk P) := ⟨J.out.1, A8.out.2.below J.out.2⟩
        have l1 := K1.out.1.ld
        have l2 := K1.out.2.ld
        clear hit
        go_wp2_with fail
        clear c1
        refine (rsame_yes x xk P wr K1.out.1.pv K1.out.2.pv).mono ?_
        rintro _ V5 ⟨rfl, b5⟩
        have M5 : Hid (Below w.heap.size w V5) := below_over K1.out.1.bel b5
        clear b5 l1 l2
        go_wp2_with fail
        refine (awake_any V5).mono ?_
        rintro _ V6 ⟨rfl, b6⟩
        have M6 : Hid (Below w.heap.size w V6) := below_over M5.out b6
        clear b6
        go_wp2
        go_ret
        exact ⟨rfl, M6.out⟩
end Go.Proofs.Ytmfjlhcobhilcab
