/-
  What may be provisioned, by the definition: the walk of Check, for every input.
-/
import Derived.Test.YtgjagedngdhdaaaRck
import Derived.Test.YtgjagedngdhdaaaJ06Put
namespace Go.Proofs.Ytgjagedngdhdaaa
set_option linter.unusedVariables false
set_option maxRecDepth 4000
set_option linter.unusedSimpArgs false
open Go.RowKit
attribute [local go_sem ↓] ldM stM ldC stC ldB stB ldP stP apI bsI
attribute [local go_sem] bsI_is bsI2_is

attribute [local go_sem ↓] ldO
set_option maxHeartbeats 8000000 in
theorem rchk_any (x : Pr) (p : Pv) (w : World) (h : IsPv w x p) (hz : Sz p) :
    Calls Try.prog 73 #[.agg x.cs] w fun r w' => r = .returned (.int .i64 (erC (chkR p))) ∧ Below w.heap.size w w' := by
  obtain ⟨a, n, c, hv, hs⟩ := h.k
  obtain ⟨ma, mn, mc, mv, ms⟩ := h.m
  obtain ⟨ca, cn, cc, cv, cs⟩ := h.c
  obtain ⟨rr, ⟨ba, bn, bc, bv, bs⟩, bm⟩ := h.b
  obtain ⟨V0, hW, r0, bW, zW⟩ := PrAt.new w x
  have hnn := hs.int
  have i1 := ms.int
  have i2 := cs.int
  have i3 := bs.int
  have H : Hid (IsPv w x p ∧ SlAt eK w a n c p.ks ∧ p.ks.length = n ∧ Sz p) := ⟨h, hs, hs.len, hz⟩
  have HL : Hid (p.ms.length = mn ∧ p.cs.length = cn ∧ p.bs.length = bn) := ⟨ms.len, cs.len, by rw [← bm.len]; exact bs.len⟩
  have HV : Hid (x.k = .slice a n c ∧ x.m = .slice ma mn mc ∧ x.c = .slice ca cn cc ∧ x.b = .slice ba bn bc) := ⟨hv, mv, cv, bv⟩
  have M0 : Hid (PrAt V0 w.heap.size x ∧ Below w.heap.size w V0) := ⟨r0, bW⟩
  have EO : Hid (x.o = p.o) := h.o
  clear h hs ms cs bs bm hz hv mv cv bv r0 bW zW
  have o0 := M0.out.1.own'
  have k0 := M0.out.1.k
  rw [HV.out.1] at k0
  unfold O6.cs at o0
  obtain ⟨u, hu⟩ : ∃ zz, cls p.o = zz := ⟨_, rfl⟩
  have QK : Hid (Value.int .i64 (kindOf x.o.a x.o.b x.o.c x.o.d x.o.e x.o.f) = Value.int .i64 u) := by rw [EO.out]; exact congrArg (Value.int .i64) hu
  by_cases h0 : u = 1
  · subst h0
    have Q0 : Hid ((cls p.o == 1) = true) := by rw [hu]; exact rfl
    clear hu
    have GK : gK p.ks = (decide (1 ≤ n) && (decide (n ≤ 8) && p.ks.all (fun k => k == 1 || k == 2))) := by unfold gK; rw [H.out.2.2.1]
    by_cases h1 : 1 ≤ n
    · have d1 : decide ((n : Int) < 1) = false := by simp; omega
      by_cases h2 : n ≤ 8
      · have d2 : decide ((n : Int) > 8) = false := by simp; omega
        have d3 : decide ((8 : Int) < (n : Int)) = false := by simp; omega
        obtain ⟨R, hR⟩ : ∃ z, p.ks.all (fun k => k == 1 || k == 2) = z := ⟨_, rfl⟩
        rw [hR, decide_eq_true h1, decide_eq_true h2, Bool.true_and, Bool.true_and] at GK
        have HR : Hid (p.ks.all (fun k => k == 1 || k == 2) = R) := hR
        have HG : Hid (gK p.ks = R) := GK
        clear GK hR h1 h2
        go_enter Try.func73, Try.ntmps73
        go_wp2_with fail
        refine (Calls.ret_eq QK.out (kind_ref x.o.a x.o.b x.o.c x.o.d x.o.e x.o.f V0 (by rw [EO.out]; exact H.out.1.wf.1))).mono ?_
        rintro _ V1 ⟨rfl, hb⟩
        have M1 : Hid (PrAt V1 w.heap.size x ∧ Below w.heap.size w V1) := ⟨M0.out.1.below hb, below_over M0.out.2 hb⟩
        clear hb o0 k0
        have k1 := M1.out.1.k
        rw [HV.out.1] at k1
        go_wp2_with fail
        clear k1
        go_loopw [3] (fun v wr => ∃ i : Nat, i ≤ n ∧ v = .int .i64 i ∧ R = (p.ks.drop i).all (fun k => k == 1 || k == 2) ∧ Below V1.heap.size V1 wr) (fun v _ => n - (intOf v).toNat)
        case atStart => exact ⟨0, by omega, rfl, HR.out.symm, Below.refl _ _⟩
        case round =>
          obtain ⟨i, hi, rfl, hf, hB⟩ := hrel
          have J : Hid (R = (p.ks.drop i).all (fun k => k == 1 || k == 2) ∧ Below w.heap.size w wr ∧ PrAt wr w.heap.size x ∧ Below V1.heap.size V1 wr) := ⟨hf, below_over M1.out.2 hB, M1.out.1.below hB, hB⟩
          have hi0 : (0 : Int) ≤ (i : Int) := by omega
          have c6 := J.out.2.2.1.k
          rw [HV.out.1] at c6
          clear hf hB
          by_cases hit : i < n
          · have hi1 : (i : Int) < (n : Int) := by omega
            obtain ⟨b, o, rfl⟩ := H.out.2.1.some' (by omega)
            obtain ⟨y, hy⟩ := lt_nth (l := p.ks) (i := i) (by rw [H.out.2.2.1]; exact hit)
            have l0 := lK (H.out.2.1.below J.out.2.1) hy
            have HX : Hid (p.ks[i]? = some y) := hy
            clear hy
            by_cases e1 : y = 1
            · subst e1
              have E : Hid (R = (p.ks.drop (i + 1)).all (fun k => k == 1 || k == 2)) := by rw [J.out.1, all_yes HX.out rfl]; exact rfl
              go_wp2
              go_roundw
              case rel => exact ⟨i + 1, by omega, by go_num, E.out, J.out.2.2.2⟩
              case measure => simp [intOf]; omega
            · have q1 : (y != 1) = true := by simp [e1]
              by_cases e2 : y = 2
              · subst e2
                have E : Hid (R = (p.ks.drop (i + 1)).all (fun k => k == 1 || k == 2)) := by rw [J.out.1, all_yes HX.out rfl]; exact rfl
                clear e1
                go_wp2
                go_roundw
                case rel => exact ⟨i + 1, by omega, by go_num, E.out, J.out.2.2.2⟩
                case measure => simp [intOf]; omega
              · have q2 : (y != 2) = true := by simp [e2]
                have E : Hid (chkR p = false) := by unfold chkR; rw [HG.out, show R = false by rw [J.out.1, all_no HX.out (by simp [e1, e2])], Bool.false_and, Bool.and_false]; exact rfl
                clear e1 e2
                go_wp2
                go_ret
                exact ⟨ret_int (by rw [E.out]; rfl), J.out.2.1⟩
          · have hi1 : ¬ (i : Int) < (n : Int) := by omega
            have HG2 : Hid (gK p.ks = true) := by rw [HG.out, J.out.1, all_end (by rw [H.out.2.2.1]; omega)]; exact rfl
            obtain ⟨V2, hV2⟩ : ∃ z, wr = z := ⟨_, rfl⟩
            rw [hV2] at c6
            rw [hV2]
            have M2 : Hid (PrAt V2 w.heap.size x ∧ Below w.heap.size w V2) := by rw [← hV2]; exact ⟨J.out.2.2.1, J.out.2.1⟩
            clear J hit hi hV2
            by_cases g0 : bn ≤ 64
            · have D0 : Hid (decide (p.bs.length ≤ 64) = true) := by rw [HL.out.2.2]; exact decide_eq_true g0
              have d0a : decide ((bn : Int) > 64) = false := by simp; omega
              have d0b : decide ((64 : Int) < (bn : Int)) = false := by simp; omega
              clear g0
              by_cases g1 : cn ≤ 64
              · have D1 : Hid (decide (p.cs.length ≤ 64) = true) := by rw [HL.out.2.1]; exact decide_eq_true g1
                have d1a : decide ((cn : Int) > 64) = false := by simp; omega
                have d1b : decide ((64 : Int) < (cn : Int)) = false := by simp; omega
                clear g1
                by_cases g2 : mn ≤ 64
                · have D2 : Hid (decide (p.ms.length ≤ 64) = true) := by rw [HL.out.1]; exact decide_eq_true g2
                  have d2a : decide ((mn : Int) > 64) = false := by simp; omega
                  have d2b : decide ((64 : Int) < (mn : Int)) = false := by simp; omega
                  clear g2
                  obtain ⟨t0, h0⟩ : ∃ zz, rB p = zz := ⟨_, rfl⟩
                  have QC0 : Hid (rB p = t0) := h0
                  clear h0
                  cases t0
                  · skip
                    have E0 : chkR p = false := by unfold chkR; simp only [Q0.out, HG2.out, D0.out, D1.out, D2.out, QC0.out, Bool.true_and, Bool.false_and, Bool.and_false]
                    have E : Hid (chkR p = false) := E0
                    clear E0
                    have f2 := M2.out.1.ld
                    have f2m := M2.out.1.m
                    rw [HV.out.2.1] at f2m
                    have f2c := M2.out.1.c
                    rw [HV.out.2.2.1] at f2c
                    have f2b := M2.out.1.b
                    rw [HV.out.2.2.2] at f2b
                    go_wp2_with fail
                    clear c6
                    refine (ret_b (rmem_any x p V2 (H.out.1.below M2.out.2) H.out.2.2.2.2.2.2.1) QC0.out).mono ?_
                    rintro _ V3 ⟨rfl, hb⟩
                    have M3 : Hid (PrAt V3 w.heap.size x ∧ Below w.heap.size w V3) := ⟨M2.out.1.below hb, below_over M2.out.2 hb⟩
                    clear hb f2 f2m f2c f2b
                    have f3 := M3.out.1.ld
                    have f3m := M3.out.1.m
                    rw [HV.out.2.1] at f3m
                    have f3c := M3.out.1.c
                    rw [HV.out.2.2.1] at f3c
                    have f3b := M3.out.1.b
                    rw [HV.out.2.2.2] at f3b
                    go_wp2
                    go_ret
                    exact ⟨ret_int (by rw [E.out]; rfl), M3.out.2⟩
                  · skip
                    obtain ⟨t1, h1⟩ : ∃ zz, rC p = zz := ⟨_, rfl⟩
                    have QC1 : Hid (rC p = t1) := h1
                    clear h1
                    cases t1
                    · skip
                      have E0 : chkR p = false := by unfold chkR; simp only [Q0.out, HG2.out, D0.out, D1.out, D2.out, QC0.out, QC1.out, Bool.true_and, Bool.false_and, Bool.and_false]
                      have E : Hid (chkR p = false) := E0
                      clear E0
                      have f2 := M2.out.1.ld
                      have f2m := M2.out.1.m
                      rw [HV.out.2.1] at f2m
                      have f2c := M2.out.1.c
                      rw [HV.out.2.2.1] at f2c
                      have f2b := M2.out.1.b
                      rw [HV.out.2.2.2] at f2b
                      go_wp2_with fail
                      clear c6
                      refine (ret_b (rmem_any x p V2 (H.out.1.below M2.out.2) H.out.2.2.2.2.2.2.1) QC0.out).mono ?_
                      rintro _ V3 ⟨rfl, hb⟩
                      have M3 : Hid (PrAt V3 w.heap.size x ∧ Below w.heap.size w V3) := ⟨M2.out.1.below hb, below_over M2.out.2 hb⟩
                      clear hb f2 f2m f2c f2b
                      have f3 := M3.out.1.ld
                      have f3m := M3.out.1.m
                      rw [HV.out.2.1] at f3m
                      have f3c := M3.out.1.c
                      rw [HV.out.2.2.1] at f3c
                      have f3b := M3.out.1.b
                      rw [HV.out.2.2.2] at f3b
                      go_wp2_with fail
                      refine (ret_b (rcarr_any x p V3 (H.out.1.below M3.out.2) H.out.2.2.2.2.2.1) QC1.out).mono ?_
                      rintro _ V4 ⟨rfl, hb⟩
                      have M4 : Hid (PrAt V4 w.heap.size x ∧ Below w.heap.size w V4) := ⟨M3.out.1.below hb, below_over M3.out.2 hb⟩
                      clear hb f3 f3m f3c f3b
                      have f4 := M4.out.1.ld
                      have f4m := M4.out.1.m
                      rw [HV.out.2.1] at f4m
                      have f4c := M4.out.1.c
                      rw [HV.out.2.2.1] at f4c
                      have f4b := M4.out.1.b
                      rw [HV.out.2.2.2] at f4b
                      go_wp2
                      go_ret
                      exact ⟨ret_int (by rw [E.out]; rfl), M4.out.2⟩
                    · skip
                      obtain ⟨t2, h2⟩ : ∃ zz, rM p = zz := ⟨_, rfl⟩
                      have QC2 : Hid (rM p = t2) := h2
                      clear h2
                      cases t2
                      · skip
                        have E0 : chkR p = false := by unfold chkR; simp only [Q0.out, HG2.out, D0.out, D1.out, D2.out, QC0.out, QC1.out, QC2.out, Bool.true_and, Bool.false_and, Bool.and_false]
                        have E : Hid (chkR p = false) := E0
                        clear E0
                        have f2 := M2.out.1.ld
                        have f2m := M2.out.1.m
                        rw [HV.out.2.1] at f2m
                        have f2c := M2.out.1.c
                        rw [HV.out.2.2.1] at f2c
                        have f2b := M2.out.1.b
                        rw [HV.out.2.2.2] at f2b
                        go_wp2_with fail
                        clear c6
                        refine (ret_b (rmem_any x p V2 (H.out.1.below M2.out.2) H.out.2.2.2.2.2.2.1) QC0.out).mono ?_
                        rintro _ V3 ⟨rfl, hb⟩
                        have M3 : Hid (PrAt V3 w.heap.size x ∧ Below w.heap.size w V3) := ⟨M2.out.1.below hb, below_over M2.out.2 hb⟩
                        clear hb f2 f2m f2c f2b
                        have f3 := M3.out.1.ld
                        have f3m := M3.out.1.m
                        rw [HV.out.2.1] at f3m
                        have f3c := M3.out.1.c
                        rw [HV.out.2.2.1] at f3c
                        have f3b := M3.out.1.b
                        rw [HV.out.2.2.2] at f3b
                        go_wp2_with fail
                        refine (ret_b (rcarr_any x p V3 (H.out.1.below M3.out.2) H.out.2.2.2.2.2.1) QC1.out).mono ?_
                        rintro _ V4 ⟨rfl, hb⟩
                        have M4 : Hid (PrAt V4 w.heap.size x ∧ Below w.heap.size w V4) := ⟨M3.out.1.below hb, below_over M3.out.2 hb⟩
                        clear hb f3 f3m f3c f3b
                        have f4 := M4.out.1.ld
                        have f4m := M4.out.1.m
                        rw [HV.out.2.1] at f4m
                        have f4c := M4.out.1.c
                        rw [HV.out.2.2.1] at f4c
                        have f4b := M4.out.1.b
                        rw [HV.out.2.2.2] at f4b
                        go_wp2_with fail
                        refine (ret_b (rmap_any x p V4 (H.out.1.below M4.out.2)) QC2.out).mono ?_
                        rintro _ V5 ⟨rfl, hb⟩
                        have M5 : Hid (PrAt V5 w.heap.size x ∧ Below w.heap.size w V5) := ⟨M4.out.1.below hb, below_over M4.out.2 hb⟩
                        clear hb f4 f4m f4c f4b
                        have f5 := M5.out.1.ld
                        have f5m := M5.out.1.m
                        rw [HV.out.2.1] at f5m
                        have f5c := M5.out.1.c
                        rw [HV.out.2.2.1] at f5c
                        have f5b := M5.out.1.b
                        rw [HV.out.2.2.2] at f5b
                        go_wp2
                        go_ret
                        exact ⟨ret_int (by rw [E.out]; rfl), M5.out.2⟩
                      · skip
                        have E0 : chkR p = true := by unfold chkR; simp only [Q0.out, HG2.out, D0.out, D1.out, D2.out, QC0.out, QC1.out, QC2.out, Bool.true_and, Bool.false_and, Bool.and_false]
                        have E : Hid (chkR p = true) := E0
                        clear E0
                        have f2 := M2.out.1.ld
                        have f2m := M2.out.1.m
                        rw [HV.out.2.1] at f2m
                        have f2c := M2.out.1.c
                        rw [HV.out.2.2.1] at f2c
                        have f2b := M2.out.1.b
                        rw [HV.out.2.2.2] at f2b
                        go_wp2_with fail
                        clear c6
                        refine (ret_b (rmem_any x p V2 (H.out.1.below M2.out.2) H.out.2.2.2.2.2.2.1) QC0.out).mono ?_
                        rintro _ V3 ⟨rfl, hb⟩
                        have M3 : Hid (PrAt V3 w.heap.size x ∧ Below w.heap.size w V3) := ⟨M2.out.1.below hb, below_over M2.out.2 hb⟩
                        clear hb f2 f2m f2c f2b
                        have f3 := M3.out.1.ld
                        have f3m := M3.out.1.m
                        rw [HV.out.2.1] at f3m
                        have f3c := M3.out.1.c
                        rw [HV.out.2.2.1] at f3c
                        have f3b := M3.out.1.b
                        rw [HV.out.2.2.2] at f3b
                        go_wp2_with fail
                        refine (ret_b (rcarr_any x p V3 (H.out.1.below M3.out.2) H.out.2.2.2.2.2.1) QC1.out).mono ?_
                        rintro _ V4 ⟨rfl, hb⟩
                        have M4 : Hid (PrAt V4 w.heap.size x ∧ Below w.heap.size w V4) := ⟨M3.out.1.below hb, below_over M3.out.2 hb⟩
                        clear hb f3 f3m f3c f3b
                        have f4 := M4.out.1.ld
                        have f4m := M4.out.1.m
                        rw [HV.out.2.1] at f4m
                        have f4c := M4.out.1.c
                        rw [HV.out.2.2.1] at f4c
                        have f4b := M4.out.1.b
                        rw [HV.out.2.2.2] at f4b
                        go_wp2_with fail
                        refine (ret_b (rmap_any x p V4 (H.out.1.below M4.out.2)) QC2.out).mono ?_
                        rintro _ V5 ⟨rfl, hb⟩
                        have M5 : Hid (PrAt V5 w.heap.size x ∧ Below w.heap.size w V5) := ⟨M4.out.1.below hb, below_over M4.out.2 hb⟩
                        clear hb f4 f4m f4c f4b
                        have f5 := M5.out.1.ld
                        have f5m := M5.out.1.m
                        rw [HV.out.2.1] at f5m
                        have f5c := M5.out.1.c
                        rw [HV.out.2.2.1] at f5c
                        have f5b := M5.out.1.b
                        rw [HV.out.2.2.2] at f5b
                        go_wp2
                        go_ret
                        exact ⟨ret_int (by rw [E.out]; rfl), M5.out.2⟩
                · have D2 : Hid (decide (p.ms.length ≤ 64) = false) := by rw [HL.out.1]; exact decide_eq_false g2
                  have d2a : decide ((mn : Int) > 64) = true := by simp; omega
                  have d2b : decide ((64 : Int) < (mn : Int)) = true := by simp; omega
                  clear g2
                  have E0 : chkR p = false := by unfold chkR; simp only [Q0.out, HG2.out, D0.out, D1.out, D2.out, Bool.true_and, Bool.false_and, Bool.and_false]
                  have E : Hid (chkR p = false) := E0
                  clear E0
                  have f2 := M2.out.1.ld
                  have f2m := M2.out.1.m
                  rw [HV.out.2.1] at f2m
                  have f2c := M2.out.1.c
                  rw [HV.out.2.2.1] at f2c
                  have f2b := M2.out.1.b
                  rw [HV.out.2.2.2] at f2b
                  go_wp2
                  go_ret
                  exact ⟨ret_int (by rw [E.out]; rfl), M2.out.2⟩
              · have D1 : Hid (decide (p.cs.length ≤ 64) = false) := by rw [HL.out.2.1]; exact decide_eq_false g1
                have d1a : decide ((cn : Int) > 64) = true := by simp; omega
                have d1b : decide ((64 : Int) < (cn : Int)) = true := by simp; omega
                clear g1
                have E0 : chkR p = false := by unfold chkR; simp only [Q0.out, HG2.out, D0.out, D1.out, Bool.true_and, Bool.false_and, Bool.and_false]
                have E : Hid (chkR p = false) := E0
                clear E0
                have f2 := M2.out.1.ld
                have f2m := M2.out.1.m
                rw [HV.out.2.1] at f2m
                have f2c := M2.out.1.c
                rw [HV.out.2.2.1] at f2c
                have f2b := M2.out.1.b
                rw [HV.out.2.2.2] at f2b
                go_wp2
                go_ret
                exact ⟨ret_int (by rw [E.out]; rfl), M2.out.2⟩
            · have D0 : Hid (decide (p.bs.length ≤ 64) = false) := by rw [HL.out.2.2]; exact decide_eq_false g0
              have d0a : decide ((bn : Int) > 64) = true := by simp; omega
              have d0b : decide ((64 : Int) < (bn : Int)) = true := by simp; omega
              clear g0
              have E0 : chkR p = false := by unfold chkR; simp only [Q0.out, HG2.out, D0.out, Bool.true_and, Bool.false_and, Bool.and_false]
              have E : Hid (chkR p = false) := E0
              clear E0
              have f2 := M2.out.1.ld
              have f2m := M2.out.1.m
              rw [HV.out.2.1] at f2m
              have f2c := M2.out.1.c
              rw [HV.out.2.2.1] at f2c
              have f2b := M2.out.1.b
              rw [HV.out.2.2.2] at f2b
              go_wp2
              go_ret
              exact ⟨ret_int (by rw [E.out]; rfl), M2.out.2⟩
      · have d2 : decide ((n : Int) > 8) = true := by simp; omega
        have d3 : decide ((8 : Int) < (n : Int)) = true := by simp; omega
        have E0 : chkR p = false := by unfold chkR; rw [GK, decide_eq_false h2, Bool.false_and, Bool.and_false, Bool.false_and, Bool.and_false]
        have E : Hid (chkR p = false) := E0
        clear E0 GK h1 h2
        go_enter Try.func73, Try.ntmps73
        go_wp2_with fail
        refine (Calls.ret_eq QK.out (kind_ref x.o.a x.o.b x.o.c x.o.d x.o.e x.o.f V0 (by rw [EO.out]; exact H.out.1.wf.1))).mono ?_
        rintro _ V1 ⟨rfl, hb⟩
        have M1 : Hid (PrAt V1 w.heap.size x ∧ Below w.heap.size w V1) := ⟨M0.out.1.below hb, below_over M0.out.2 hb⟩
        clear hb o0 k0
        have k1 := M1.out.1.k
        rw [HV.out.1] at k1
        go_wp2
        go_ret
        exact ⟨ret_int (by rw [E.out]; rfl), M1.out.2⟩
    · have d1 : decide ((n : Int) < 1) = true := by simp; omega
      have E0 : chkR p = false := by unfold chkR; rw [GK, decide_eq_false h1, Bool.false_and, Bool.false_and, Bool.and_false]
      have E : Hid (chkR p = false) := E0
      clear E0 GK h1
      go_enter Try.func73, Try.ntmps73
      go_wp2_with fail
      refine (Calls.ret_eq QK.out (kind_ref x.o.a x.o.b x.o.c x.o.d x.o.e x.o.f V0 (by rw [EO.out]; exact H.out.1.wf.1))).mono ?_
      rintro _ V1 ⟨rfl, hb⟩
      have M1 : Hid (PrAt V1 w.heap.size x ∧ Below w.heap.size w V1) := ⟨M0.out.1.below hb, below_over M0.out.2 hb⟩
      clear hb o0 k0
      have k1 := M1.out.1.k
      rw [HV.out.1] at k1
      go_wp2
      go_ret
      exact ⟨ret_int (by rw [E.out]; rfl), M1.out.2⟩
  · have g0 : (u != 1) = true := by simp [h0]
    have E0 : chkR p = false := by unfold chkR; rw [hu, show (u == 1) = false by simp [h0]]; rfl
    have E : Hid (chkR p = false) := E0
    clear E0 hu h0
    go_enter Try.func73, Try.ntmps73
    go_wp2_with fail
    refine (Calls.ret_eq QK.out (kind_ref x.o.a x.o.b x.o.c x.o.d x.o.e x.o.f V0 (by rw [EO.out]; exact H.out.1.wf.1))).mono ?_
    rintro _ V1 ⟨rfl, hb⟩
    have M1 : Hid (PrAt V1 w.heap.size x ∧ Below w.heap.size w V1) := ⟨M0.out.1.below hb, below_over M0.out.2 hb⟩
    clear hb o0 k0
    have k1 := M1.out.1.k
    rw [HV.out.1] at k1
    go_wp2
    go_ret
    exact ⟨ret_int (by rw [E.out]; rfl), M1.out.2⟩
theorem rchk_is (x : Pr) (p : Pv) (w : World) (h : IsPv w x p) (hz : Sz p) :
    Calls Try.prog 73 #[.agg x.cs] w fun r w' => r = .returned (.int .i64 (erC (chk p))) ∧ Below w.heap.size w w' := by
  rw [chk_eq]
  exact rchk_any x p w h hz
end Go.Proofs.Ytgjagedngdhdaaa
