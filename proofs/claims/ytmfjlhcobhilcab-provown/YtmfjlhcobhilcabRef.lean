/-
  Why a command is refused: walks of the code, each for every input.
-/
import Derived.Test.YtmfjlhcobhilcabSam
namespace Go.Proofs.Ytmfjlhcobhilcab
set_option linter.unusedVariables false
set_option maxRecDepth 4000
set_option linter.unusedSimpArgs false
open Go.RowKit
attribute [local go_sem ↓] ldM stM ldC stC ldB stB ldP stP apI bsI
attribute [local go_sem] bsI_is bsI2_is

set_option maxHeartbeats 2000000 in
theorem taken_any (x : Pr) (p : Pv) (y : Mp) (w : World) (h : IsPv w x p) :
    Calls Try.prog 49 #[.agg x.cs, .agg y.cs] w fun r w' => r = .returned (.bool ((svc p y.p y.v).2 || (vof p y.p y.s).2)) ∧ Below w.heap.size w w' := by
  obtain ⟨W, hW, m0, bW, zW⟩ := PrAt.new w x
  obtain ⟨V0, hV, m1, bV, zV⟩ := MpAt.new W y
  have M0 : Hid (PrAt V0 w.heap.size x ∧ MpAt V0 W.heap.size y ∧ Below w.heap.size w V0) := ⟨m0.below bV, m1, below_over bW bV⟩
  have H : Hid (IsPv w x p) := h
  clear h m0 m1 bW bV zW zV
  obtain ⟨⟨u, ub⟩, hu⟩ : ∃ z, svc p y.p y.v = z := ⟨_, rfl⟩
  obtain ⟨⟨v, vb⟩, hv⟩ : ∃ z, vof p y.p y.s = z := ⟨_, rfl⟩
  have Q0 : Hid (Value.tuple #[.int .i64 (svc p y.p y.v).1, .bool (svc p y.p y.v).2] = Value.tuple #[.int .i64 u, .bool ub]) := by rw [hu]; exact rfl
  have Q1 : Hid (Value.tuple #[.int .i64 (vof p y.p y.s).1, .bool (vof p y.p y.s).2] = Value.tuple #[.int .i64 v, .bool vb]) := by rw [hv]; exact rfl
  rw [hu, hv]
  clear hu hv
  cases ub
  all_goals
    go_enter Try.func49, Try.ntmps49
    have f0 := M0.out.1.ld
    have g0 := M0.out.2.1.c0
    have g1 := M0.out.2.1.c1
    go_wp2_with fail
    refine (Calls.ret_eq Q0.out (svc_any x p y.p y.v V0 (H.out.below M0.out.2.2))).mono ?_
    rintro _ V1 ⟨rfl, hb⟩
    have M1 : Hid (PrAt V1 w.heap.size x ∧ MpAt V1 W.heap.size y ∧ Below w.heap.size w V1) := ⟨M0.out.1.below hb, M0.out.2.1.below hb, below_over M0.out.2.2 hb⟩
    clear hb f0 g0 g1
    have f0 := M1.out.1.ld
    have g0 := M1.out.2.1.c0
    have g1 := M1.out.2.1.c2
    go_wp2_with fail
    refine (Calls.ret_eq Q1.out (vof_any x p y.p y.s V1 (H.out.below M1.out.2.2))).mono ?_
    rintro _ V2 ⟨rfl, hb⟩
    have B : Hid (Below w.heap.size w V2) := below_over M1.out.2.2 hb
    clear hb f0 g0 g1
    go_wp2
    go_ret
    exact ⟨ret_bool (by cases vb <;> rfl), B.out⟩
set_option maxHeartbeats 4000000 in
theorem refM_any (x : Pr) (p : Pv) (y : Mp) (w : World) (h : IsPv w x p)  :
    Calls Try.prog 14 #[.agg x.cs, .agg y.cs] w fun r w' => r = .returned (.int .i64 (refM p y)) ∧ Below w.heap.size w w' := by
  obtain ⟨ma, mn, mc, mv, ms⟩ := h.m
  obtain ⟨ca, cn, cc, cv, cs⟩ := h.c
  obtain ⟨rr, ⟨ba, bn, bc, bv, bs⟩, bm⟩ := h.b
  obtain ⟨W, hW, m0, bW, zW⟩ := PrAt.new w x
  obtain ⟨V0, hV, m1, bV, zV⟩ := MpAt.new W y
  have M0 : Hid (PrAt V0 w.heap.size x ∧ MpAt V0 W.heap.size y ∧ Below w.heap.size w V0) := ⟨m0.below bV, m1, below_over bW bV⟩
  have H : Hid (IsPv w x p ∧ SlAt eM w ma mn mc p.ms ∧ SlAt eC w ca cn cc p.cs ∧ p.bs.length = bn ∧ True) := ⟨h, ms, cs, by rw [← bm.len]; exact bs.len, trivial⟩
  have HV : Hid (x.m = .slice ma mn mc ∧ x.c = .slice ca cn cc ∧ x.b = .slice ba bn bc) := ⟨mv, cv, bv⟩
  have i0 := ms.int
  have i1 := cs.int
  have i2 := bs.int
  clear m0 bW zW h ms cs bs bm mv cv bv m1 bV zV
  obtain ⟨t0, h0⟩ : ∃ zz, isV y.v = zz := ⟨_, rfl⟩
  have Q0 : Hid (isV y.v = t0) := h0
  clear h0
  cases t0
  · skip
    have E0 : refM p y = 1 := by unfold refM; simp [Q0.out]
    have E : Hid (refM p y = 1) := E0
    clear E0
    go_enter Try.func14, Try.ntmps14
    have f0 := M0.out.1.ld
    have f0m := M0.out.1.m
    rw [HV.out.1] at f0m
    have f0c := M0.out.1.c
    rw [HV.out.2.1] at f0c
    have f0b := M0.out.1.b
    rw [HV.out.2.2] at f0b
    have g0 := M0.out.2.1.ld
    have g0_0 := M0.out.2.1.c0
    have g0_1 := M0.out.2.1.c1
    have g0_2 := M0.out.2.1.c2
    go_wp2_with fail
    refine (ret_b (isv_any y.v V0) Q0.out).mono ?_
    rintro _ V1 ⟨rfl, hb⟩
    have M1 : Hid (PrAt V1 w.heap.size x ∧ MpAt V1 W.heap.size y ∧ Below w.heap.size w V1) := ⟨M0.out.1.below hb, M0.out.2.1.below hb, below_over M0.out.2.2 hb⟩
    clear hb f0 f0m f0c f0b g0 g0_0 g0_1 g0_2
    have f1 := M1.out.1.ld
    have f1m := M1.out.1.m
    rw [HV.out.1] at f1m
    have f1c := M1.out.1.c
    rw [HV.out.2.1] at f1c
    have f1b := M1.out.1.b
    rw [HV.out.2.2] at f1b
    have g1 := M1.out.2.1.ld
    have g1_0 := M1.out.2.1.c0
    have g1_1 := M1.out.2.1.c1
    have g1_2 := M1.out.2.1.c2
    go_wp2
    go_ret
    exact ⟨ret_int E.out.symm, M1.out.2.2⟩
  · skip
    obtain ⟨t1, h1⟩ : ∃ zz, isS y.s = zz := ⟨_, rfl⟩
    have Q1 : Hid (isS y.s = t1) := h1
    clear h1
    cases t1
    · skip
      have E0 : refM p y = 1 := by unfold refM; simp [Q0.out, Q1.out]
      have E : Hid (refM p y = 1) := E0
      clear E0
      go_enter Try.func14, Try.ntmps14
      have f0 := M0.out.1.ld
      have f0m := M0.out.1.m
      rw [HV.out.1] at f0m
      have f0c := M0.out.1.c
      rw [HV.out.2.1] at f0c
      have f0b := M0.out.1.b
      rw [HV.out.2.2] at f0b
      have g0 := M0.out.2.1.ld
      have g0_0 := M0.out.2.1.c0
      have g0_1 := M0.out.2.1.c1
      have g0_2 := M0.out.2.1.c2
      go_wp2_with fail
      refine (ret_b (isv_any y.v V0) Q0.out).mono ?_
      rintro _ V1 ⟨rfl, hb⟩
      have M1 : Hid (PrAt V1 w.heap.size x ∧ MpAt V1 W.heap.size y ∧ Below w.heap.size w V1) := ⟨M0.out.1.below hb, M0.out.2.1.below hb, below_over M0.out.2.2 hb⟩
      clear hb f0 f0m f0c f0b g0 g0_0 g0_1 g0_2
      have f1 := M1.out.1.ld
      have f1m := M1.out.1.m
      rw [HV.out.1] at f1m
      have f1c := M1.out.1.c
      rw [HV.out.2.1] at f1c
      have f1b := M1.out.1.b
      rw [HV.out.2.2] at f1b
      have g1 := M1.out.2.1.ld
      have g1_0 := M1.out.2.1.c0
      have g1_1 := M1.out.2.1.c1
      have g1_2 := M1.out.2.1.c2
      go_wp2_with fail
      refine (ret_b (iss_any y.s V1) Q1.out).mono ?_
      rintro _ V2 ⟨rfl, hb⟩
      have M2 : Hid (PrAt V2 w.heap.size x ∧ MpAt V2 W.heap.size y ∧ Below w.heap.size w V2) := ⟨M1.out.1.below hb, M1.out.2.1.below hb, below_over M1.out.2.2 hb⟩
      clear hb f1 f1m f1c f1b g1 g1_0 g1_1 g1_2
      have f2 := M2.out.1.ld
      have f2m := M2.out.1.m
      rw [HV.out.1] at f2m
      have f2c := M2.out.1.c
      rw [HV.out.2.1] at f2c
      have f2b := M2.out.1.b
      rw [HV.out.2.2] at f2b
      have g2 := M2.out.2.1.ld
      have g2_0 := M2.out.2.1.c0
      have g2_1 := M2.out.2.1.c1
      have g2_2 := M2.out.2.1.c2
      go_wp2
      go_ret
      exact ⟨ret_int E.out.symm, M2.out.2.2⟩
    · skip
      obtain ⟨t2, h2⟩ : ∃ zz, hasP p y.p = zz := ⟨_, rfl⟩
      have Q2 : Hid (hasP p y.p = t2) := h2
      clear h2
      cases t2
      · skip
        have E0 : refM p y = 5 := by unfold refM; simp [Q0.out, Q1.out, Q2.out]
        have E : Hid (refM p y = 5) := E0
        clear E0
        go_enter Try.func14, Try.ntmps14
        have f0 := M0.out.1.ld
        have f0m := M0.out.1.m
        rw [HV.out.1] at f0m
        have f0c := M0.out.1.c
        rw [HV.out.2.1] at f0c
        have f0b := M0.out.1.b
        rw [HV.out.2.2] at f0b
        have g0 := M0.out.2.1.ld
        have g0_0 := M0.out.2.1.c0
        have g0_1 := M0.out.2.1.c1
        have g0_2 := M0.out.2.1.c2
        go_wp2_with fail
        refine (ret_b (isv_any y.v V0) Q0.out).mono ?_
        rintro _ V1 ⟨rfl, hb⟩
        have M1 : Hid (PrAt V1 w.heap.size x ∧ MpAt V1 W.heap.size y ∧ Below w.heap.size w V1) := ⟨M0.out.1.below hb, M0.out.2.1.below hb, below_over M0.out.2.2 hb⟩
        clear hb f0 f0m f0c f0b g0 g0_0 g0_1 g0_2
        have f1 := M1.out.1.ld
        have f1m := M1.out.1.m
        rw [HV.out.1] at f1m
        have f1c := M1.out.1.c
        rw [HV.out.2.1] at f1c
        have f1b := M1.out.1.b
        rw [HV.out.2.2] at f1b
        have g1 := M1.out.2.1.ld
        have g1_0 := M1.out.2.1.c0
        have g1_1 := M1.out.2.1.c1
        have g1_2 := M1.out.2.1.c2
        go_wp2_with fail
        refine (ret_b (iss_any y.s V1) Q1.out).mono ?_
        rintro _ V2 ⟨rfl, hb⟩
        have M2 : Hid (PrAt V2 w.heap.size x ∧ MpAt V2 W.heap.size y ∧ Below w.heap.size w V2) := ⟨M1.out.1.below hb, M1.out.2.1.below hb, below_over M1.out.2.2 hb⟩
        clear hb f1 f1m f1c f1b g1 g1_0 g1_1 g1_2
        have f2 := M2.out.1.ld
        have f2m := M2.out.1.m
        rw [HV.out.1] at f2m
        have f2c := M2.out.1.c
        rw [HV.out.2.1] at f2c
        have f2b := M2.out.1.b
        rw [HV.out.2.2] at f2b
        have g2 := M2.out.2.1.ld
        have g2_0 := M2.out.2.1.c0
        have g2_1 := M2.out.2.1.c1
        have g2_2 := M2.out.2.1.c2
        go_wp2_with fail
        refine (ret_b (hasp_any x p y.p V2 (H.out.1.below M2.out.2.2)) Q2.out).mono ?_
        rintro _ V3 ⟨rfl, hb⟩
        have M3 : Hid (PrAt V3 w.heap.size x ∧ MpAt V3 W.heap.size y ∧ Below w.heap.size w V3) := ⟨M2.out.1.below hb, M2.out.2.1.below hb, below_over M2.out.2.2 hb⟩
        clear hb f2 f2m f2c f2b g2 g2_0 g2_1 g2_2
        have f3 := M3.out.1.ld
        have f3m := M3.out.1.m
        rw [HV.out.1] at f3m
        have f3c := M3.out.1.c
        rw [HV.out.2.1] at f3c
        have f3b := M3.out.1.b
        rw [HV.out.2.2] at f3b
        have g3 := M3.out.2.1.ld
        have g3_0 := M3.out.2.1.c0
        have g3_1 := M3.out.2.1.c1
        have g3_2 := M3.out.2.1.c2
        go_wp2
        go_ret
        exact ⟨ret_int E.out.symm, M3.out.2.2⟩
      · skip
        obtain ⟨t3, h3⟩ : ∃ zz, isK p y.p 1 = zz := ⟨_, rfl⟩
        have Q3 : Hid (isK p y.p 1 = t3) := h3
        clear h3
        cases t3
        · skip
          have E0 : refM p y = 184 := by unfold refM; simp [Q0.out, Q1.out, Q2.out, Q3.out]
          have E : Hid (refM p y = 184) := E0
          clear E0
          go_enter Try.func14, Try.ntmps14
          have f0 := M0.out.1.ld
          have f0m := M0.out.1.m
          rw [HV.out.1] at f0m
          have f0c := M0.out.1.c
          rw [HV.out.2.1] at f0c
          have f0b := M0.out.1.b
          rw [HV.out.2.2] at f0b
          have g0 := M0.out.2.1.ld
          have g0_0 := M0.out.2.1.c0
          have g0_1 := M0.out.2.1.c1
          have g0_2 := M0.out.2.1.c2
          go_wp2_with fail
          refine (ret_b (isv_any y.v V0) Q0.out).mono ?_
          rintro _ V1 ⟨rfl, hb⟩
          have M1 : Hid (PrAt V1 w.heap.size x ∧ MpAt V1 W.heap.size y ∧ Below w.heap.size w V1) := ⟨M0.out.1.below hb, M0.out.2.1.below hb, below_over M0.out.2.2 hb⟩
          clear hb f0 f0m f0c f0b g0 g0_0 g0_1 g0_2
          have f1 := M1.out.1.ld
          have f1m := M1.out.1.m
          rw [HV.out.1] at f1m
          have f1c := M1.out.1.c
          rw [HV.out.2.1] at f1c
          have f1b := M1.out.1.b
          rw [HV.out.2.2] at f1b
          have g1 := M1.out.2.1.ld
          have g1_0 := M1.out.2.1.c0
          have g1_1 := M1.out.2.1.c1
          have g1_2 := M1.out.2.1.c2
          go_wp2_with fail
          refine (ret_b (iss_any y.s V1) Q1.out).mono ?_
          rintro _ V2 ⟨rfl, hb⟩
          have M2 : Hid (PrAt V2 w.heap.size x ∧ MpAt V2 W.heap.size y ∧ Below w.heap.size w V2) := ⟨M1.out.1.below hb, M1.out.2.1.below hb, below_over M1.out.2.2 hb⟩
          clear hb f1 f1m f1c f1b g1 g1_0 g1_1 g1_2
          have f2 := M2.out.1.ld
          have f2m := M2.out.1.m
          rw [HV.out.1] at f2m
          have f2c := M2.out.1.c
          rw [HV.out.2.1] at f2c
          have f2b := M2.out.1.b
          rw [HV.out.2.2] at f2b
          have g2 := M2.out.2.1.ld
          have g2_0 := M2.out.2.1.c0
          have g2_1 := M2.out.2.1.c1
          have g2_2 := M2.out.2.1.c2
          go_wp2_with fail
          refine (ret_b (hasp_any x p y.p V2 (H.out.1.below M2.out.2.2)) Q2.out).mono ?_
          rintro _ V3 ⟨rfl, hb⟩
          have M3 : Hid (PrAt V3 w.heap.size x ∧ MpAt V3 W.heap.size y ∧ Below w.heap.size w V3) := ⟨M2.out.1.below hb, M2.out.2.1.below hb, below_over M2.out.2.2 hb⟩
          clear hb f2 f2m f2c f2b g2 g2_0 g2_1 g2_2
          have f3 := M3.out.1.ld
          have f3m := M3.out.1.m
          rw [HV.out.1] at f3m
          have f3c := M3.out.1.c
          rw [HV.out.2.1] at f3c
          have f3b := M3.out.1.b
          rw [HV.out.2.2] at f3b
          have g3 := M3.out.2.1.ld
          have g3_0 := M3.out.2.1.c0
          have g3_1 := M3.out.2.1.c1
          have g3_2 := M3.out.2.1.c2
          go_wp2_with fail
          refine (ret_b (isk_any x p y.p 1 V3 (H.out.1.below M3.out.2.2)) Q3.out).mono ?_
          rintro _ V4 ⟨rfl, hb⟩
          have M4 : Hid (PrAt V4 w.heap.size x ∧ MpAt V4 W.heap.size y ∧ Below w.heap.size w V4) := ⟨M3.out.1.below hb, M3.out.2.1.below hb, below_over M3.out.2.2 hb⟩
          clear hb f3 f3m f3c f3b g3 g3_0 g3_1 g3_2
          have f4 := M4.out.1.ld
          have f4m := M4.out.1.m
          rw [HV.out.1] at f4m
          have f4c := M4.out.1.c
          rw [HV.out.2.1] at f4c
          have f4b := M4.out.1.b
          rw [HV.out.2.2] at f4b
          have g4 := M4.out.2.1.ld
          have g4_0 := M4.out.2.1.c0
          have g4_1 := M4.out.2.1.c1
          have g4_2 := M4.out.2.1.c2
          go_wp2
          go_ret
          exact ⟨ret_int E.out.symm, M4.out.2.2⟩
        · skip
          obtain ⟨t4, h4⟩ : ∃ zz, ((svc p y.p y.v).2 || (vof p y.p y.s).2) = zz := ⟨_, rfl⟩
          have Q4 : Hid (((svc p y.p y.v).2 || (vof p y.p y.s).2) = t4) := h4
          clear h4
          cases t4
          · skip
            obtain ⟨t5, h5⟩ : ∃ zz, (car p y.s).2 = zz := ⟨_, rfl⟩
            have Q5 : Hid ((car p y.s).2 = t5) := h5
            clear h5
            cases t5
            · skip
              have E0 : refM p y = 182 := by unfold refM; simp [Q0.out, Q1.out, Q2.out, Q3.out, Q4.out, Q5.out]
              have E : Hid (refM p y = 182) := E0
              clear E0
              go_enter Try.func14, Try.ntmps14
              have f0 := M0.out.1.ld
              have f0m := M0.out.1.m
              rw [HV.out.1] at f0m
              have f0c := M0.out.1.c
              rw [HV.out.2.1] at f0c
              have f0b := M0.out.1.b
              rw [HV.out.2.2] at f0b
              have g0 := M0.out.2.1.ld
              have g0_0 := M0.out.2.1.c0
              have g0_1 := M0.out.2.1.c1
              have g0_2 := M0.out.2.1.c2
              go_wp2_with fail
              refine (ret_b (isv_any y.v V0) Q0.out).mono ?_
              rintro _ V1 ⟨rfl, hb⟩
              have M1 : Hid (PrAt V1 w.heap.size x ∧ MpAt V1 W.heap.size y ∧ Below w.heap.size w V1) := ⟨M0.out.1.below hb, M0.out.2.1.below hb, below_over M0.out.2.2 hb⟩
              clear hb f0 f0m f0c f0b g0 g0_0 g0_1 g0_2
              have f1 := M1.out.1.ld
              have f1m := M1.out.1.m
              rw [HV.out.1] at f1m
              have f1c := M1.out.1.c
              rw [HV.out.2.1] at f1c
              have f1b := M1.out.1.b
              rw [HV.out.2.2] at f1b
              have g1 := M1.out.2.1.ld
              have g1_0 := M1.out.2.1.c0
              have g1_1 := M1.out.2.1.c1
              have g1_2 := M1.out.2.1.c2
              go_wp2_with fail
              refine (ret_b (iss_any y.s V1) Q1.out).mono ?_
              rintro _ V2 ⟨rfl, hb⟩
              have M2 : Hid (PrAt V2 w.heap.size x ∧ MpAt V2 W.heap.size y ∧ Below w.heap.size w V2) := ⟨M1.out.1.below hb, M1.out.2.1.below hb, below_over M1.out.2.2 hb⟩
              clear hb f1 f1m f1c f1b g1 g1_0 g1_1 g1_2
              have f2 := M2.out.1.ld
              have f2m := M2.out.1.m
              rw [HV.out.1] at f2m
              have f2c := M2.out.1.c
              rw [HV.out.2.1] at f2c
              have f2b := M2.out.1.b
              rw [HV.out.2.2] at f2b
              have g2 := M2.out.2.1.ld
              have g2_0 := M2.out.2.1.c0
              have g2_1 := M2.out.2.1.c1
              have g2_2 := M2.out.2.1.c2
              go_wp2_with fail
              refine (ret_b (hasp_any x p y.p V2 (H.out.1.below M2.out.2.2)) Q2.out).mono ?_
              rintro _ V3 ⟨rfl, hb⟩
              have M3 : Hid (PrAt V3 w.heap.size x ∧ MpAt V3 W.heap.size y ∧ Below w.heap.size w V3) := ⟨M2.out.1.below hb, M2.out.2.1.below hb, below_over M2.out.2.2 hb⟩
              clear hb f2 f2m f2c f2b g2 g2_0 g2_1 g2_2
              have f3 := M3.out.1.ld
              have f3m := M3.out.1.m
              rw [HV.out.1] at f3m
              have f3c := M3.out.1.c
              rw [HV.out.2.1] at f3c
              have f3b := M3.out.1.b
              rw [HV.out.2.2] at f3b
              have g3 := M3.out.2.1.ld
              have g3_0 := M3.out.2.1.c0
              have g3_1 := M3.out.2.1.c1
              have g3_2 := M3.out.2.1.c2
              go_wp2_with fail
              refine (ret_b (isk_any x p y.p 1 V3 (H.out.1.below M3.out.2.2)) Q3.out).mono ?_
              rintro _ V4 ⟨rfl, hb⟩
              have M4 : Hid (PrAt V4 w.heap.size x ∧ MpAt V4 W.heap.size y ∧ Below w.heap.size w V4) := ⟨M3.out.1.below hb, M3.out.2.1.below hb, below_over M3.out.2.2 hb⟩
              clear hb f3 f3m f3c f3b g3 g3_0 g3_1 g3_2
              have f4 := M4.out.1.ld
              have f4m := M4.out.1.m
              rw [HV.out.1] at f4m
              have f4c := M4.out.1.c
              rw [HV.out.2.1] at f4c
              have f4b := M4.out.1.b
              rw [HV.out.2.2] at f4b
              have g4 := M4.out.2.1.ld
              have g4_0 := M4.out.2.1.c0
              have g4_1 := M4.out.2.1.c1
              have g4_2 := M4.out.2.1.c2
              go_wp2_with fail
              refine (ret_b (taken_any x p y V4 (H.out.1.below M4.out.2.2)) Q4.out).mono ?_
              rintro _ V5 ⟨rfl, hb⟩
              have M5 : Hid (PrAt V5 w.heap.size x ∧ MpAt V5 W.heap.size y ∧ Below w.heap.size w V5) := ⟨M4.out.1.below hb, M4.out.2.1.below hb, below_over M4.out.2.2 hb⟩
              clear hb f4 f4m f4c f4b g4 g4_0 g4_1 g4_2
              have f5 := M5.out.1.ld
              have f5m := M5.out.1.m
              rw [HV.out.1] at f5m
              have f5c := M5.out.1.c
              rw [HV.out.2.1] at f5c
              have f5b := M5.out.1.b
              rw [HV.out.2.2] at f5b
              have g5 := M5.out.2.1.ld
              have g5_0 := M5.out.2.1.c0
              have g5_1 := M5.out.2.1.c1
              have g5_2 := M5.out.2.1.c2
              go_wp2_with fail
              refine (ret_b (isc_any x p y.s V5 (H.out.1.below M5.out.2.2)) Q5.out).mono ?_
              rintro _ V6 ⟨rfl, hb⟩
              have M6 : Hid (PrAt V6 w.heap.size x ∧ MpAt V6 W.heap.size y ∧ Below w.heap.size w V6) := ⟨M5.out.1.below hb, M5.out.2.1.below hb, below_over M5.out.2.2 hb⟩
              clear hb f5 f5m f5c f5b g5 g5_0 g5_1 g5_2
              have f6 := M6.out.1.ld
              have f6m := M6.out.1.m
              rw [HV.out.1] at f6m
              have f6c := M6.out.1.c
              rw [HV.out.2.1] at f6c
              have f6b := M6.out.1.b
              rw [HV.out.2.2] at f6b
              have g6 := M6.out.2.1.ld
              have g6_0 := M6.out.2.1.c0
              have g6_1 := M6.out.2.1.c1
              have g6_2 := M6.out.2.1.c2
              go_wp2
              go_ret
              exact ⟨ret_int E.out.symm, M6.out.2.2⟩
            · skip
              by_cases h6 : 64 ≤ mn
              · have d1 : decide ((mn : Int) ≥ 64) = true := by simp; omega
                have d2 : decide ((64 : Int) ≤ (mn : Int)) = true := by simp; omega
                have Q6 : Hid (64 ≤ p.ms.length) := by rw [H.out.2.1.len]; exact h6
                clear h6
                have E0 : refM p y = 3 := by unfold refM; simp [Q0.out, Q1.out, Q2.out, Q3.out, Q4.out, Q5.out, Q6.out]
                have E : Hid (refM p y = 3) := E0
                clear E0
                go_enter Try.func14, Try.ntmps14
                have f0 := M0.out.1.ld
                have f0m := M0.out.1.m
                rw [HV.out.1] at f0m
                have f0c := M0.out.1.c
                rw [HV.out.2.1] at f0c
                have f0b := M0.out.1.b
                rw [HV.out.2.2] at f0b
                have g0 := M0.out.2.1.ld
                have g0_0 := M0.out.2.1.c0
                have g0_1 := M0.out.2.1.c1
                have g0_2 := M0.out.2.1.c2
                go_wp2_with fail
                refine (ret_b (isv_any y.v V0) Q0.out).mono ?_
                rintro _ V1 ⟨rfl, hb⟩
                have M1 : Hid (PrAt V1 w.heap.size x ∧ MpAt V1 W.heap.size y ∧ Below w.heap.size w V1) := ⟨M0.out.1.below hb, M0.out.2.1.below hb, below_over M0.out.2.2 hb⟩
                clear hb f0 f0m f0c f0b g0 g0_0 g0_1 g0_2
                have f1 := M1.out.1.ld
                have f1m := M1.out.1.m
                rw [HV.out.1] at f1m
                have f1c := M1.out.1.c
                rw [HV.out.2.1] at f1c
                have f1b := M1.out.1.b
                rw [HV.out.2.2] at f1b
                have g1 := M1.out.2.1.ld
                have g1_0 := M1.out.2.1.c0
                have g1_1 := M1.out.2.1.c1
                have g1_2 := M1.out.2.1.c2
                go_wp2_with fail
                refine (ret_b (iss_any y.s V1) Q1.out).mono ?_
                rintro _ V2 ⟨rfl, hb⟩
                have M2 : Hid (PrAt V2 w.heap.size x ∧ MpAt V2 W.heap.size y ∧ Below w.heap.size w V2) := ⟨M1.out.1.below hb, M1.out.2.1.below hb, below_over M1.out.2.2 hb⟩
                clear hb f1 f1m f1c f1b g1 g1_0 g1_1 g1_2
                have f2 := M2.out.1.ld
                have f2m := M2.out.1.m
                rw [HV.out.1] at f2m
                have f2c := M2.out.1.c
                rw [HV.out.2.1] at f2c
                have f2b := M2.out.1.b
                rw [HV.out.2.2] at f2b
                have g2 := M2.out.2.1.ld
                have g2_0 := M2.out.2.1.c0
                have g2_1 := M2.out.2.1.c1
                have g2_2 := M2.out.2.1.c2
                go_wp2_with fail
                refine (ret_b (hasp_any x p y.p V2 (H.out.1.below M2.out.2.2)) Q2.out).mono ?_
                rintro _ V3 ⟨rfl, hb⟩
                have M3 : Hid (PrAt V3 w.heap.size x ∧ MpAt V3 W.heap.size y ∧ Below w.heap.size w V3) := ⟨M2.out.1.below hb, M2.out.2.1.below hb, below_over M2.out.2.2 hb⟩
                clear hb f2 f2m f2c f2b g2 g2_0 g2_1 g2_2
                have f3 := M3.out.1.ld
                have f3m := M3.out.1.m
                rw [HV.out.1] at f3m
                have f3c := M3.out.1.c
                rw [HV.out.2.1] at f3c
                have f3b := M3.out.1.b
                rw [HV.out.2.2] at f3b
                have g3 := M3.out.2.1.ld
                have g3_0 := M3.out.2.1.c0
                have g3_1 := M3.out.2.1.c1
                have g3_2 := M3.out.2.1.c2
                go_wp2_with fail
                refine (ret_b (isk_any x p y.p 1 V3 (H.out.1.below M3.out.2.2)) Q3.out).mono ?_
                rintro _ V4 ⟨rfl, hb⟩
                have M4 : Hid (PrAt V4 w.heap.size x ∧ MpAt V4 W.heap.size y ∧ Below w.heap.size w V4) := ⟨M3.out.1.below hb, M3.out.2.1.below hb, below_over M3.out.2.2 hb⟩
                clear hb f3 f3m f3c f3b g3 g3_0 g3_1 g3_2
                have f4 := M4.out.1.ld
                have f4m := M4.out.1.m
                rw [HV.out.1] at f4m
                have f4c := M4.out.1.c
                rw [HV.out.2.1] at f4c
                have f4b := M4.out.1.b
                rw [HV.out.2.2] at f4b
                have g4 := M4.out.2.1.ld
                have g4_0 := M4.out.2.1.c0
                have g4_1 := M4.out.2.1.c1
                have g4_2 := M4.out.2.1.c2
                go_wp2_with fail
                refine (ret_b (taken_any x p y V4 (H.out.1.below M4.out.2.2)) Q4.out).mono ?_
                rintro _ V5 ⟨rfl, hb⟩
                have M5 : Hid (PrAt V5 w.heap.size x ∧ MpAt V5 W.heap.size y ∧ Below w.heap.size w V5) := ⟨M4.out.1.below hb, M4.out.2.1.below hb, below_over M4.out.2.2 hb⟩
                clear hb f4 f4m f4c f4b g4 g4_0 g4_1 g4_2
                have f5 := M5.out.1.ld
                have f5m := M5.out.1.m
                rw [HV.out.1] at f5m
                have f5c := M5.out.1.c
                rw [HV.out.2.1] at f5c
                have f5b := M5.out.1.b
                rw [HV.out.2.2] at f5b
                have g5 := M5.out.2.1.ld
                have g5_0 := M5.out.2.1.c0
                have g5_1 := M5.out.2.1.c1
                have g5_2 := M5.out.2.1.c2
                go_wp2_with fail
                refine (ret_b (isc_any x p y.s V5 (H.out.1.below M5.out.2.2)) Q5.out).mono ?_
                rintro _ V6 ⟨rfl, hb⟩
                have M6 : Hid (PrAt V6 w.heap.size x ∧ MpAt V6 W.heap.size y ∧ Below w.heap.size w V6) := ⟨M5.out.1.below hb, M5.out.2.1.below hb, below_over M5.out.2.2 hb⟩
                clear hb f5 f5m f5c f5b g5 g5_0 g5_1 g5_2
                have f6 := M6.out.1.ld
                have f6m := M6.out.1.m
                rw [HV.out.1] at f6m
                have f6c := M6.out.1.c
                rw [HV.out.2.1] at f6c
                have f6b := M6.out.1.b
                rw [HV.out.2.2] at f6b
                have g6 := M6.out.2.1.ld
                have g6_0 := M6.out.2.1.c0
                have g6_1 := M6.out.2.1.c1
                have g6_2 := M6.out.2.1.c2
                go_wp2
                go_ret
                exact ⟨ret_int E.out.symm, M6.out.2.2⟩
              · have d1 : decide ((mn : Int) ≥ 64) = false := by simp; omega
                have d2 : decide ((64 : Int) ≤ (mn : Int)) = false := by simp; omega
                have Q6 : Hid (¬ 64 ≤ p.ms.length) := by rw [H.out.2.1.len]; exact h6
                clear h6
                have E0 : refM p y = 0 := by unfold refM; simp [Q0.out, Q1.out, Q2.out, Q3.out, Q4.out, Q5.out, Q6.out]
                have E : Hid (refM p y = 0) := E0
                clear E0
                go_enter Try.func14, Try.ntmps14
                have f0 := M0.out.1.ld
                have f0m := M0.out.1.m
                rw [HV.out.1] at f0m
                have f0c := M0.out.1.c
                rw [HV.out.2.1] at f0c
                have f0b := M0.out.1.b
                rw [HV.out.2.2] at f0b
                have g0 := M0.out.2.1.ld
                have g0_0 := M0.out.2.1.c0
                have g0_1 := M0.out.2.1.c1
                have g0_2 := M0.out.2.1.c2
                go_wp2_with fail
                refine (ret_b (isv_any y.v V0) Q0.out).mono ?_
                rintro _ V1 ⟨rfl, hb⟩
                have M1 : Hid (PrAt V1 w.heap.size x ∧ MpAt V1 W.heap.size y ∧ Below w.heap.size w V1) := ⟨M0.out.1.below hb, M0.out.2.1.below hb, below_over M0.out.2.2 hb⟩
                clear hb f0 f0m f0c f0b g0 g0_0 g0_1 g0_2
                have f1 := M1.out.1.ld
                have f1m := M1.out.1.m
                rw [HV.out.1] at f1m
                have f1c := M1.out.1.c
                rw [HV.out.2.1] at f1c
                have f1b := M1.out.1.b
                rw [HV.out.2.2] at f1b
                have g1 := M1.out.2.1.ld
                have g1_0 := M1.out.2.1.c0
                have g1_1 := M1.out.2.1.c1
                have g1_2 := M1.out.2.1.c2
                go_wp2_with fail
                refine (ret_b (iss_any y.s V1) Q1.out).mono ?_
                rintro _ V2 ⟨rfl, hb⟩
                have M2 : Hid (PrAt V2 w.heap.size x ∧ MpAt V2 W.heap.size y ∧ Below w.heap.size w V2) := ⟨M1.out.1.below hb, M1.out.2.1.below hb, below_over M1.out.2.2 hb⟩
                clear hb f1 f1m f1c f1b g1 g1_0 g1_1 g1_2
                have f2 := M2.out.1.ld
                have f2m := M2.out.1.m
                rw [HV.out.1] at f2m
                have f2c := M2.out.1.c
                rw [HV.out.2.1] at f2c
                have f2b := M2.out.1.b
                rw [HV.out.2.2] at f2b
                have g2 := M2.out.2.1.ld
                have g2_0 := M2.out.2.1.c0
                have g2_1 := M2.out.2.1.c1
                have g2_2 := M2.out.2.1.c2
                go_wp2_with fail
                refine (ret_b (hasp_any x p y.p V2 (H.out.1.below M2.out.2.2)) Q2.out).mono ?_
                rintro _ V3 ⟨rfl, hb⟩
                have M3 : Hid (PrAt V3 w.heap.size x ∧ MpAt V3 W.heap.size y ∧ Below w.heap.size w V3) := ⟨M2.out.1.below hb, M2.out.2.1.below hb, below_over M2.out.2.2 hb⟩
                clear hb f2 f2m f2c f2b g2 g2_0 g2_1 g2_2
                have f3 := M3.out.1.ld
                have f3m := M3.out.1.m
                rw [HV.out.1] at f3m
                have f3c := M3.out.1.c
                rw [HV.out.2.1] at f3c
                have f3b := M3.out.1.b
                rw [HV.out.2.2] at f3b
                have g3 := M3.out.2.1.ld
                have g3_0 := M3.out.2.1.c0
                have g3_1 := M3.out.2.1.c1
                have g3_2 := M3.out.2.1.c2
                go_wp2_with fail
                refine (ret_b (isk_any x p y.p 1 V3 (H.out.1.below M3.out.2.2)) Q3.out).mono ?_
                rintro _ V4 ⟨rfl, hb⟩
                have M4 : Hid (PrAt V4 w.heap.size x ∧ MpAt V4 W.heap.size y ∧ Below w.heap.size w V4) := ⟨M3.out.1.below hb, M3.out.2.1.below hb, below_over M3.out.2.2 hb⟩
                clear hb f3 f3m f3c f3b g3 g3_0 g3_1 g3_2
                have f4 := M4.out.1.ld
                have f4m := M4.out.1.m
                rw [HV.out.1] at f4m
                have f4c := M4.out.1.c
                rw [HV.out.2.1] at f4c
                have f4b := M4.out.1.b
                rw [HV.out.2.2] at f4b
                have g4 := M4.out.2.1.ld
                have g4_0 := M4.out.2.1.c0
                have g4_1 := M4.out.2.1.c1
                have g4_2 := M4.out.2.1.c2
                go_wp2_with fail
                refine (ret_b (taken_any x p y V4 (H.out.1.below M4.out.2.2)) Q4.out).mono ?_
                rintro _ V5 ⟨rfl, hb⟩
                have M5 : Hid (PrAt V5 w.heap.size x ∧ MpAt V5 W.heap.size y ∧ Below w.heap.size w V5) := ⟨M4.out.1.below hb, M4.out.2.1.below hb, below_over M4.out.2.2 hb⟩
                clear hb f4 f4m f4c f4b g4 g4_0 g4_1 g4_2
                have f5 := M5.out.1.ld
                have f5m := M5.out.1.m
                rw [HV.out.1] at f5m
                have f5c := M5.out.1.c
                rw [HV.out.2.1] at f5c
                have f5b := M5.out.1.b
                rw [HV.out.2.2] at f5b
                have g5 := M5.out.2.1.ld
                have g5_0 := M5.out.2.1.c0
                have g5_1 := M5.out.2.1.c1
                have g5_2 := M5.out.2.1.c2
                go_wp2_with fail
                refine (ret_b (isc_any x p y.s V5 (H.out.1.below M5.out.2.2)) Q5.out).mono ?_
                rintro _ V6 ⟨rfl, hb⟩
                have M6 : Hid (PrAt V6 w.heap.size x ∧ MpAt V6 W.heap.size y ∧ Below w.heap.size w V6) := ⟨M5.out.1.below hb, M5.out.2.1.below hb, below_over M5.out.2.2 hb⟩
                clear hb f5 f5m f5c f5b g5 g5_0 g5_1 g5_2
                have f6 := M6.out.1.ld
                have f6m := M6.out.1.m
                rw [HV.out.1] at f6m
                have f6c := M6.out.1.c
                rw [HV.out.2.1] at f6c
                have f6b := M6.out.1.b
                rw [HV.out.2.2] at f6b
                have g6 := M6.out.2.1.ld
                have g6_0 := M6.out.2.1.c0
                have g6_1 := M6.out.2.1.c1
                have g6_2 := M6.out.2.1.c2
                go_wp2
                go_ret
                exact ⟨ret_int E.out.symm, M6.out.2.2⟩
          · skip
            have E0 : refM p y = 181 := by unfold refM; simp [Q0.out, Q1.out, Q2.out, Q3.out, Q4.out]
            have E : Hid (refM p y = 181) := E0
            clear E0
            go_enter Try.func14, Try.ntmps14
            have f0 := M0.out.1.ld
            have f0m := M0.out.1.m
            rw [HV.out.1] at f0m
            have f0c := M0.out.1.c
            rw [HV.out.2.1] at f0c
            have f0b := M0.out.1.b
            rw [HV.out.2.2] at f0b
            have g0 := M0.out.2.1.ld
            have g0_0 := M0.out.2.1.c0
            have g0_1 := M0.out.2.1.c1
            have g0_2 := M0.out.2.1.c2
            go_wp2_with fail
            refine (ret_b (isv_any y.v V0) Q0.out).mono ?_
            rintro _ V1 ⟨rfl, hb⟩
            have M1 : Hid (PrAt V1 w.heap.size x ∧ MpAt V1 W.heap.size y ∧ Below w.heap.size w V1) := ⟨M0.out.1.below hb, M0.out.2.1.below hb, below_over M0.out.2.2 hb⟩
            clear hb f0 f0m f0c f0b g0 g0_0 g0_1 g0_2
            have f1 := M1.out.1.ld
            have f1m := M1.out.1.m
            rw [HV.out.1] at f1m
            have f1c := M1.out.1.c
            rw [HV.out.2.1] at f1c
            have f1b := M1.out.1.b
            rw [HV.out.2.2] at f1b
            have g1 := M1.out.2.1.ld
            have g1_0 := M1.out.2.1.c0
            have g1_1 := M1.out.2.1.c1
            have g1_2 := M1.out.2.1.c2
            go_wp2_with fail
            refine (ret_b (iss_any y.s V1) Q1.out).mono ?_
            rintro _ V2 ⟨rfl, hb⟩
            have M2 : Hid (PrAt V2 w.heap.size x ∧ MpAt V2 W.heap.size y ∧ Below w.heap.size w V2) := ⟨M1.out.1.below hb, M1.out.2.1.below hb, below_over M1.out.2.2 hb⟩
            clear hb f1 f1m f1c f1b g1 g1_0 g1_1 g1_2
            have f2 := M2.out.1.ld
            have f2m := M2.out.1.m
            rw [HV.out.1] at f2m
            have f2c := M2.out.1.c
            rw [HV.out.2.1] at f2c
            have f2b := M2.out.1.b
            rw [HV.out.2.2] at f2b
            have g2 := M2.out.2.1.ld
            have g2_0 := M2.out.2.1.c0
            have g2_1 := M2.out.2.1.c1
            have g2_2 := M2.out.2.1.c2
            go_wp2_with fail
            refine (ret_b (hasp_any x p y.p V2 (H.out.1.below M2.out.2.2)) Q2.out).mono ?_
            rintro _ V3 ⟨rfl, hb⟩
            have M3 : Hid (PrAt V3 w.heap.size x ∧ MpAt V3 W.heap.size y ∧ Below w.heap.size w V3) := ⟨M2.out.1.below hb, M2.out.2.1.below hb, below_over M2.out.2.2 hb⟩
            clear hb f2 f2m f2c f2b g2 g2_0 g2_1 g2_2
            have f3 := M3.out.1.ld
            have f3m := M3.out.1.m
            rw [HV.out.1] at f3m
            have f3c := M3.out.1.c
            rw [HV.out.2.1] at f3c
            have f3b := M3.out.1.b
            rw [HV.out.2.2] at f3b
            have g3 := M3.out.2.1.ld
            have g3_0 := M3.out.2.1.c0
            have g3_1 := M3.out.2.1.c1
            have g3_2 := M3.out.2.1.c2
            go_wp2_with fail
            refine (ret_b (isk_any x p y.p 1 V3 (H.out.1.below M3.out.2.2)) Q3.out).mono ?_
            rintro _ V4 ⟨rfl, hb⟩
            have M4 : Hid (PrAt V4 w.heap.size x ∧ MpAt V4 W.heap.size y ∧ Below w.heap.size w V4) := ⟨M3.out.1.below hb, M3.out.2.1.below hb, below_over M3.out.2.2 hb⟩
            clear hb f3 f3m f3c f3b g3 g3_0 g3_1 g3_2
            have f4 := M4.out.1.ld
            have f4m := M4.out.1.m
            rw [HV.out.1] at f4m
            have f4c := M4.out.1.c
            rw [HV.out.2.1] at f4c
            have f4b := M4.out.1.b
            rw [HV.out.2.2] at f4b
            have g4 := M4.out.2.1.ld
            have g4_0 := M4.out.2.1.c0
            have g4_1 := M4.out.2.1.c1
            have g4_2 := M4.out.2.1.c2
            go_wp2_with fail
            refine (ret_b (taken_any x p y V4 (H.out.1.below M4.out.2.2)) Q4.out).mono ?_
            rintro _ V5 ⟨rfl, hb⟩
            have M5 : Hid (PrAt V5 w.heap.size x ∧ MpAt V5 W.heap.size y ∧ Below w.heap.size w V5) := ⟨M4.out.1.below hb, M4.out.2.1.below hb, below_over M4.out.2.2 hb⟩
            clear hb f4 f4m f4c f4b g4 g4_0 g4_1 g4_2
            have f5 := M5.out.1.ld
            have f5m := M5.out.1.m
            rw [HV.out.1] at f5m
            have f5c := M5.out.1.c
            rw [HV.out.2.1] at f5c
            have f5b := M5.out.1.b
            rw [HV.out.2.2] at f5b
            have g5 := M5.out.2.1.ld
            have g5_0 := M5.out.2.1.c0
            have g5_1 := M5.out.2.1.c1
            have g5_2 := M5.out.2.1.c2
            go_wp2
            go_ret
            exact ⟨ret_int E.out.symm, M5.out.2.2⟩
set_option maxHeartbeats 4000000 in
theorem refC_any (x : Pr) (p : Pv) (y : Cr) (w : World) (h : IsPv w x p) (hl : ∀ m ∈ p.bs, m.ps.length ≤ 1000) :
    Calls Try.prog 19 #[.agg x.cs, .agg y.cs] w fun r w' => r = .returned (.int .i64 (refC p y)) ∧ Below w.heap.size w w' := by
  obtain ⟨ma, mn, mc, mv, ms⟩ := h.m
  obtain ⟨ca, cn, cc, cv, cs⟩ := h.c
  obtain ⟨rr, ⟨ba, bn, bc, bv, bs⟩, bm⟩ := h.b
  obtain ⟨W, hW, m0, bW, zW⟩ := PrAt.new w x
  obtain ⟨V0, hV, m1, bV, zV⟩ := CrAt.new W y
  have M0 : Hid (PrAt V0 w.heap.size x ∧ CrAt V0 W.heap.size y ∧ Below w.heap.size w V0) := ⟨m0.below bV, m1, below_over bW bV⟩
  have H : Hid (IsPv w x p ∧ SlAt eM w ma mn mc p.ms ∧ SlAt eC w ca cn cc p.cs ∧ p.bs.length = bn ∧ ∀ m ∈ p.bs, m.ps.length ≤ 1000) := ⟨h, ms, cs, by rw [← bm.len]; exact bs.len, hl⟩
  have HV : Hid (x.m = .slice ma mn mc ∧ x.c = .slice ca cn cc ∧ x.b = .slice ba bn bc) := ⟨mv, cv, bv⟩
  have i0 := ms.int
  have i1 := cs.int
  have i2 := bs.int
  clear m0 bW zW h ms cs bs bm mv cv bv m1 bV zV hl
  obtain ⟨t0, h0⟩ : ∃ zz, isS y.s = zz := ⟨_, rfl⟩
  have Q0 : Hid (isS y.s = t0) := h0
  clear h0
  cases t0
  · skip
    have E0 : refC p y = 1 := by unfold refC; simp [Q0.out]
    have E : Hid (refC p y = 1) := E0
    clear E0
    go_enter Try.func19, Try.ntmps19
    have f0 := M0.out.1.ld
    have f0m := M0.out.1.m
    rw [HV.out.1] at f0m
    have f0c := M0.out.1.c
    rw [HV.out.2.1] at f0c
    have f0b := M0.out.1.b
    rw [HV.out.2.2] at f0b
    have g0 := M0.out.2.1.ld
    have g0_0 := M0.out.2.1.c0
    have g0_1 := M0.out.2.1.c1
    go_wp2_with fail
    refine (ret_b (iss_any y.s V0) Q0.out).mono ?_
    rintro _ V1 ⟨rfl, hb⟩
    have M1 : Hid (PrAt V1 w.heap.size x ∧ CrAt V1 W.heap.size y ∧ Below w.heap.size w V1) := ⟨M0.out.1.below hb, M0.out.2.1.below hb, below_over M0.out.2.2 hb⟩
    clear hb f0 f0m f0c f0b g0 g0_0 g0_1
    have f1 := M1.out.1.ld
    have f1m := M1.out.1.m
    rw [HV.out.1] at f1m
    have f1c := M1.out.1.c
    rw [HV.out.2.1] at f1c
    have f1b := M1.out.1.b
    rw [HV.out.2.2] at f1b
    have g1 := M1.out.2.1.ld
    have g1_0 := M1.out.2.1.c0
    have g1_1 := M1.out.2.1.c1
    go_wp2
    go_ret
    exact ⟨ret_int E.out.symm, M1.out.2.2⟩
  · skip
    obtain ⟨t1, h1⟩ : ∃ zz, isV y.v = zz := ⟨_, rfl⟩
    have Q1 : Hid (isV y.v = t1) := h1
    clear h1
    cases t1
    · skip
      have E0 : refC p y = 1 := by unfold refC; simp [Q0.out, Q1.out]
      have E : Hid (refC p y = 1) := E0
      clear E0
      go_enter Try.func19, Try.ntmps19
      have f0 := M0.out.1.ld
      have f0m := M0.out.1.m
      rw [HV.out.1] at f0m
      have f0c := M0.out.1.c
      rw [HV.out.2.1] at f0c
      have f0b := M0.out.1.b
      rw [HV.out.2.2] at f0b
      have g0 := M0.out.2.1.ld
      have g0_0 := M0.out.2.1.c0
      have g0_1 := M0.out.2.1.c1
      go_wp2_with fail
      refine (ret_b (iss_any y.s V0) Q0.out).mono ?_
      rintro _ V1 ⟨rfl, hb⟩
      have M1 : Hid (PrAt V1 w.heap.size x ∧ CrAt V1 W.heap.size y ∧ Below w.heap.size w V1) := ⟨M0.out.1.below hb, M0.out.2.1.below hb, below_over M0.out.2.2 hb⟩
      clear hb f0 f0m f0c f0b g0 g0_0 g0_1
      have f1 := M1.out.1.ld
      have f1m := M1.out.1.m
      rw [HV.out.1] at f1m
      have f1c := M1.out.1.c
      rw [HV.out.2.1] at f1c
      have f1b := M1.out.1.b
      rw [HV.out.2.2] at f1b
      have g1 := M1.out.2.1.ld
      have g1_0 := M1.out.2.1.c0
      have g1_1 := M1.out.2.1.c1
      go_wp2_with fail
      refine (ret_b (isv_any y.v V1) Q1.out).mono ?_
      rintro _ V2 ⟨rfl, hb⟩
      have M2 : Hid (PrAt V2 w.heap.size x ∧ CrAt V2 W.heap.size y ∧ Below w.heap.size w V2) := ⟨M1.out.1.below hb, M1.out.2.1.below hb, below_over M1.out.2.2 hb⟩
      clear hb f1 f1m f1c f1b g1 g1_0 g1_1
      have f2 := M2.out.1.ld
      have f2m := M2.out.1.m
      rw [HV.out.1] at f2m
      have f2c := M2.out.1.c
      rw [HV.out.2.1] at f2c
      have f2b := M2.out.1.b
      rw [HV.out.2.2] at f2b
      have g2 := M2.out.2.1.ld
      have g2_0 := M2.out.2.1.c0
      have g2_1 := M2.out.2.1.c1
      go_wp2
      go_ret
      exact ⟨ret_int E.out.symm, M2.out.2.2⟩
    · skip
      obtain ⟨t2, h2⟩ : ∃ zz, (car p y.s).2 = zz := ⟨_, rfl⟩
      have Q2 : Hid ((car p y.s).2 = t2) := h2
      clear h2
      cases t2
      · skip
        obtain ⟨t3, h3⟩ : ∃ zz, (pts p y.v).isSome = zz := ⟨_, rfl⟩
        have Q3 : Hid ((pts p y.v).isSome = t3) := h3
        clear h3
        cases t3
        · skip
          have E0 : refC p y = 182 := by unfold refC; simp [Q0.out, Q1.out, Q2.out, Q3.out]
          have E : Hid (refC p y = 182) := E0
          clear E0
          go_enter Try.func19, Try.ntmps19
          have f0 := M0.out.1.ld
          have f0m := M0.out.1.m
          rw [HV.out.1] at f0m
          have f0c := M0.out.1.c
          rw [HV.out.2.1] at f0c
          have f0b := M0.out.1.b
          rw [HV.out.2.2] at f0b
          have g0 := M0.out.2.1.ld
          have g0_0 := M0.out.2.1.c0
          have g0_1 := M0.out.2.1.c1
          go_wp2_with fail
          refine (ret_b (iss_any y.s V0) Q0.out).mono ?_
          rintro _ V1 ⟨rfl, hb⟩
          have M1 : Hid (PrAt V1 w.heap.size x ∧ CrAt V1 W.heap.size y ∧ Below w.heap.size w V1) := ⟨M0.out.1.below hb, M0.out.2.1.below hb, below_over M0.out.2.2 hb⟩
          clear hb f0 f0m f0c f0b g0 g0_0 g0_1
          have f1 := M1.out.1.ld
          have f1m := M1.out.1.m
          rw [HV.out.1] at f1m
          have f1c := M1.out.1.c
          rw [HV.out.2.1] at f1c
          have f1b := M1.out.1.b
          rw [HV.out.2.2] at f1b
          have g1 := M1.out.2.1.ld
          have g1_0 := M1.out.2.1.c0
          have g1_1 := M1.out.2.1.c1
          go_wp2_with fail
          refine (ret_b (isv_any y.v V1) Q1.out).mono ?_
          rintro _ V2 ⟨rfl, hb⟩
          have M2 : Hid (PrAt V2 w.heap.size x ∧ CrAt V2 W.heap.size y ∧ Below w.heap.size w V2) := ⟨M1.out.1.below hb, M1.out.2.1.below hb, below_over M1.out.2.2 hb⟩
          clear hb f1 f1m f1c f1b g1 g1_0 g1_1
          have f2 := M2.out.1.ld
          have f2m := M2.out.1.m
          rw [HV.out.1] at f2m
          have f2c := M2.out.1.c
          rw [HV.out.2.1] at f2c
          have f2b := M2.out.1.b
          rw [HV.out.2.2] at f2b
          have g2 := M2.out.2.1.ld
          have g2_0 := M2.out.2.1.c0
          have g2_1 := M2.out.2.1.c1
          go_wp2_with fail
          refine (ret_b (isc_any x p y.s V2 (H.out.1.below M2.out.2.2)) Q2.out).mono ?_
          rintro _ V3 ⟨rfl, hb⟩
          have M3 : Hid (PrAt V3 w.heap.size x ∧ CrAt V3 W.heap.size y ∧ Below w.heap.size w V3) := ⟨M2.out.1.below hb, M2.out.2.1.below hb, below_over M2.out.2.2 hb⟩
          clear hb f2 f2m f2c f2b g2 g2_0 g2_1
          have f3 := M3.out.1.ld
          have f3m := M3.out.1.m
          rw [HV.out.1] at f3m
          have f3c := M3.out.1.c
          rw [HV.out.2.1] at f3c
          have f3b := M3.out.1.b
          rw [HV.out.2.2] at f3b
          have g3 := M3.out.2.1.ld
          have g3_0 := M3.out.2.1.c0
          have g3_1 := M3.out.2.1.c1
          go_wp2_with fail
          refine (ret_b (hasm_any x p y.v V3 (H.out.1.below M3.out.2.2) H.out.2.2.2.2) Q3.out).mono ?_
          rintro _ V4 ⟨rfl, hb⟩
          have M4 : Hid (PrAt V4 w.heap.size x ∧ CrAt V4 W.heap.size y ∧ Below w.heap.size w V4) := ⟨M3.out.1.below hb, M3.out.2.1.below hb, below_over M3.out.2.2 hb⟩
          clear hb f3 f3m f3c f3b g3 g3_0 g3_1
          have f4 := M4.out.1.ld
          have f4m := M4.out.1.m
          rw [HV.out.1] at f4m
          have f4c := M4.out.1.c
          rw [HV.out.2.1] at f4c
          have f4b := M4.out.1.b
          rw [HV.out.2.2] at f4b
          have g4 := M4.out.2.1.ld
          have g4_0 := M4.out.2.1.c0
          have g4_1 := M4.out.2.1.c1
          go_wp2
          go_ret
          exact ⟨ret_int E.out.symm, M4.out.2.2⟩
        · skip
          by_cases h4 : 64 ≤ cn
          · have d1 : decide ((cn : Int) ≥ 64) = true := by simp; omega
            have d2 : decide ((64 : Int) ≤ (cn : Int)) = true := by simp; omega
            have Q4 : Hid (64 ≤ p.cs.length) := by rw [H.out.2.2.1.len]; exact h4
            clear h4
            have E0 : refC p y = 3 := by unfold refC; simp [Q0.out, Q1.out, Q2.out, Q3.out, Q4.out]
            have E : Hid (refC p y = 3) := E0
            clear E0
            go_enter Try.func19, Try.ntmps19
            have f0 := M0.out.1.ld
            have f0m := M0.out.1.m
            rw [HV.out.1] at f0m
            have f0c := M0.out.1.c
            rw [HV.out.2.1] at f0c
            have f0b := M0.out.1.b
            rw [HV.out.2.2] at f0b
            have g0 := M0.out.2.1.ld
            have g0_0 := M0.out.2.1.c0
            have g0_1 := M0.out.2.1.c1
            go_wp2_with fail
            refine (ret_b (iss_any y.s V0) Q0.out).mono ?_
            rintro _ V1 ⟨rfl, hb⟩
            have M1 : Hid (PrAt V1 w.heap.size x ∧ CrAt V1 W.heap.size y ∧ Below w.heap.size w V1) := ⟨M0.out.1.below hb, M0.out.2.1.below hb, below_over M0.out.2.2 hb⟩
            clear hb f0 f0m f0c f0b g0 g0_0 g0_1
            have f1 := M1.out.1.ld
            have f1m := M1.out.1.m
            rw [HV.out.1] at f1m
            have f1c := M1.out.1.c
            rw [HV.out.2.1] at f1c
            have f1b := M1.out.1.b
            rw [HV.out.2.2] at f1b
            have g1 := M1.out.2.1.ld
            have g1_0 := M1.out.2.1.c0
            have g1_1 := M1.out.2.1.c1
            go_wp2_with fail
            refine (ret_b (isv_any y.v V1) Q1.out).mono ?_
            rintro _ V2 ⟨rfl, hb⟩
            have M2 : Hid (PrAt V2 w.heap.size x ∧ CrAt V2 W.heap.size y ∧ Below w.heap.size w V2) := ⟨M1.out.1.below hb, M1.out.2.1.below hb, below_over M1.out.2.2 hb⟩
            clear hb f1 f1m f1c f1b g1 g1_0 g1_1
            have f2 := M2.out.1.ld
            have f2m := M2.out.1.m
            rw [HV.out.1] at f2m
            have f2c := M2.out.1.c
            rw [HV.out.2.1] at f2c
            have f2b := M2.out.1.b
            rw [HV.out.2.2] at f2b
            have g2 := M2.out.2.1.ld
            have g2_0 := M2.out.2.1.c0
            have g2_1 := M2.out.2.1.c1
            go_wp2_with fail
            refine (ret_b (isc_any x p y.s V2 (H.out.1.below M2.out.2.2)) Q2.out).mono ?_
            rintro _ V3 ⟨rfl, hb⟩
            have M3 : Hid (PrAt V3 w.heap.size x ∧ CrAt V3 W.heap.size y ∧ Below w.heap.size w V3) := ⟨M2.out.1.below hb, M2.out.2.1.below hb, below_over M2.out.2.2 hb⟩
            clear hb f2 f2m f2c f2b g2 g2_0 g2_1
            have f3 := M3.out.1.ld
            have f3m := M3.out.1.m
            rw [HV.out.1] at f3m
            have f3c := M3.out.1.c
            rw [HV.out.2.1] at f3c
            have f3b := M3.out.1.b
            rw [HV.out.2.2] at f3b
            have g3 := M3.out.2.1.ld
            have g3_0 := M3.out.2.1.c0
            have g3_1 := M3.out.2.1.c1
            go_wp2_with fail
            refine (ret_b (hasm_any x p y.v V3 (H.out.1.below M3.out.2.2) H.out.2.2.2.2) Q3.out).mono ?_
            rintro _ V4 ⟨rfl, hb⟩
            have M4 : Hid (PrAt V4 w.heap.size x ∧ CrAt V4 W.heap.size y ∧ Below w.heap.size w V4) := ⟨M3.out.1.below hb, M3.out.2.1.below hb, below_over M3.out.2.2 hb⟩
            clear hb f3 f3m f3c f3b g3 g3_0 g3_1
            have f4 := M4.out.1.ld
            have f4m := M4.out.1.m
            rw [HV.out.1] at f4m
            have f4c := M4.out.1.c
            rw [HV.out.2.1] at f4c
            have f4b := M4.out.1.b
            rw [HV.out.2.2] at f4b
            have g4 := M4.out.2.1.ld
            have g4_0 := M4.out.2.1.c0
            have g4_1 := M4.out.2.1.c1
            go_wp2
            go_ret
            exact ⟨ret_int E.out.symm, M4.out.2.2⟩
          · have d1 : decide ((cn : Int) ≥ 64) = false := by simp; omega
            have d2 : decide ((64 : Int) ≤ (cn : Int)) = false := by simp; omega
            have Q4 : Hid (¬ 64 ≤ p.cs.length) := by rw [H.out.2.2.1.len]; exact h4
            clear h4
            have E0 : refC p y = 0 := by unfold refC; simp [Q0.out, Q1.out, Q2.out, Q3.out, Q4.out]
            have E : Hid (refC p y = 0) := E0
            clear E0
            go_enter Try.func19, Try.ntmps19
            have f0 := M0.out.1.ld
            have f0m := M0.out.1.m
            rw [HV.out.1] at f0m
            have f0c := M0.out.1.c
            rw [HV.out.2.1] at f0c
            have f0b := M0.out.1.b
            rw [HV.out.2.2] at f0b
            have g0 := M0.out.2.1.ld
            have g0_0 := M0.out.2.1.c0
            have g0_1 := M0.out.2.1.c1
            go_wp2_with fail
            refine (ret_b (iss_any y.s V0) Q0.out).mono ?_
            rintro _ V1 ⟨rfl, hb⟩
            have M1 : Hid (PrAt V1 w.heap.size x ∧ CrAt V1 W.heap.size y ∧ Below w.heap.size w V1) := ⟨M0.out.1.below hb, M0.out.2.1.below hb, below_over M0.out.2.2 hb⟩
            clear hb f0 f0m f0c f0b g0 g0_0 g0_1
            have f1 := M1.out.1.ld
            have f1m := M1.out.1.m
            rw [HV.out.1] at f1m
            have f1c := M1.out.1.c
            rw [HV.out.2.1] at f1c
            have f1b := M1.out.1.b
            rw [HV.out.2.2] at f1b
            have g1 := M1.out.2.1.ld
            have g1_0 := M1.out.2.1.c0
            have g1_1 := M1.out.2.1.c1
            go_wp2_with fail
            refine (ret_b (isv_any y.v V1) Q1.out).mono ?_
            rintro _ V2 ⟨rfl, hb⟩
            have M2 : Hid (PrAt V2 w.heap.size x ∧ CrAt V2 W.heap.size y ∧ Below w.heap.size w V2) := ⟨M1.out.1.below hb, M1.out.2.1.below hb, below_over M1.out.2.2 hb⟩
            clear hb f1 f1m f1c f1b g1 g1_0 g1_1
            have f2 := M2.out.1.ld
            have f2m := M2.out.1.m
            rw [HV.out.1] at f2m
            have f2c := M2.out.1.c
            rw [HV.out.2.1] at f2c
            have f2b := M2.out.1.b
            rw [HV.out.2.2] at f2b
            have g2 := M2.out.2.1.ld
            have g2_0 := M2.out.2.1.c0
            have g2_1 := M2.out.2.1.c1
            go_wp2_with fail
            refine (ret_b (isc_any x p y.s V2 (H.out.1.below M2.out.2.2)) Q2.out).mono ?_
            rintro _ V3 ⟨rfl, hb⟩
            have M3 : Hid (PrAt V3 w.heap.size x ∧ CrAt V3 W.heap.size y ∧ Below w.heap.size w V3) := ⟨M2.out.1.below hb, M2.out.2.1.below hb, below_over M2.out.2.2 hb⟩
            clear hb f2 f2m f2c f2b g2 g2_0 g2_1
            have f3 := M3.out.1.ld
            have f3m := M3.out.1.m
            rw [HV.out.1] at f3m
            have f3c := M3.out.1.c
            rw [HV.out.2.1] at f3c
            have f3b := M3.out.1.b
            rw [HV.out.2.2] at f3b
            have g3 := M3.out.2.1.ld
            have g3_0 := M3.out.2.1.c0
            have g3_1 := M3.out.2.1.c1
            go_wp2_with fail
            refine (ret_b (hasm_any x p y.v V3 (H.out.1.below M3.out.2.2) H.out.2.2.2.2) Q3.out).mono ?_
            rintro _ V4 ⟨rfl, hb⟩
            have M4 : Hid (PrAt V4 w.heap.size x ∧ CrAt V4 W.heap.size y ∧ Below w.heap.size w V4) := ⟨M3.out.1.below hb, M3.out.2.1.below hb, below_over M3.out.2.2 hb⟩
            clear hb f3 f3m f3c f3b g3 g3_0 g3_1
            have f4 := M4.out.1.ld
            have f4m := M4.out.1.m
            rw [HV.out.1] at f4m
            have f4c := M4.out.1.c
            rw [HV.out.2.1] at f4c
            have f4b := M4.out.1.b
            rw [HV.out.2.2] at f4b
            have g4 := M4.out.2.1.ld
            have g4_0 := M4.out.2.1.c0
            have g4_1 := M4.out.2.1.c1
            go_wp2
            go_ret
            exact ⟨ret_int E.out.symm, M4.out.2.2⟩
      · skip
        have E0 : refC p y = 181 := by unfold refC; simp [Q0.out, Q1.out, Q2.out]
        have E : Hid (refC p y = 181) := E0
        clear E0
        go_enter Try.func19, Try.ntmps19
        have f0 := M0.out.1.ld
        have f0m := M0.out.1.m
        rw [HV.out.1] at f0m
        have f0c := M0.out.1.c
        rw [HV.out.2.1] at f0c
        have f0b := M0.out.1.b
        rw [HV.out.2.2] at f0b
        have g0 := M0.out.2.1.ld
        have g0_0 := M0.out.2.1.c0
        have g0_1 := M0.out.2.1.c1
        go_wp2_with fail
        refine (ret_b (iss_any y.s V0) Q0.out).mono ?_
        rintro _ V1 ⟨rfl, hb⟩
        have M1 : Hid (PrAt V1 w.heap.size x ∧ CrAt V1 W.heap.size y ∧ Below w.heap.size w V1) := ⟨M0.out.1.below hb, M0.out.2.1.below hb, below_over M0.out.2.2 hb⟩
        clear hb f0 f0m f0c f0b g0 g0_0 g0_1
        have f1 := M1.out.1.ld
        have f1m := M1.out.1.m
        rw [HV.out.1] at f1m
        have f1c := M1.out.1.c
        rw [HV.out.2.1] at f1c
        have f1b := M1.out.1.b
        rw [HV.out.2.2] at f1b
        have g1 := M1.out.2.1.ld
        have g1_0 := M1.out.2.1.c0
        have g1_1 := M1.out.2.1.c1
        go_wp2_with fail
        refine (ret_b (isv_any y.v V1) Q1.out).mono ?_
        rintro _ V2 ⟨rfl, hb⟩
        have M2 : Hid (PrAt V2 w.heap.size x ∧ CrAt V2 W.heap.size y ∧ Below w.heap.size w V2) := ⟨M1.out.1.below hb, M1.out.2.1.below hb, below_over M1.out.2.2 hb⟩
        clear hb f1 f1m f1c f1b g1 g1_0 g1_1
        have f2 := M2.out.1.ld
        have f2m := M2.out.1.m
        rw [HV.out.1] at f2m
        have f2c := M2.out.1.c
        rw [HV.out.2.1] at f2c
        have f2b := M2.out.1.b
        rw [HV.out.2.2] at f2b
        have g2 := M2.out.2.1.ld
        have g2_0 := M2.out.2.1.c0
        have g2_1 := M2.out.2.1.c1
        go_wp2_with fail
        refine (ret_b (isc_any x p y.s V2 (H.out.1.below M2.out.2.2)) Q2.out).mono ?_
        rintro _ V3 ⟨rfl, hb⟩
        have M3 : Hid (PrAt V3 w.heap.size x ∧ CrAt V3 W.heap.size y ∧ Below w.heap.size w V3) := ⟨M2.out.1.below hb, M2.out.2.1.below hb, below_over M2.out.2.2 hb⟩
        clear hb f2 f2m f2c f2b g2 g2_0 g2_1
        have f3 := M3.out.1.ld
        have f3m := M3.out.1.m
        rw [HV.out.1] at f3m
        have f3c := M3.out.1.c
        rw [HV.out.2.1] at f3c
        have f3b := M3.out.1.b
        rw [HV.out.2.2] at f3b
        have g3 := M3.out.2.1.ld
        have g3_0 := M3.out.2.1.c0
        have g3_1 := M3.out.2.1.c1
        go_wp2
        go_ret
        exact ⟨ret_int E.out.symm, M3.out.2.2⟩
set_option maxHeartbeats 4000000 in
theorem keepC_any (x : Pr) (p : Pv) (y : Cr) (w : World) (h : IsPv w x p) (hl : p.ms.length ≤ 100) :
    Calls Try.prog 22 #[.agg x.cs, .agg y.cs] w fun r w' => r = .returned (.int .i64 (keepC p y)) ∧ Below w.heap.size w w' := by
  obtain ⟨ma, mn, mc, mv, ms⟩ := h.m
  obtain ⟨ca, cn, cc, cv, cs⟩ := h.c
  obtain ⟨rr, ⟨ba, bn, bc, bv, bs⟩, bm⟩ := h.b
  obtain ⟨W, hW, m0, bW, zW⟩ := PrAt.new w x
  obtain ⟨V0, hV, m1, bV, zV⟩ := CrAt.new W y
  have M0 : Hid (PrAt V0 w.heap.size x ∧ CrAt V0 W.heap.size y ∧ Below w.heap.size w V0) := ⟨m0.below bV, m1, below_over bW bV⟩
  have H : Hid (IsPv w x p ∧ SlAt eM w ma mn mc p.ms ∧ SlAt eC w ca cn cc p.cs ∧ p.bs.length = bn ∧ p.ms.length ≤ 100) := ⟨h, ms, cs, by rw [← bm.len]; exact bs.len, hl⟩
  have HV : Hid (x.m = .slice ma mn mc ∧ x.c = .slice ca cn cc ∧ x.b = .slice ba bn bc) := ⟨mv, cv, bv⟩
  have i0 := ms.int
  have i1 := cs.int
  have i2 := bs.int
  clear m0 bW zW h ms cs bs bm mv cv bv m1 bV zV hl
  obtain ⟨t0, h0⟩ : ∃ zz, p.cs.any (eqC · y) = zz := ⟨_, rfl⟩
  have Q0 : Hid (p.cs.any (eqC · y) = t0) := h0
  clear h0
  cases t0
  · skip
    have E0 : keepC p y = 182 := by unfold keepC; simp [Q0.out]
    have E : Hid (keepC p y = 182) := E0
    clear E0
    go_enter Try.func22, Try.ntmps22
    have f0 := M0.out.1.ld
    have f0m := M0.out.1.m
    rw [HV.out.1] at f0m
    have f0c := M0.out.1.c
    rw [HV.out.2.1] at f0c
    have f0b := M0.out.1.b
    rw [HV.out.2.2] at f0b
    have g0 := M0.out.2.1.ld
    have g0_0 := M0.out.2.1.c0
    have g0_1 := M0.out.2.1.c1
    go_wp2_with fail
    refine (ret_b (hasC_any ca cn cc p.cs y V0 (H.out.2.2.1.below M0.out.2.2)) Q0.out).mono ?_
    rintro _ V1 ⟨rfl, hb⟩
    have M1 : Hid (PrAt V1 w.heap.size x ∧ CrAt V1 W.heap.size y ∧ Below w.heap.size w V1) := ⟨M0.out.1.below hb, M0.out.2.1.below hb, below_over M0.out.2.2 hb⟩
    clear hb f0 f0m f0c f0b g0 g0_0 g0_1
    have f1 := M1.out.1.ld
    have f1m := M1.out.1.m
    rw [HV.out.1] at f1m
    have f1c := M1.out.1.c
    rw [HV.out.2.1] at f1c
    have f1b := M1.out.1.b
    rw [HV.out.2.2] at f1b
    have g1 := M1.out.2.1.ld
    have g1_0 := M1.out.2.1.c0
    have g1_1 := M1.out.2.1.c1
    go_wp2
    go_ret
    exact ⟨ret_int E.out.symm, M1.out.2.2⟩
  · skip
    obtain ⟨nn, hn⟩ : ∃ zz, (att p y.s).length = zz := ⟨_, rfl⟩
    have N1 : Hid ((att p y.s).length = nn) := hn
    by_cases h1 : 0 < nn
    · have Q1 : Hid (0 < (att p y.s).length) := by rw [hn]; exact h1
      have E0 : keepC p y = 183 := by unfold keepC; rw [if_pos Q1.out]; simp [Q0.out]
      have E : Hid (keepC p y = 183) := E0
      clear E0 hn
      go_enter Try.func22, Try.ntmps22
      have f0 := M0.out.1.ld
      have f0m := M0.out.1.m
      rw [HV.out.1] at f0m
      have f0c := M0.out.1.c
      rw [HV.out.2.1] at f0c
      have f0b := M0.out.1.b
      rw [HV.out.2.2] at f0b
      have g0 := M0.out.2.1.ld
      have g0_0 := M0.out.2.1.c0
      have g0_1 := M0.out.2.1.c1
      go_wp2_with fail
      refine (ret_b (hasC_any ca cn cc p.cs y V0 (H.out.2.2.1.below M0.out.2.2)) Q0.out).mono ?_
      rintro _ V1 ⟨rfl, hb⟩
      have M1 : Hid (PrAt V1 w.heap.size x ∧ CrAt V1 W.heap.size y ∧ Below w.heap.size w V1) := ⟨M0.out.1.below hb, M0.out.2.1.below hb, below_over M0.out.2.2 hb⟩
      clear hb f0 f0m f0c f0b g0 g0_0 g0_1
      have f1 := M1.out.1.ld
      have f1m := M1.out.1.m
      rw [HV.out.1] at f1m
      have f1c := M1.out.1.c
      rw [HV.out.2.1] at f1c
      have f1b := M1.out.1.b
      rw [HV.out.2.2] at f1b
      have g1 := M1.out.2.1.ld
      have g1_0 := M1.out.2.1.c0
      have g1_1 := M1.out.2.1.c1
      go_wp2_with fail
      refine (att_any x p y.s V1 (H.out.1.below M1.out.2.2) H.out.2.2.2.2).mono ?_
      rintro _ V2 ⟨⟨vv, rfl, ov⟩, hb⟩
      obtain ⟨va, vc, rfl, _, _⟩ := ov.form
      rw [N1.out]
      clear ov
      have M2 : Hid (PrAt V2 w.heap.size x ∧ CrAt V2 W.heap.size y ∧ Below w.heap.size w V2) := ⟨M1.out.1.below hb, M1.out.2.1.below hb, below_over M1.out.2.2 hb⟩
      clear hb f1 f1m f1c f1b g1 g1_0 g1_1
      have f2 := M2.out.1.ld
      have f2m := M2.out.1.m
      rw [HV.out.1] at f2m
      have f2c := M2.out.1.c
      rw [HV.out.2.1] at f2c
      have f2b := M2.out.1.b
      rw [HV.out.2.2] at f2b
      have g2 := M2.out.2.1.ld
      have g2_0 := M2.out.2.1.c0
      have g2_1 := M2.out.2.1.c1
      go_wp2
      go_ret
      exact ⟨ret_int E.out.symm, M2.out.2.2⟩
    · have Q1 : Hid (¬ 0 < (att p y.s).length) := by rw [hn]; exact h1
      have E0 : keepC p y = 0 := by unfold keepC; rw [if_neg Q1.out]; simp [Q0.out]
      have E : Hid (keepC p y = 0) := E0
      have hz : nn = 0 := by omega
      subst hz
      clear E0 hn h1
      go_enter Try.func22, Try.ntmps22
      have f0 := M0.out.1.ld
      have f0m := M0.out.1.m
      rw [HV.out.1] at f0m
      have f0c := M0.out.1.c
      rw [HV.out.2.1] at f0c
      have f0b := M0.out.1.b
      rw [HV.out.2.2] at f0b
      have g0 := M0.out.2.1.ld
      have g0_0 := M0.out.2.1.c0
      have g0_1 := M0.out.2.1.c1
      go_wp2_with fail
      refine (ret_b (hasC_any ca cn cc p.cs y V0 (H.out.2.2.1.below M0.out.2.2)) Q0.out).mono ?_
      rintro _ V1 ⟨rfl, hb⟩
      have M1 : Hid (PrAt V1 w.heap.size x ∧ CrAt V1 W.heap.size y ∧ Below w.heap.size w V1) := ⟨M0.out.1.below hb, M0.out.2.1.below hb, below_over M0.out.2.2 hb⟩
      clear hb f0 f0m f0c f0b g0 g0_0 g0_1
      have f1 := M1.out.1.ld
      have f1m := M1.out.1.m
      rw [HV.out.1] at f1m
      have f1c := M1.out.1.c
      rw [HV.out.2.1] at f1c
      have f1b := M1.out.1.b
      rw [HV.out.2.2] at f1b
      have g1 := M1.out.2.1.ld
      have g1_0 := M1.out.2.1.c0
      have g1_1 := M1.out.2.1.c1
      go_wp2_with fail
      refine (att_any x p y.s V1 (H.out.1.below M1.out.2.2) H.out.2.2.2.2).mono ?_
      rintro _ V2 ⟨⟨vv, rfl, ov⟩, hb⟩
      obtain ⟨va, vc, rfl, _, _⟩ := ov.form
      rw [N1.out]
      clear ov
      have M2 : Hid (PrAt V2 w.heap.size x ∧ CrAt V2 W.heap.size y ∧ Below w.heap.size w V2) := ⟨M1.out.1.below hb, M1.out.2.1.below hb, below_over M1.out.2.2 hb⟩
      clear hb f1 f1m f1c f1b g1 g1_0 g1_1
      have f2 := M2.out.1.ld
      have f2m := M2.out.1.m
      rw [HV.out.1] at f2m
      have f2c := M2.out.1.c
      rw [HV.out.2.1] at f2c
      have f2b := M2.out.1.b
      rw [HV.out.2.2] at f2b
      have g2 := M2.out.2.1.ld
      have g2_0 := M2.out.2.1.c0
      have g2_1 := M2.out.2.1.c1
      go_wp2
      go_ret
      exact ⟨ret_int E.out.symm, M2.out.2.2⟩
set_option maxHeartbeats 4000000 in
theorem keepB_any (x : Pr) (p : Pv) (y : Int) (w : World) (h : IsPv w x p) (hl : (∀ m ∈ p.bs, m.ps.length ≤ 1000) ∧ p.cs.length ≤ 100) :
    Calls Try.prog 28 #[.agg x.cs, .int .i64 y] w fun r w' => r = .returned (.int .i64 (keepB p y)) ∧ Below w.heap.size w w' := by
  obtain ⟨ma, mn, mc, mv, ms⟩ := h.m
  obtain ⟨ca, cn, cc, cv, cs⟩ := h.c
  obtain ⟨rr, ⟨ba, bn, bc, bv, bs⟩, bm⟩ := h.b
  obtain ⟨W, hW, m0, bW, zW⟩ := PrAt.new w x
  obtain ⟨V0, hV0⟩ : ∃ z, W = z := ⟨_, rfl⟩
  rw [hV0] at hW m0 bW
  have M0 : Hid (PrAt V0 w.heap.size x ∧ True ∧ Below w.heap.size w V0) := ⟨m0, trivial, bW⟩
  have H : Hid (IsPv w x p ∧ SlAt eM w ma mn mc p.ms ∧ SlAt eC w ca cn cc p.cs ∧ p.bs.length = bn ∧ (∀ m ∈ p.bs, m.ps.length ≤ 1000) ∧ p.cs.length ≤ 100) := ⟨h, ms, cs, by rw [← bm.len]; exact bs.len, hl⟩
  have HV : Hid (x.m = .slice ma mn mc ∧ x.c = .slice ca cn cc ∧ x.b = .slice ba bn bc) := ⟨mv, cv, bv⟩
  have i0 := ms.int
  have i1 := cs.int
  have i2 := bs.int
  clear m0 bW zW h ms cs bs bm mv cv bv hV0 hl
  obtain ⟨t0, h0⟩ : ∃ zz, (pts p y).isSome = zz := ⟨_, rfl⟩
  have Q0 : Hid ((pts p y).isSome = t0) := h0
  clear h0
  cases t0
  · skip
    have E0 : keepB p y = 182 := by unfold keepB; simp [Q0.out]
    have E : Hid (keepB p y = 182) := E0
    clear E0
    go_enter Try.func28, Try.ntmps28
    have f0 := M0.out.1.ld
    have f0m := M0.out.1.m
    rw [HV.out.1] at f0m
    have f0c := M0.out.1.c
    rw [HV.out.2.1] at f0c
    have f0b := M0.out.1.b
    rw [HV.out.2.2] at f0b
    go_wp2_with fail
    refine (ret_b (hasm_any x p y V0 (H.out.1.below M0.out.2.2) H.out.2.2.2.2.1) Q0.out).mono ?_
    rintro _ V1 ⟨rfl, hb⟩
    have M1 : Hid (PrAt V1 w.heap.size x ∧ True ∧ Below w.heap.size w V1) := ⟨M0.out.1.below hb, trivial, below_over M0.out.2.2 hb⟩
    clear hb f0 f0m f0c f0b
    have f1 := M1.out.1.ld
    have f1m := M1.out.1.m
    rw [HV.out.1] at f1m
    have f1c := M1.out.1.c
    rw [HV.out.2.1] at f1c
    have f1b := M1.out.1.b
    rw [HV.out.2.2] at f1b
    go_wp2
    go_ret
    exact ⟨ret_int E.out.symm, M1.out.2.2⟩
  · skip
    obtain ⟨nn, hn⟩ : ∃ zz, (svs p y).length = zz := ⟨_, rfl⟩
    have N1 : Hid ((svs p y).length = nn) := hn
    by_cases h1 : 0 < nn
    · have Q1 : Hid (0 < (svs p y).length) := by rw [hn]; exact h1
      have E0 : keepB p y = 183 := by unfold keepB; rw [if_pos Q1.out]; simp [Q0.out]
      have E : Hid (keepB p y = 183) := E0
      clear E0 hn
      go_enter Try.func28, Try.ntmps28
      have f0 := M0.out.1.ld
      have f0m := M0.out.1.m
      rw [HV.out.1] at f0m
      have f0c := M0.out.1.c
      rw [HV.out.2.1] at f0c
      have f0b := M0.out.1.b
      rw [HV.out.2.2] at f0b
      go_wp2_with fail
      refine (ret_b (hasm_any x p y V0 (H.out.1.below M0.out.2.2) H.out.2.2.2.2.1) Q0.out).mono ?_
      rintro _ V1 ⟨rfl, hb⟩
      have M1 : Hid (PrAt V1 w.heap.size x ∧ True ∧ Below w.heap.size w V1) := ⟨M0.out.1.below hb, trivial, below_over M0.out.2.2 hb⟩
      clear hb f0 f0m f0c f0b
      have f1 := M1.out.1.ld
      have f1m := M1.out.1.m
      rw [HV.out.1] at f1m
      have f1c := M1.out.1.c
      rw [HV.out.2.1] at f1c
      have f1b := M1.out.1.b
      rw [HV.out.2.2] at f1b
      go_wp2_with fail
      refine (svs_any x p y V1 (H.out.1.below M1.out.2.2) H.out.2.2.2.2.2).mono ?_
      rintro _ V2 ⟨⟨vv, rfl, ov⟩, hb⟩
      obtain ⟨va, vc, rfl, _, _⟩ := ov.form
      rw [N1.out]
      clear ov
      have M2 : Hid (PrAt V2 w.heap.size x ∧ True ∧ Below w.heap.size w V2) := ⟨M1.out.1.below hb, trivial, below_over M1.out.2.2 hb⟩
      clear hb f1 f1m f1c f1b
      have f2 := M2.out.1.ld
      have f2m := M2.out.1.m
      rw [HV.out.1] at f2m
      have f2c := M2.out.1.c
      rw [HV.out.2.1] at f2c
      have f2b := M2.out.1.b
      rw [HV.out.2.2] at f2b
      go_wp2
      go_ret
      exact ⟨ret_int E.out.symm, M2.out.2.2⟩
    · have Q1 : Hid (¬ 0 < (svs p y).length) := by rw [hn]; exact h1
      have E0 : keepB p y = 0 := by unfold keepB; rw [if_neg Q1.out]; simp [Q0.out]
      have E : Hid (keepB p y = 0) := E0
      have hz : nn = 0 := by omega
      subst hz
      clear E0 hn h1
      go_enter Try.func28, Try.ntmps28
      have f0 := M0.out.1.ld
      have f0m := M0.out.1.m
      rw [HV.out.1] at f0m
      have f0c := M0.out.1.c
      rw [HV.out.2.1] at f0c
      have f0b := M0.out.1.b
      rw [HV.out.2.2] at f0b
      go_wp2_with fail
      refine (ret_b (hasm_any x p y V0 (H.out.1.below M0.out.2.2) H.out.2.2.2.2.1) Q0.out).mono ?_
      rintro _ V1 ⟨rfl, hb⟩
      have M1 : Hid (PrAt V1 w.heap.size x ∧ True ∧ Below w.heap.size w V1) := ⟨M0.out.1.below hb, trivial, below_over M0.out.2.2 hb⟩
      clear hb f0 f0m f0c f0b
      have f1 := M1.out.1.ld
      have f1m := M1.out.1.m
      rw [HV.out.1] at f1m
      have f1c := M1.out.1.c
      rw [HV.out.2.1] at f1c
      have f1b := M1.out.1.b
      rw [HV.out.2.2] at f1b
      go_wp2_with fail
      refine (svs_any x p y V1 (H.out.1.below M1.out.2.2) H.out.2.2.2.2.2).mono ?_
      rintro _ V2 ⟨⟨vv, rfl, ov⟩, hb⟩
      obtain ⟨va, vc, rfl, _, _⟩ := ov.form
      rw [N1.out]
      clear ov
      have M2 : Hid (PrAt V2 w.heap.size x ∧ True ∧ Below w.heap.size w V2) := ⟨M1.out.1.below hb, trivial, below_over M1.out.2.2 hb⟩
      clear hb f1 f1m f1c f1b
      have f2 := M2.out.1.ld
      have f2m := M2.out.1.m
      rw [HV.out.1] at f2m
      have f2c := M2.out.1.c
      rw [HV.out.2.1] at f2c
      have f2b := M2.out.1.b
      rw [HV.out.2.2] at f2b
      go_wp2
      go_ret
      exact ⟨ret_int E.out.symm, M2.out.2.2⟩
set_option maxHeartbeats 4000000 in
theorem refB_any (x : Pr) (p : Pv) (y : Mr) (l : List Int) (w : World) (h : IsPv w x p) (hl : (∀ m ∈ p.bs, m.ps.length ≤ 1000) ∧ SlAt eI w y.a y.n y.c l) :
    Calls Try.prog 24 #[.agg x.cs, .agg y.cs] w fun r w' => r = .returned (.int .i64 (refB p ⟨y.v, l⟩)) ∧ Below w.heap.size w w' := by
  obtain ⟨ma, mn, mc, mv, ms⟩ := h.m
  obtain ⟨ca, cn, cc, cv, cs⟩ := h.c
  obtain ⟨rr, ⟨ba, bn, bc, bv, bs⟩, bm⟩ := h.b
  obtain ⟨W, hW, m0, bW, zW⟩ := PrAt.new w x
  obtain ⟨V0, hV, m1, bV, zV⟩ := MrAt.new W y
  have M0 : Hid (PrAt V0 w.heap.size x ∧ MrAt V0 W.heap.size y ∧ Below w.heap.size w V0) := ⟨m0.below bV, m1, below_over bW bV⟩
  have H : Hid (IsPv w x p ∧ SlAt eM w ma mn mc p.ms ∧ SlAt eC w ca cn cc p.cs ∧ p.bs.length = bn ∧ (∀ m ∈ p.bs, m.ps.length ≤ 1000) ∧ SlAt eI w y.a y.n y.c l) := ⟨h, ms, cs, by rw [← bm.len]; exact bs.len, hl⟩
  have HV : Hid (x.m = .slice ma mn mc ∧ x.c = .slice ca cn cc ∧ x.b = .slice ba bn bc) := ⟨mv, cv, bv⟩
  have i0 := ms.int
  have i1 := cs.int
  have i2 := bs.int
  clear m0 bW zW h ms cs bs bm mv cv bv m1 bV zV hl
  obtain ⟨t0, h0⟩ : ∃ zz, isV y.v = zz := ⟨_, rfl⟩
  have Q0 : Hid (isV y.v = t0) := h0
  clear h0
  cases t0
  · skip
    have E0 : refB p ⟨y.v, l⟩ = 1 := by unfold refB; simp [Q0.out]
    have E : Hid (refB p ⟨y.v, l⟩ = 1) := E0
    clear E0
    go_enter Try.func24, Try.ntmps24
    have f0 := M0.out.1.ld
    have f0m := M0.out.1.m
    rw [HV.out.1] at f0m
    have f0c := M0.out.1.c
    rw [HV.out.2.1] at f0c
    have f0b := M0.out.1.b
    rw [HV.out.2.2] at f0b
    have g0 := M0.out.2.1.ld
    have g0_0 := M0.out.2.1.c0
    have g0_1 := M0.out.2.1.c1
    go_wp2_with fail
    refine (ret_b (isv_any y.v V0) Q0.out).mono ?_
    rintro _ V1 ⟨rfl, hb⟩
    have M1 : Hid (PrAt V1 w.heap.size x ∧ MrAt V1 W.heap.size y ∧ Below w.heap.size w V1) := ⟨M0.out.1.below hb, M0.out.2.1.below hb, below_over M0.out.2.2 hb⟩
    clear hb f0 f0m f0c f0b g0 g0_0 g0_1
    have f1 := M1.out.1.ld
    have f1m := M1.out.1.m
    rw [HV.out.1] at f1m
    have f1c := M1.out.1.c
    rw [HV.out.2.1] at f1c
    have f1b := M1.out.1.b
    rw [HV.out.2.2] at f1b
    have g1 := M1.out.2.1.ld
    have g1_0 := M1.out.2.1.c0
    have g1_1 := M1.out.2.1.c1
    go_wp2
    go_ret
    exact ⟨ret_int E.out.symm, M1.out.2.2⟩
  · skip
    obtain ⟨t1, h1⟩ : ∃ zz, ris ltI l = zz := ⟨_, rfl⟩
    have Q1 : Hid (ris ltI l = t1) := h1
    clear h1
    cases t1
    · skip
      have E0 : refB p ⟨y.v, l⟩ = 1 := by unfold refB; simp [Q0.out, Q1.out]
      have E : Hid (refB p ⟨y.v, l⟩ = 1) := E0
      clear E0
      go_enter Try.func24, Try.ntmps24
      have f0 := M0.out.1.ld
      have f0m := M0.out.1.m
      rw [HV.out.1] at f0m
      have f0c := M0.out.1.c
      rw [HV.out.2.1] at f0c
      have f0b := M0.out.1.b
      rw [HV.out.2.2] at f0b
      have g0 := M0.out.2.1.ld
      have g0_0 := M0.out.2.1.c0
      have g0_1 := M0.out.2.1.c1
      go_wp2_with fail
      refine (ret_b (isv_any y.v V0) Q0.out).mono ?_
      rintro _ V1 ⟨rfl, hb⟩
      have M1 : Hid (PrAt V1 w.heap.size x ∧ MrAt V1 W.heap.size y ∧ Below w.heap.size w V1) := ⟨M0.out.1.below hb, M0.out.2.1.below hb, below_over M0.out.2.2 hb⟩
      clear hb f0 f0m f0c f0b g0 g0_0 g0_1
      have f1 := M1.out.1.ld
      have f1m := M1.out.1.m
      rw [HV.out.1] at f1m
      have f1c := M1.out.1.c
      rw [HV.out.2.1] at f1c
      have f1b := M1.out.1.b
      rw [HV.out.2.2] at f1b
      have g1 := M1.out.2.1.ld
      have g1_0 := M1.out.2.1.c0
      have g1_1 := M1.out.2.1.c1
      go_wp2_with fail
      refine (ret_b (risI_any y.a y.n y.c l V1 (H.out.2.2.2.2.2.below M1.out.2.2)) Q1.out).mono ?_
      rintro _ V2 ⟨rfl, hb⟩
      have M2 : Hid (PrAt V2 w.heap.size x ∧ MrAt V2 W.heap.size y ∧ Below w.heap.size w V2) := ⟨M1.out.1.below hb, M1.out.2.1.below hb, below_over M1.out.2.2 hb⟩
      clear hb f1 f1m f1c f1b g1 g1_0 g1_1
      have f2 := M2.out.1.ld
      have f2m := M2.out.1.m
      rw [HV.out.1] at f2m
      have f2c := M2.out.1.c
      rw [HV.out.2.1] at f2c
      have f2b := M2.out.1.b
      rw [HV.out.2.2] at f2b
      have g2 := M2.out.2.1.ld
      have g2_0 := M2.out.2.1.c0
      have g2_1 := M2.out.2.1.c1
      go_wp2
      go_ret
      exact ⟨ret_int E.out.symm, M2.out.2.2⟩
    · skip
      obtain ⟨t2, h2⟩ : ∃ zz, l.all (hasP p) = zz := ⟨_, rfl⟩
      have Q2 : Hid (l.all (hasP p) = t2) := h2
      clear h2
      cases t2
      · skip
        have E0 : refB p ⟨y.v, l⟩ = 5 := by unfold refB; simp [Q0.out, Q1.out, Q2.out]
        have E : Hid (refB p ⟨y.v, l⟩ = 5) := E0
        clear E0
        go_enter Try.func24, Try.ntmps24
        have f0 := M0.out.1.ld
        have f0m := M0.out.1.m
        rw [HV.out.1] at f0m
        have f0c := M0.out.1.c
        rw [HV.out.2.1] at f0c
        have f0b := M0.out.1.b
        rw [HV.out.2.2] at f0b
        have g0 := M0.out.2.1.ld
        have g0_0 := M0.out.2.1.c0
        have g0_1 := M0.out.2.1.c1
        go_wp2_with fail
        refine (ret_b (isv_any y.v V0) Q0.out).mono ?_
        rintro _ V1 ⟨rfl, hb⟩
        have M1 : Hid (PrAt V1 w.heap.size x ∧ MrAt V1 W.heap.size y ∧ Below w.heap.size w V1) := ⟨M0.out.1.below hb, M0.out.2.1.below hb, below_over M0.out.2.2 hb⟩
        clear hb f0 f0m f0c f0b g0 g0_0 g0_1
        have f1 := M1.out.1.ld
        have f1m := M1.out.1.m
        rw [HV.out.1] at f1m
        have f1c := M1.out.1.c
        rw [HV.out.2.1] at f1c
        have f1b := M1.out.1.b
        rw [HV.out.2.2] at f1b
        have g1 := M1.out.2.1.ld
        have g1_0 := M1.out.2.1.c0
        have g1_1 := M1.out.2.1.c1
        go_wp2_with fail
        refine (ret_b (risI_any y.a y.n y.c l V1 (H.out.2.2.2.2.2.below M1.out.2.2)) Q1.out).mono ?_
        rintro _ V2 ⟨rfl, hb⟩
        have M2 : Hid (PrAt V2 w.heap.size x ∧ MrAt V2 W.heap.size y ∧ Below w.heap.size w V2) := ⟨M1.out.1.below hb, M1.out.2.1.below hb, below_over M1.out.2.2 hb⟩
        clear hb f1 f1m f1c f1b g1 g1_0 g1_1
        have f2 := M2.out.1.ld
        have f2m := M2.out.1.m
        rw [HV.out.1] at f2m
        have f2c := M2.out.1.c
        rw [HV.out.2.1] at f2c
        have f2b := M2.out.1.b
        rw [HV.out.2.2] at f2b
        have g2 := M2.out.2.1.ld
        have g2_0 := M2.out.2.1.c0
        have g2_1 := M2.out.2.1.c1
        go_wp2_with fail
        refine (ret_b (allt_any x p y.a y.n y.c l V2 (H.out.1.below M2.out.2.2) (H.out.2.2.2.2.2.below M2.out.2.2)) Q2.out).mono ?_
        rintro _ V3 ⟨rfl, hb⟩
        have M3 : Hid (PrAt V3 w.heap.size x ∧ MrAt V3 W.heap.size y ∧ Below w.heap.size w V3) := ⟨M2.out.1.below hb, M2.out.2.1.below hb, below_over M2.out.2.2 hb⟩
        clear hb f2 f2m f2c f2b g2 g2_0 g2_1
        have f3 := M3.out.1.ld
        have f3m := M3.out.1.m
        rw [HV.out.1] at f3m
        have f3c := M3.out.1.c
        rw [HV.out.2.1] at f3c
        have f3b := M3.out.1.b
        rw [HV.out.2.2] at f3b
        have g3 := M3.out.2.1.ld
        have g3_0 := M3.out.2.1.c0
        have g3_1 := M3.out.2.1.c1
        go_wp2
        go_ret
        exact ⟨ret_int E.out.symm, M3.out.2.2⟩
      · skip
        obtain ⟨t3, h3⟩ : ∃ zz, l.all (fun i => isK p i 2) = zz := ⟨_, rfl⟩
        have Q3 : Hid (l.all (fun i => isK p i 2) = t3) := h3
        clear h3
        cases t3
        · skip
          have E0 : refB p ⟨y.v, l⟩ = 184 := by unfold refB; simp [Q0.out, Q1.out, Q2.out, Q3.out]
          have E : Hid (refB p ⟨y.v, l⟩ = 184) := E0
          clear E0
          go_enter Try.func24, Try.ntmps24
          have f0 := M0.out.1.ld
          have f0m := M0.out.1.m
          rw [HV.out.1] at f0m
          have f0c := M0.out.1.c
          rw [HV.out.2.1] at f0c
          have f0b := M0.out.1.b
          rw [HV.out.2.2] at f0b
          have g0 := M0.out.2.1.ld
          have g0_0 := M0.out.2.1.c0
          have g0_1 := M0.out.2.1.c1
          go_wp2_with fail
          refine (ret_b (isv_any y.v V0) Q0.out).mono ?_
          rintro _ V1 ⟨rfl, hb⟩
          have M1 : Hid (PrAt V1 w.heap.size x ∧ MrAt V1 W.heap.size y ∧ Below w.heap.size w V1) := ⟨M0.out.1.below hb, M0.out.2.1.below hb, below_over M0.out.2.2 hb⟩
          clear hb f0 f0m f0c f0b g0 g0_0 g0_1
          have f1 := M1.out.1.ld
          have f1m := M1.out.1.m
          rw [HV.out.1] at f1m
          have f1c := M1.out.1.c
          rw [HV.out.2.1] at f1c
          have f1b := M1.out.1.b
          rw [HV.out.2.2] at f1b
          have g1 := M1.out.2.1.ld
          have g1_0 := M1.out.2.1.c0
          have g1_1 := M1.out.2.1.c1
          go_wp2_with fail
          refine (ret_b (risI_any y.a y.n y.c l V1 (H.out.2.2.2.2.2.below M1.out.2.2)) Q1.out).mono ?_
          rintro _ V2 ⟨rfl, hb⟩
          have M2 : Hid (PrAt V2 w.heap.size x ∧ MrAt V2 W.heap.size y ∧ Below w.heap.size w V2) := ⟨M1.out.1.below hb, M1.out.2.1.below hb, below_over M1.out.2.2 hb⟩
          clear hb f1 f1m f1c f1b g1 g1_0 g1_1
          have f2 := M2.out.1.ld
          have f2m := M2.out.1.m
          rw [HV.out.1] at f2m
          have f2c := M2.out.1.c
          rw [HV.out.2.1] at f2c
          have f2b := M2.out.1.b
          rw [HV.out.2.2] at f2b
          have g2 := M2.out.2.1.ld
          have g2_0 := M2.out.2.1.c0
          have g2_1 := M2.out.2.1.c1
          go_wp2_with fail
          refine (ret_b (allt_any x p y.a y.n y.c l V2 (H.out.1.below M2.out.2.2) (H.out.2.2.2.2.2.below M2.out.2.2)) Q2.out).mono ?_
          rintro _ V3 ⟨rfl, hb⟩
          have M3 : Hid (PrAt V3 w.heap.size x ∧ MrAt V3 W.heap.size y ∧ Below w.heap.size w V3) := ⟨M2.out.1.below hb, M2.out.2.1.below hb, below_over M2.out.2.2 hb⟩
          clear hb f2 f2m f2c f2b g2 g2_0 g2_1
          have f3 := M3.out.1.ld
          have f3m := M3.out.1.m
          rw [HV.out.1] at f3m
          have f3c := M3.out.1.c
          rw [HV.out.2.1] at f3c
          have f3b := M3.out.1.b
          rw [HV.out.2.2] at f3b
          have g3 := M3.out.2.1.ld
          have g3_0 := M3.out.2.1.c0
          have g3_1 := M3.out.2.1.c1
          go_wp2_with fail
          refine (ret_b (allb_any x p y.a y.n y.c l V3 (H.out.1.below M3.out.2.2) (H.out.2.2.2.2.2.below M3.out.2.2)) Q3.out).mono ?_
          rintro _ V4 ⟨rfl, hb⟩
          have M4 : Hid (PrAt V4 w.heap.size x ∧ MrAt V4 W.heap.size y ∧ Below w.heap.size w V4) := ⟨M3.out.1.below hb, M3.out.2.1.below hb, below_over M3.out.2.2 hb⟩
          clear hb f3 f3m f3c f3b g3 g3_0 g3_1
          have f4 := M4.out.1.ld
          have f4m := M4.out.1.m
          rw [HV.out.1] at f4m
          have f4c := M4.out.1.c
          rw [HV.out.2.1] at f4c
          have f4b := M4.out.1.b
          rw [HV.out.2.2] at f4b
          have g4 := M4.out.2.1.ld
          have g4_0 := M4.out.2.1.c0
          have g4_1 := M4.out.2.1.c1
          go_wp2
          go_ret
          exact ⟨ret_int E.out.symm, M4.out.2.2⟩
        · skip
          by_cases h4 : 64 ≤ bn
          · have d1 : decide ((bn : Int) ≥ 64) = true := by simp; omega
            have d2 : decide ((64 : Int) ≤ (bn : Int)) = true := by simp; omega
            have Q4 : Hid (64 ≤ p.bs.length) := by rw [H.out.2.2.2.1]; exact h4
            clear h4
            obtain ⟨t5, h5⟩ : ∃ zz, (pts p y.v).isSome = zz := ⟨_, rfl⟩
            have Q5 : Hid ((pts p y.v).isSome = t5) := h5
            clear h5
            cases t5
            · skip
              have E0 : refB p ⟨y.v, l⟩ = 3 := by unfold refB; simp [Q0.out, Q1.out, Q2.out, Q3.out, Q4.out, Q5.out]
              have E : Hid (refB p ⟨y.v, l⟩ = 3) := E0
              clear E0
              go_enter Try.func24, Try.ntmps24
              have f0 := M0.out.1.ld
              have f0m := M0.out.1.m
              rw [HV.out.1] at f0m
              have f0c := M0.out.1.c
              rw [HV.out.2.1] at f0c
              have f0b := M0.out.1.b
              rw [HV.out.2.2] at f0b
              have g0 := M0.out.2.1.ld
              have g0_0 := M0.out.2.1.c0
              have g0_1 := M0.out.2.1.c1
              go_wp2_with fail
              refine (ret_b (isv_any y.v V0) Q0.out).mono ?_
              rintro _ V1 ⟨rfl, hb⟩
              have M1 : Hid (PrAt V1 w.heap.size x ∧ MrAt V1 W.heap.size y ∧ Below w.heap.size w V1) := ⟨M0.out.1.below hb, M0.out.2.1.below hb, below_over M0.out.2.2 hb⟩
              clear hb f0 f0m f0c f0b g0 g0_0 g0_1
              have f1 := M1.out.1.ld
              have f1m := M1.out.1.m
              rw [HV.out.1] at f1m
              have f1c := M1.out.1.c
              rw [HV.out.2.1] at f1c
              have f1b := M1.out.1.b
              rw [HV.out.2.2] at f1b
              have g1 := M1.out.2.1.ld
              have g1_0 := M1.out.2.1.c0
              have g1_1 := M1.out.2.1.c1
              go_wp2_with fail
              refine (ret_b (risI_any y.a y.n y.c l V1 (H.out.2.2.2.2.2.below M1.out.2.2)) Q1.out).mono ?_
              rintro _ V2 ⟨rfl, hb⟩
              have M2 : Hid (PrAt V2 w.heap.size x ∧ MrAt V2 W.heap.size y ∧ Below w.heap.size w V2) := ⟨M1.out.1.below hb, M1.out.2.1.below hb, below_over M1.out.2.2 hb⟩
              clear hb f1 f1m f1c f1b g1 g1_0 g1_1
              have f2 := M2.out.1.ld
              have f2m := M2.out.1.m
              rw [HV.out.1] at f2m
              have f2c := M2.out.1.c
              rw [HV.out.2.1] at f2c
              have f2b := M2.out.1.b
              rw [HV.out.2.2] at f2b
              have g2 := M2.out.2.1.ld
              have g2_0 := M2.out.2.1.c0
              have g2_1 := M2.out.2.1.c1
              go_wp2_with fail
              refine (ret_b (allt_any x p y.a y.n y.c l V2 (H.out.1.below M2.out.2.2) (H.out.2.2.2.2.2.below M2.out.2.2)) Q2.out).mono ?_
              rintro _ V3 ⟨rfl, hb⟩
              have M3 : Hid (PrAt V3 w.heap.size x ∧ MrAt V3 W.heap.size y ∧ Below w.heap.size w V3) := ⟨M2.out.1.below hb, M2.out.2.1.below hb, below_over M2.out.2.2 hb⟩
              clear hb f2 f2m f2c f2b g2 g2_0 g2_1
              have f3 := M3.out.1.ld
              have f3m := M3.out.1.m
              rw [HV.out.1] at f3m
              have f3c := M3.out.1.c
              rw [HV.out.2.1] at f3c
              have f3b := M3.out.1.b
              rw [HV.out.2.2] at f3b
              have g3 := M3.out.2.1.ld
              have g3_0 := M3.out.2.1.c0
              have g3_1 := M3.out.2.1.c1
              go_wp2_with fail
              refine (ret_b (allb_any x p y.a y.n y.c l V3 (H.out.1.below M3.out.2.2) (H.out.2.2.2.2.2.below M3.out.2.2)) Q3.out).mono ?_
              rintro _ V4 ⟨rfl, hb⟩
              have M4 : Hid (PrAt V4 w.heap.size x ∧ MrAt V4 W.heap.size y ∧ Below w.heap.size w V4) := ⟨M3.out.1.below hb, M3.out.2.1.below hb, below_over M3.out.2.2 hb⟩
              clear hb f3 f3m f3c f3b g3 g3_0 g3_1
              have f4 := M4.out.1.ld
              have f4m := M4.out.1.m
              rw [HV.out.1] at f4m
              have f4c := M4.out.1.c
              rw [HV.out.2.1] at f4c
              have f4b := M4.out.1.b
              rw [HV.out.2.2] at f4b
              have g4 := M4.out.2.1.ld
              have g4_0 := M4.out.2.1.c0
              have g4_1 := M4.out.2.1.c1
              go_wp2_with fail
              refine (ret_b (hasm_any x p y.v V4 (H.out.1.below M4.out.2.2) H.out.2.2.2.2.1) Q5.out).mono ?_
              rintro _ V5 ⟨rfl, hb⟩
              have M5 : Hid (PrAt V5 w.heap.size x ∧ MrAt V5 W.heap.size y ∧ Below w.heap.size w V5) := ⟨M4.out.1.below hb, M4.out.2.1.below hb, below_over M4.out.2.2 hb⟩
              clear hb f4 f4m f4c f4b g4 g4_0 g4_1
              have f5 := M5.out.1.ld
              have f5m := M5.out.1.m
              rw [HV.out.1] at f5m
              have f5c := M5.out.1.c
              rw [HV.out.2.1] at f5c
              have f5b := M5.out.1.b
              rw [HV.out.2.2] at f5b
              have g5 := M5.out.2.1.ld
              have g5_0 := M5.out.2.1.c0
              have g5_1 := M5.out.2.1.c1
              go_wp2
              go_ret
              exact ⟨ret_int E.out.symm, M5.out.2.2⟩
            · skip
              have E0 : refB p ⟨y.v, l⟩ = 0 := by unfold refB; simp [Q0.out, Q1.out, Q2.out, Q3.out, Q4.out, Q5.out]
              have E : Hid (refB p ⟨y.v, l⟩ = 0) := E0
              clear E0
              go_enter Try.func24, Try.ntmps24
              have f0 := M0.out.1.ld
              have f0m := M0.out.1.m
              rw [HV.out.1] at f0m
              have f0c := M0.out.1.c
              rw [HV.out.2.1] at f0c
              have f0b := M0.out.1.b
              rw [HV.out.2.2] at f0b
              have g0 := M0.out.2.1.ld
              have g0_0 := M0.out.2.1.c0
              have g0_1 := M0.out.2.1.c1
              go_wp2_with fail
              refine (ret_b (isv_any y.v V0) Q0.out).mono ?_
              rintro _ V1 ⟨rfl, hb⟩
              have M1 : Hid (PrAt V1 w.heap.size x ∧ MrAt V1 W.heap.size y ∧ Below w.heap.size w V1) := ⟨M0.out.1.below hb, M0.out.2.1.below hb, below_over M0.out.2.2 hb⟩
              clear hb f0 f0m f0c f0b g0 g0_0 g0_1
              have f1 := M1.out.1.ld
              have f1m := M1.out.1.m
              rw [HV.out.1] at f1m
              have f1c := M1.out.1.c
              rw [HV.out.2.1] at f1c
              have f1b := M1.out.1.b
              rw [HV.out.2.2] at f1b
              have g1 := M1.out.2.1.ld
              have g1_0 := M1.out.2.1.c0
              have g1_1 := M1.out.2.1.c1
              go_wp2_with fail
              refine (ret_b (risI_any y.a y.n y.c l V1 (H.out.2.2.2.2.2.below M1.out.2.2)) Q1.out).mono ?_
              rintro _ V2 ⟨rfl, hb⟩
              have M2 : Hid (PrAt V2 w.heap.size x ∧ MrAt V2 W.heap.size y ∧ Below w.heap.size w V2) := ⟨M1.out.1.below hb, M1.out.2.1.below hb, below_over M1.out.2.2 hb⟩
              clear hb f1 f1m f1c f1b g1 g1_0 g1_1
              have f2 := M2.out.1.ld
              have f2m := M2.out.1.m
              rw [HV.out.1] at f2m
              have f2c := M2.out.1.c
              rw [HV.out.2.1] at f2c
              have f2b := M2.out.1.b
              rw [HV.out.2.2] at f2b
              have g2 := M2.out.2.1.ld
              have g2_0 := M2.out.2.1.c0
              have g2_1 := M2.out.2.1.c1
              go_wp2_with fail
              refine (ret_b (allt_any x p y.a y.n y.c l V2 (H.out.1.below M2.out.2.2) (H.out.2.2.2.2.2.below M2.out.2.2)) Q2.out).mono ?_
              rintro _ V3 ⟨rfl, hb⟩
              have M3 : Hid (PrAt V3 w.heap.size x ∧ MrAt V3 W.heap.size y ∧ Below w.heap.size w V3) := ⟨M2.out.1.below hb, M2.out.2.1.below hb, below_over M2.out.2.2 hb⟩
              clear hb f2 f2m f2c f2b g2 g2_0 g2_1
              have f3 := M3.out.1.ld
              have f3m := M3.out.1.m
              rw [HV.out.1] at f3m
              have f3c := M3.out.1.c
              rw [HV.out.2.1] at f3c
              have f3b := M3.out.1.b
              rw [HV.out.2.2] at f3b
              have g3 := M3.out.2.1.ld
              have g3_0 := M3.out.2.1.c0
              have g3_1 := M3.out.2.1.c1
              go_wp2_with fail
              refine (ret_b (allb_any x p y.a y.n y.c l V3 (H.out.1.below M3.out.2.2) (H.out.2.2.2.2.2.below M3.out.2.2)) Q3.out).mono ?_
              rintro _ V4 ⟨rfl, hb⟩
              have M4 : Hid (PrAt V4 w.heap.size x ∧ MrAt V4 W.heap.size y ∧ Below w.heap.size w V4) := ⟨M3.out.1.below hb, M3.out.2.1.below hb, below_over M3.out.2.2 hb⟩
              clear hb f3 f3m f3c f3b g3 g3_0 g3_1
              have f4 := M4.out.1.ld
              have f4m := M4.out.1.m
              rw [HV.out.1] at f4m
              have f4c := M4.out.1.c
              rw [HV.out.2.1] at f4c
              have f4b := M4.out.1.b
              rw [HV.out.2.2] at f4b
              have g4 := M4.out.2.1.ld
              have g4_0 := M4.out.2.1.c0
              have g4_1 := M4.out.2.1.c1
              go_wp2_with fail
              refine (ret_b (hasm_any x p y.v V4 (H.out.1.below M4.out.2.2) H.out.2.2.2.2.1) Q5.out).mono ?_
              rintro _ V5 ⟨rfl, hb⟩
              have M5 : Hid (PrAt V5 w.heap.size x ∧ MrAt V5 W.heap.size y ∧ Below w.heap.size w V5) := ⟨M4.out.1.below hb, M4.out.2.1.below hb, below_over M4.out.2.2 hb⟩
              clear hb f4 f4m f4c f4b g4 g4_0 g4_1
              have f5 := M5.out.1.ld
              have f5m := M5.out.1.m
              rw [HV.out.1] at f5m
              have f5c := M5.out.1.c
              rw [HV.out.2.1] at f5c
              have f5b := M5.out.1.b
              rw [HV.out.2.2] at f5b
              have g5 := M5.out.2.1.ld
              have g5_0 := M5.out.2.1.c0
              have g5_1 := M5.out.2.1.c1
              go_wp2
              go_ret
              exact ⟨ret_int E.out.symm, M5.out.2.2⟩
          · have d1 : decide ((bn : Int) ≥ 64) = false := by simp; omega
            have d2 : decide ((64 : Int) ≤ (bn : Int)) = false := by simp; omega
            have Q4 : Hid (¬ 64 ≤ p.bs.length) := by rw [H.out.2.2.2.1]; exact h4
            clear h4
            have E0 : refB p ⟨y.v, l⟩ = 0 := by unfold refB; simp [Q0.out, Q1.out, Q2.out, Q3.out, Q4.out]
            have E : Hid (refB p ⟨y.v, l⟩ = 0) := E0
            clear E0
            go_enter Try.func24, Try.ntmps24
            have f0 := M0.out.1.ld
            have f0m := M0.out.1.m
            rw [HV.out.1] at f0m
            have f0c := M0.out.1.c
            rw [HV.out.2.1] at f0c
            have f0b := M0.out.1.b
            rw [HV.out.2.2] at f0b
            have g0 := M0.out.2.1.ld
            have g0_0 := M0.out.2.1.c0
            have g0_1 := M0.out.2.1.c1
            go_wp2_with fail
            refine (ret_b (isv_any y.v V0) Q0.out).mono ?_
            rintro _ V1 ⟨rfl, hb⟩
            have M1 : Hid (PrAt V1 w.heap.size x ∧ MrAt V1 W.heap.size y ∧ Below w.heap.size w V1) := ⟨M0.out.1.below hb, M0.out.2.1.below hb, below_over M0.out.2.2 hb⟩
            clear hb f0 f0m f0c f0b g0 g0_0 g0_1
            have f1 := M1.out.1.ld
            have f1m := M1.out.1.m
            rw [HV.out.1] at f1m
            have f1c := M1.out.1.c
            rw [HV.out.2.1] at f1c
            have f1b := M1.out.1.b
            rw [HV.out.2.2] at f1b
            have g1 := M1.out.2.1.ld
            have g1_0 := M1.out.2.1.c0
            have g1_1 := M1.out.2.1.c1
            go_wp2_with fail
            refine (ret_b (risI_any y.a y.n y.c l V1 (H.out.2.2.2.2.2.below M1.out.2.2)) Q1.out).mono ?_
            rintro _ V2 ⟨rfl, hb⟩
            have M2 : Hid (PrAt V2 w.heap.size x ∧ MrAt V2 W.heap.size y ∧ Below w.heap.size w V2) := ⟨M1.out.1.below hb, M1.out.2.1.below hb, below_over M1.out.2.2 hb⟩
            clear hb f1 f1m f1c f1b g1 g1_0 g1_1
            have f2 := M2.out.1.ld
            have f2m := M2.out.1.m
            rw [HV.out.1] at f2m
            have f2c := M2.out.1.c
            rw [HV.out.2.1] at f2c
            have f2b := M2.out.1.b
            rw [HV.out.2.2] at f2b
            have g2 := M2.out.2.1.ld
            have g2_0 := M2.out.2.1.c0
            have g2_1 := M2.out.2.1.c1
            go_wp2_with fail
            refine (ret_b (allt_any x p y.a y.n y.c l V2 (H.out.1.below M2.out.2.2) (H.out.2.2.2.2.2.below M2.out.2.2)) Q2.out).mono ?_
            rintro _ V3 ⟨rfl, hb⟩
            have M3 : Hid (PrAt V3 w.heap.size x ∧ MrAt V3 W.heap.size y ∧ Below w.heap.size w V3) := ⟨M2.out.1.below hb, M2.out.2.1.below hb, below_over M2.out.2.2 hb⟩
            clear hb f2 f2m f2c f2b g2 g2_0 g2_1
            have f3 := M3.out.1.ld
            have f3m := M3.out.1.m
            rw [HV.out.1] at f3m
            have f3c := M3.out.1.c
            rw [HV.out.2.1] at f3c
            have f3b := M3.out.1.b
            rw [HV.out.2.2] at f3b
            have g3 := M3.out.2.1.ld
            have g3_0 := M3.out.2.1.c0
            have g3_1 := M3.out.2.1.c1
            go_wp2_with fail
            refine (ret_b (allb_any x p y.a y.n y.c l V3 (H.out.1.below M3.out.2.2) (H.out.2.2.2.2.2.below M3.out.2.2)) Q3.out).mono ?_
            rintro _ V4 ⟨rfl, hb⟩
            have M4 : Hid (PrAt V4 w.heap.size x ∧ MrAt V4 W.heap.size y ∧ Below w.heap.size w V4) := ⟨M3.out.1.below hb, M3.out.2.1.below hb, below_over M3.out.2.2 hb⟩
            clear hb f3 f3m f3c f3b g3 g3_0 g3_1
            have f4 := M4.out.1.ld
            have f4m := M4.out.1.m
            rw [HV.out.1] at f4m
            have f4c := M4.out.1.c
            rw [HV.out.2.1] at f4c
            have f4b := M4.out.1.b
            rw [HV.out.2.2] at f4b
            have g4 := M4.out.2.1.ld
            have g4_0 := M4.out.2.1.c0
            have g4_1 := M4.out.2.1.c1
            go_wp2
            go_ret
            exact ⟨ret_int E.out.symm, M4.out.2.2⟩
end Go.Proofs.Ytmfjlhcobhilcab
