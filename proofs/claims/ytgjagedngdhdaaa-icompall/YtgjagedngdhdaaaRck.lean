/-
  What may be provisioned, by the definition: walks of members, carries, maps, Check, each for every input.
-/
import Derived.Test.YtgjagedngdhdaaaJ39Plw
import Derived.Test.YtgjagedngdhdaaaJ27RAsk
namespace Go.Proofs.Ytgjagedngdhdaaa
set_option linter.unusedVariables false
set_option maxRecDepth 4000
set_option linter.unusedSimpArgs false
open Go.RowKit
attribute [local go_sem ↓] ldM stM ldC stC ldB stB ldP stP apI bsI
attribute [local go_sem] bsI_is bsI2_is

attribute [local go_sem ↓] ldO
set_option maxHeartbeats 4000000 in
theorem rmem_any (x : Pr) (p : Pv) (w : World) (h : IsPv w x p) (hz : p.bs.length ≤ 100) :
    Calls Try.prog 98 #[.agg x.cs] w fun r w' => r = .returned (.bool (rB p)) ∧ Below w.heap.size w w' := by
  obtain ⟨rr, ⟨a, n, c, hv, hs⟩, hm⟩ := h.b
  obtain ⟨W, hW, r0, bW, zW⟩ := PrAt.new w x
  have c7 := r0.b
  rw [hv] at c7
  have hnn := hs.int
  obtain ⟨R, hR⟩ : ∃ z, p.bs.all (okB p) = z := ⟨_, rfl⟩
  obtain ⟨S, hS⟩ : ∃ z, ris ltI (p.bs.map (fun m => m.v)) = z := ⟨_, rfl⟩
  have H : Hid (IsPv W x p ∧ SlAt eB W a n c rr ∧ rr.length = n ∧ Below w.heap.size w W ∧ PrAt W w.heap.size x ∧ x.b = .slice a n c ∧ p.bs.length = n ∧ Mem W rr p.bs) := ⟨h.below bW, hs.below bW, hs.len, bW, r0, hv, by rw [← hm.len]; exact hs.len, hm.below bW⟩
  have HR : Hid (p.bs.all (okB p) = R ∧ ris ltI (p.bs.map (fun m => m.v)) = S) := ⟨hR, hS⟩
  have hn100 : n ≤ 100 := by rw [← H.out.2.2.2.2.2.2.1]; exact hz
  rw [show rB p = (R && (S && decide (n ≤ 64))) by unfold rB; rw [hR, hS, H.out.2.2.2.2.2.2.1]]
  clear hs bW zW r0 h hR hS hv hz hm
  go_enter Try.func98, Try.ntmps98
  go_wp2_with fail
  go_loopw [3, 4] (fun u v wr => ∃ i : Nat, i ≤ n ∧ v = .int .i64 i ∧ R = (p.bs.drop i).all (okB p) ∧ Own eI wr W.heap.size u ((p.bs.take i).map (fun m => m.v)) ∧ Below W.heap.size W wr) (fun u v _ => n - (intOf v).toNat)
  case atStart => exact ⟨0, by omega, rfl, HR.out.1.symm, Own.nil _ _, Below.refl _ _⟩
  case round =>
    obtain ⟨i, hi, rfl, hf, hO, hB⟩ := hrel
    have J : Hid (R = (p.bs.drop i).all (okB p) ∧ Below W.heap.size W wr ∧ Own eI wr W.heap.size u3 ((p.bs.take i).map (fun m => m.v))) := ⟨hf, hB, hO⟩
    have hi0 : (0 : Int) ≤ (i : Int) := by omega
    clear c7
    have c7 := (H.out.2.2.2.2.1.below hB).b
    rw [H.out.2.2.2.2.2.1] at c7
    by_cases hit : i < n
    · have hi1 : (i : Int) < (n : Int) := by omega
      obtain ⟨b, o, rfl⟩ := H.out.2.1.some' (by omega)
      obtain ⟨y, z, hy, hz, hvz, hps⟩ := H.out.2.2.2.2.2.2.2.get (i := i) (by rw [← H.out.2.2.2.2.2.2.2.len, H.out.2.2.1]; exact hit)
      have l1 := lB (H.out.2.1.below hB) hy
      obtain ⟨V0, sV, mV, bV⟩ := MrAt.put wr y
      have M0 : Hid (MrAt V0 wr.heap.size y ∧ Below W.heap.size W V0 ∧ Own eI V0 W.heap.size u3 ((p.bs.take i).map (fun m => m.v))) := ⟨mV, below_over J.out.2.1 bV, J.out.2.2.below bV⟩
      have HX : Hid (p.bs[i]? = some z ∧ y.v = z.v ∧ SlAt eI W y.a y.n y.c z.ps) := ⟨hz, hvz, hps⟩
      clear hf hB hO hy mV bV hz hvz hps
      obtain ⟨t0, h0⟩ : ∃ zz, isV y.v = zz := ⟨_, rfl⟩
      have Q0 : Hid (isV y.v = t0) := h0
      clear h0
      cases t0
      · have E : Hid (R = false) := by rw [J.out.1, all_no HX.out.1 (by show okB p z = false; unfold okB; rw [← HX.out.2.1]; simp only [Q0.out, Bool.false_and, Bool.and_false, Bool.true_and, Bool.and_true])]; exact rfl
        have k0_0 := M0.out.1.c0
        have k0_1 := M0.out.1.c1
        have p0 := (H.out.2.2.2.2.1.below M0.out.2.1).ld
        go_wp2_with fail
        refine (ret_b (rvid_any y.v V0) Q0.out).mono ?_
        rintro _ V1 ⟨rfl, hb⟩
        have M1 : Hid (MrAt V1 wr.heap.size y ∧ Below W.heap.size W V1 ∧ Own eI V1 W.heap.size u3 ((p.bs.take i).map (fun m => m.v))) := ⟨M0.out.1.below hb, below_over M0.out.2.1 hb, M0.out.2.2.below hb⟩
        clear hb p0
        clear k0_0
        clear k0_1
        have k1_0 := M1.out.1.c0
        have k1_1 := M1.out.1.c1
        have p1 := (H.out.2.2.2.2.1.below M1.out.2.1).ld
        go_wp2
        go_ret
        exact ⟨ret_bool (by rw [E.out]; rfl), below_over H.out.2.2.2.1 M1.out.2.1⟩
      · skip
        obtain ⟨t1, h1⟩ : ∃ zz, ris ltI z.ps = zz := ⟨_, rfl⟩
        have Q1 : Hid (ris ltI z.ps = t1) := h1
        clear h1
        cases t1
        · have E : Hid (R = false) := by rw [J.out.1, all_no HX.out.1 (by show okB p z = false; unfold okB; rw [← HX.out.2.1]; simp only [Q0.out, Q1.out, Bool.false_and, Bool.and_false, Bool.true_and, Bool.and_true])]; exact rfl
          have k0_0 := M0.out.1.c0
          have k0_1 := M0.out.1.c1
          have p0 := (H.out.2.2.2.2.1.below M0.out.2.1).ld
          go_wp2_with fail
          refine (ret_b (rvid_any y.v V0) Q0.out).mono ?_
          rintro _ V1 ⟨rfl, hb⟩
          have M1 : Hid (MrAt V1 wr.heap.size y ∧ Below W.heap.size W V1 ∧ Own eI V1 W.heap.size u3 ((p.bs.take i).map (fun m => m.v))) := ⟨M0.out.1.below hb, below_over M0.out.2.1 hb, M0.out.2.2.below hb⟩
          clear hb p0
          clear k0_0
          clear k0_1
          have k1_0 := M1.out.1.c0
          have k1_1 := M1.out.1.c1
          have p1 := (H.out.2.2.2.2.1.below M1.out.2.1).ld
          go_wp2_with fail
          refine (ret_b (rise_any y.a y.n y.c z.ps V1 (HX.out.2.2.below M1.out.2.1)) Q1.out).mono ?_
          rintro _ V2 ⟨rfl, hb⟩
          have M2 : Hid (MrAt V2 wr.heap.size y ∧ Below W.heap.size W V2 ∧ Own eI V2 W.heap.size u3 ((p.bs.take i).map (fun m => m.v))) := ⟨M1.out.1.below hb, below_over M1.out.2.1 hb, M1.out.2.2.below hb⟩
          clear hb p1
          clear k1_0
          clear k1_1
          have k2_0 := M2.out.1.c0
          have k2_1 := M2.out.1.c1
          have p2 := (H.out.2.2.2.2.1.below M2.out.2.1).ld
          go_wp2
          go_ret
          exact ⟨ret_bool (by rw [E.out]; rfl), below_over H.out.2.2.2.1 M2.out.2.1⟩
        · skip
          obtain ⟨t2, h2⟩ : ∃ zz, z.ps.all (fun i => isK p i 2) = zz := ⟨_, rfl⟩
          have Q2 : Hid (z.ps.all (fun i => isK p i 2) = t2) := h2
          clear h2
          cases t2
          · have E : Hid (R = false) := by rw [J.out.1, all_no HX.out.1 (by show okB p z = false; unfold okB; rw [← HX.out.2.1]; simp only [Q0.out, Q1.out, Q2.out, Bool.false_and, Bool.and_false, Bool.true_and, Bool.and_true])]; exact rfl
            have k0_0 := M0.out.1.c0
            have k0_1 := M0.out.1.c1
            have p0 := (H.out.2.2.2.2.1.below M0.out.2.1).ld
            go_wp2_with fail
            refine (ret_b (rvid_any y.v V0) Q0.out).mono ?_
            rintro _ V1 ⟨rfl, hb⟩
            have M1 : Hid (MrAt V1 wr.heap.size y ∧ Below W.heap.size W V1 ∧ Own eI V1 W.heap.size u3 ((p.bs.take i).map (fun m => m.v))) := ⟨M0.out.1.below hb, below_over M0.out.2.1 hb, M0.out.2.2.below hb⟩
            clear hb p0
            clear k0_0
            clear k0_1
            have k1_0 := M1.out.1.c0
            have k1_1 := M1.out.1.c1
            have p1 := (H.out.2.2.2.2.1.below M1.out.2.1).ld
            go_wp2_with fail
            refine (ret_b (rise_any y.a y.n y.c z.ps V1 (HX.out.2.2.below M1.out.2.1)) Q1.out).mono ?_
            rintro _ V2 ⟨rfl, hb⟩
            have M2 : Hid (MrAt V2 wr.heap.size y ∧ Below W.heap.size W V2 ∧ Own eI V2 W.heap.size u3 ((p.bs.take i).map (fun m => m.v))) := ⟨M1.out.1.below hb, below_over M1.out.2.1 hb, M1.out.2.2.below hb⟩
            clear hb p1
            clear k1_0
            clear k1_1
            have k2_0 := M2.out.1.c0
            have k2_1 := M2.out.1.c1
            have p2 := (H.out.2.2.2.2.1.below M2.out.2.1).ld
            go_wp2_with fail
            refine (ret_b (are_any x p y.a y.n y.c z.ps 2 V2 (H.out.1.below M2.out.2.1) (HX.out.2.2.below M2.out.2.1)) Q2.out).mono ?_
            rintro _ V3 ⟨rfl, hb⟩
            have M3 : Hid (MrAt V3 wr.heap.size y ∧ Below W.heap.size W V3 ∧ Own eI V3 W.heap.size u3 ((p.bs.take i).map (fun m => m.v))) := ⟨M2.out.1.below hb, below_over M2.out.2.1 hb, M2.out.2.2.below hb⟩
            clear hb p2
            clear k2_0
            clear k2_1
            have k3_0 := M3.out.1.c0
            have k3_1 := M3.out.1.c1
            have p3 := (H.out.2.2.2.2.1.below M3.out.2.1).ld
            go_wp2
            go_ret
            exact ⟨ret_bool (by rw [E.out]; rfl), below_over H.out.2.2.2.1 M3.out.2.1⟩
          · skip
            have E : Hid (R = (p.bs.drop (i + 1)).all (okB p)) := by rw [J.out.1, all_yes HX.out.1 (by show okB p z = true; unfold okB; rw [← HX.out.2.1]; simp only [Q0.out, Q1.out, Q2.out, Bool.false_and, Bool.and_false, Bool.true_and, Bool.and_true])]; exact rfl
            have k0_0 := M0.out.1.c0
            have k0_1 := M0.out.1.c1
            have p0 := (H.out.2.2.2.2.1.below M0.out.2.1).ld
            go_wp2_with fail
            refine (ret_b (rvid_any y.v V0) Q0.out).mono ?_
            rintro _ V1 ⟨rfl, hb⟩
            have M1 : Hid (MrAt V1 wr.heap.size y ∧ Below W.heap.size W V1 ∧ Own eI V1 W.heap.size u3 ((p.bs.take i).map (fun m => m.v))) := ⟨M0.out.1.below hb, below_over M0.out.2.1 hb, M0.out.2.2.below hb⟩
            clear hb p0
            clear k0_0
            clear k0_1
            have k1_0 := M1.out.1.c0
            have k1_1 := M1.out.1.c1
            have p1 := (H.out.2.2.2.2.1.below M1.out.2.1).ld
            go_wp2_with fail
            refine (ret_b (rise_any y.a y.n y.c z.ps V1 (HX.out.2.2.below M1.out.2.1)) Q1.out).mono ?_
            rintro _ V2 ⟨rfl, hb⟩
            have M2 : Hid (MrAt V2 wr.heap.size y ∧ Below W.heap.size W V2 ∧ Own eI V2 W.heap.size u3 ((p.bs.take i).map (fun m => m.v))) := ⟨M1.out.1.below hb, below_over M1.out.2.1 hb, M1.out.2.2.below hb⟩
            clear hb p1
            clear k1_0
            clear k1_1
            have k2_0 := M2.out.1.c0
            have k2_1 := M2.out.1.c1
            have p2 := (H.out.2.2.2.2.1.below M2.out.2.1).ld
            go_wp2_with fail
            refine (ret_b (are_any x p y.a y.n y.c z.ps 2 V2 (H.out.1.below M2.out.2.1) (HX.out.2.2.below M2.out.2.1)) Q2.out).mono ?_
            rintro _ V3 ⟨rfl, hb⟩
            have M3 : Hid (MrAt V3 wr.heap.size y ∧ Below W.heap.size W V3 ∧ Own eI V3 W.heap.size u3 ((p.bs.take i).map (fun m => m.v))) := ⟨M2.out.1.below hb, below_over M2.out.2.1 hb, M2.out.2.2.below hb⟩
            clear hb p2
            clear k2_0
            clear k2_1
            have k3_0 := M3.out.1.c0
            have k3_1 := M3.out.1.c1
            have p3 := (H.out.2.2.2.2.1.below M3.out.2.1).ld
            obtain ⟨v9, U, aU, oU, bU⟩ := nI M3.out.2.2 M3.out.2.1.size (by rw [List.length_map, List.length_take]; omega) y.v
            have G : Hid (Own eI U W.heap.size v9 ((p.bs.take (i + 1)).map (fun m => m.v)) ∧ Below W.heap.size W U) := by
              refine ⟨?_, M3.out.2.1.trans bU⟩
              rw [List.take_add_one, HX.out.1, List.map_append]
              show Own eI U W.heap.size v9 (_ ++ [z.v])
              rw [← HX.out.2.1]
              exact oU
            clear oU bU
            go_wp2
            go_roundw
            case rel => exact ⟨i + 1, by omega, by go_num, E.out, G.out.1, G.out.2⟩
            case measure => simp [intOf]; omega
    · have hin : i = n := by omega
      have hi1 : ¬ (i : Int) < (n : Int) := by omega
      have E : Hid (R = true) := by rw [J.out.1, all_end (by rw [H.out.2.2.2.2.2.2.1]; omega)]; exact rfl
      have hO2 : Own eI wr W.heap.size u3 (p.bs.map (fun m => m.v)) := by
        have := J.out.2.2
        rw [List.take_of_length_le (by rw [H.out.2.2.2.2.2.2.1]; omega)] at this
        exact this
      obtain ⟨va, vc, hva, hvs, _⟩ := hO2.form
      rw [List.length_map, H.out.2.2.2.2.2.2.1] at hva hvs
      subst hva
      have HS : Hid (SlAt eI wr va n vc (p.bs.map (fun m => m.v))) := hvs
      clear hf hB hO hin hO2 hvs
      cases S
      · go_wp2_with fail
        refine (ret_b (rise_any va n vc _ wr HS.out) HR.out.2).mono ?_
        rintro _ Y ⟨rfl, hY⟩
        go_wp2
        go_ret
        exact ⟨ret_bool (by rw [E.out]; rfl), below_over H.out.2.2.2.1 (below_over J.out.2.1 hY)⟩
      · by_cases h64 : n ≤ 64
        · have d1 : decide ((n : Int) ≤ 64) = true := by simp; omega
          have E2 : Hid (decide (n ≤ 64) = true) := decide_eq_true h64
          clear h64
          go_wp2_with fail
          refine (ret_b (rise_any va n vc _ wr HS.out) HR.out.2).mono ?_
          rintro _ Y ⟨rfl, hY⟩
          go_wp2
          go_ret
          exact ⟨ret_bool (by rw [E.out, E2.out]; rfl), below_over H.out.2.2.2.1 (below_over J.out.2.1 hY)⟩
        · have d1 : decide ((n : Int) ≤ 64) = false := by simp; omega
          have E2 : Hid (decide (n ≤ 64) = false) := decide_eq_false h64
          clear h64
          go_wp2_with fail
          refine (ret_b (rise_any va n vc _ wr HS.out) HR.out.2).mono ?_
          rintro _ Y ⟨rfl, hY⟩
          go_wp2
          go_ret
          exact ⟨ret_bool (by rw [E.out, E2.out]; rfl), below_over H.out.2.2.2.1 (below_over J.out.2.1 hY)⟩
set_option maxHeartbeats 4000000 in
theorem rcarr_any (x : Pr) (p : Pv) (w : World) (h : IsPv w x p) (hz : p.cs.length ≤ 100) :
    Calls Try.prog 99 #[.agg x.cs] w fun r w' => r = .returned (.bool (rC p)) ∧ Below w.heap.size w w' := by
  obtain ⟨a, n, c, hv, hs⟩ := h.c
  obtain ⟨W, hW, r0, bW, zW⟩ := PrAt.new w x
  have c7 := r0.c
  rw [hv] at c7
  have hnn := hs.int
  obtain ⟨R, hR⟩ : ∃ z, p.cs.all (okC p) = z := ⟨_, rfl⟩
  obtain ⟨S, hS⟩ : ∃ z, ris ltI (p.cs.map (fun m => m.s)) = z := ⟨_, rfl⟩
  have H : Hid (IsPv W x p ∧ SlAt eC W a n c p.cs ∧ p.cs.length = n ∧ Below w.heap.size w W ∧ PrAt W w.heap.size x ∧ x.c = .slice a n c ∧ p.cs.length = n ∧ True) := ⟨h.below bW, hs.below bW, hs.len, bW, r0, hv, hs.len, trivial⟩
  have HR : Hid (p.cs.all (okC p) = R ∧ ris ltI (p.cs.map (fun m => m.s)) = S) := ⟨hR, hS⟩
  have hn100 : n ≤ 100 := by rw [← H.out.2.2.2.2.2.2.1]; exact hz
  rw [show rC p = (R && (S && decide (n ≤ 64))) by unfold rC; rw [hR, hS, H.out.2.2.2.2.2.2.1]]
  clear hs bW zW r0 h hR hS hv hz
  go_enter Try.func99, Try.ntmps99
  go_wp2_with fail
  go_loopw [3, 4] (fun u v wr => ∃ i : Nat, i ≤ n ∧ v = .int .i64 i ∧ R = (p.cs.drop i).all (okC p) ∧ Own eI wr W.heap.size u ((p.cs.take i).map (fun m => m.s)) ∧ Below W.heap.size W wr) (fun u v _ => n - (intOf v).toNat)
  case atStart => exact ⟨0, by omega, rfl, HR.out.1.symm, Own.nil _ _, Below.refl _ _⟩
  case round =>
    obtain ⟨i, hi, rfl, hf, hO, hB⟩ := hrel
    have J : Hid (R = (p.cs.drop i).all (okC p) ∧ Below W.heap.size W wr ∧ Own eI wr W.heap.size u3 ((p.cs.take i).map (fun m => m.s))) := ⟨hf, hB, hO⟩
    have hi0 : (0 : Int) ≤ (i : Int) := by omega
    clear c7
    have c7 := (H.out.2.2.2.2.1.below hB).c
    rw [H.out.2.2.2.2.2.1] at c7
    by_cases hit : i < n
    · have hi1 : (i : Int) < (n : Int) := by omega
      obtain ⟨b, o, rfl⟩ := H.out.2.1.some' (by omega)
      obtain ⟨y, hy⟩ := lt_nth (l := p.cs) (i := i) (by rw [H.out.2.2.1]; exact hit)
      have l1 := lC (H.out.2.1.below hB) hy
      obtain ⟨V0, sV, mV, bV⟩ := CrAt.put wr y
      have M0 : Hid (CrAt V0 wr.heap.size y ∧ Below W.heap.size W V0 ∧ Own eI V0 W.heap.size u3 ((p.cs.take i).map (fun m => m.s))) := ⟨mV, below_over J.out.2.1 bV, J.out.2.2.below bV⟩
      have HX : Hid (p.cs[i]? = some y ∧ True) := ⟨hy, trivial⟩
      clear hf hB hO hy mV bV
      obtain ⟨t0, h0⟩ : ∃ zz, (pts p y.v).isSome = zz := ⟨_, rfl⟩
      have Q0 : Hid ((pts p y.v).isSome = t0) := h0
      clear h0
      cases t0
      · have E : Hid (R = false) := by rw [J.out.1, all_no HX.out.1 (by show okC p y = false; unfold okC; simp only [Q0.out, Bool.false_and, Bool.and_false, Bool.true_and, Bool.and_true])]; exact rfl
        obtain ⟨t1, h1⟩ : ∃ zz, isS y.s = zz := ⟨_, rfl⟩
        have Q1 : Hid (isS y.s = t1) := h1
        clear h1
        cases t1
        · skip
          have k0_0 := M0.out.1.c0
          have k0_1 := M0.out.1.c1
          have p0 := (H.out.2.2.2.2.1.below M0.out.2.1).ld
          go_wp2_with fail
          refine (rpts_any x p y.v V0 (H.out.1.below M0.out.2.1)).mono ?_
          rintro _ V1 ⟨pv, rfl, _, hb⟩
          rw [Q0.out]
          have M1 : Hid (CrAt V1 wr.heap.size y ∧ Below W.heap.size W V1 ∧ Own eI V1 W.heap.size u3 ((p.cs.take i).map (fun m => m.s))) := ⟨M0.out.1.below hb, below_over M0.out.2.1 hb, M0.out.2.2.below hb⟩
          clear hb p0
          clear k0_0
          clear k0_1
          have k1_0 := M1.out.1.c0
          have k1_1 := M1.out.1.c1
          have p1 := (H.out.2.2.2.2.1.below M1.out.2.1).ld
          go_wp2_with fail
          refine (ret_b (risid_any y.s V1) Q1.out).mono ?_
          rintro _ V2 ⟨rfl, hb⟩
          have M2 : Hid (CrAt V2 wr.heap.size y ∧ Below W.heap.size W V2 ∧ Own eI V2 W.heap.size u3 ((p.cs.take i).map (fun m => m.s))) := ⟨M1.out.1.below hb, below_over M1.out.2.1 hb, M1.out.2.2.below hb⟩
          clear hb p1
          clear k1_0
          clear k1_1
          have k2_0 := M2.out.1.c0
          have k2_1 := M2.out.1.c1
          have p2 := (H.out.2.2.2.2.1.below M2.out.2.1).ld
          go_wp2
          go_ret
          exact ⟨ret_bool (by rw [E.out]; rfl), below_over H.out.2.2.2.1 M2.out.2.1⟩
        · skip
          have k0_0 := M0.out.1.c0
          have k0_1 := M0.out.1.c1
          have p0 := (H.out.2.2.2.2.1.below M0.out.2.1).ld
          go_wp2_with fail
          refine (rpts_any x p y.v V0 (H.out.1.below M0.out.2.1)).mono ?_
          rintro _ V1 ⟨pv, rfl, _, hb⟩
          rw [Q0.out]
          have M1 : Hid (CrAt V1 wr.heap.size y ∧ Below W.heap.size W V1 ∧ Own eI V1 W.heap.size u3 ((p.cs.take i).map (fun m => m.s))) := ⟨M0.out.1.below hb, below_over M0.out.2.1 hb, M0.out.2.2.below hb⟩
          clear hb p0
          clear k0_0
          clear k0_1
          have k1_0 := M1.out.1.c0
          have k1_1 := M1.out.1.c1
          have p1 := (H.out.2.2.2.2.1.below M1.out.2.1).ld
          go_wp2_with fail
          refine (ret_b (risid_any y.s V1) Q1.out).mono ?_
          rintro _ V2 ⟨rfl, hb⟩
          have M2 : Hid (CrAt V2 wr.heap.size y ∧ Below W.heap.size W V2 ∧ Own eI V2 W.heap.size u3 ((p.cs.take i).map (fun m => m.s))) := ⟨M1.out.1.below hb, below_over M1.out.2.1 hb, M1.out.2.2.below hb⟩
          clear hb p1
          clear k1_0
          clear k1_1
          have k2_0 := M2.out.1.c0
          have k2_1 := M2.out.1.c1
          have p2 := (H.out.2.2.2.2.1.below M2.out.2.1).ld
          go_wp2
          go_ret
          exact ⟨ret_bool (by rw [E.out]; rfl), below_over H.out.2.2.2.1 M2.out.2.1⟩
      · skip
        obtain ⟨t1, h1⟩ : ∃ zz, isS y.s = zz := ⟨_, rfl⟩
        have Q1 : Hid (isS y.s = t1) := h1
        clear h1
        cases t1
        · have E : Hid (R = false) := by rw [J.out.1, all_no HX.out.1 (by show okC p y = false; unfold okC; simp only [Q0.out, Q1.out, Bool.false_and, Bool.and_false, Bool.true_and, Bool.and_true])]; exact rfl
          have k0_0 := M0.out.1.c0
          have k0_1 := M0.out.1.c1
          have p0 := (H.out.2.2.2.2.1.below M0.out.2.1).ld
          go_wp2_with fail
          refine (rpts_any x p y.v V0 (H.out.1.below M0.out.2.1)).mono ?_
          rintro _ V1 ⟨pv, rfl, _, hb⟩
          rw [Q0.out]
          have M1 : Hid (CrAt V1 wr.heap.size y ∧ Below W.heap.size W V1 ∧ Own eI V1 W.heap.size u3 ((p.cs.take i).map (fun m => m.s))) := ⟨M0.out.1.below hb, below_over M0.out.2.1 hb, M0.out.2.2.below hb⟩
          clear hb p0
          clear k0_0
          clear k0_1
          have k1_0 := M1.out.1.c0
          have k1_1 := M1.out.1.c1
          have p1 := (H.out.2.2.2.2.1.below M1.out.2.1).ld
          go_wp2_with fail
          refine (ret_b (risid_any y.s V1) Q1.out).mono ?_
          rintro _ V2 ⟨rfl, hb⟩
          have M2 : Hid (CrAt V2 wr.heap.size y ∧ Below W.heap.size W V2 ∧ Own eI V2 W.heap.size u3 ((p.cs.take i).map (fun m => m.s))) := ⟨M1.out.1.below hb, below_over M1.out.2.1 hb, M1.out.2.2.below hb⟩
          clear hb p1
          clear k1_0
          clear k1_1
          have k2_0 := M2.out.1.c0
          have k2_1 := M2.out.1.c1
          have p2 := (H.out.2.2.2.2.1.below M2.out.2.1).ld
          go_wp2
          go_ret
          exact ⟨ret_bool (by rw [E.out]; rfl), below_over H.out.2.2.2.1 M2.out.2.1⟩
        · skip
          have E : Hid (R = (p.cs.drop (i + 1)).all (okC p)) := by rw [J.out.1, all_yes HX.out.1 (by show okC p y = true; unfold okC; simp only [Q0.out, Q1.out, Bool.false_and, Bool.and_false, Bool.true_and, Bool.and_true])]; exact rfl
          have k0_0 := M0.out.1.c0
          have k0_1 := M0.out.1.c1
          have p0 := (H.out.2.2.2.2.1.below M0.out.2.1).ld
          go_wp2_with fail
          refine (rpts_any x p y.v V0 (H.out.1.below M0.out.2.1)).mono ?_
          rintro _ V1 ⟨pv, rfl, _, hb⟩
          rw [Q0.out]
          have M1 : Hid (CrAt V1 wr.heap.size y ∧ Below W.heap.size W V1 ∧ Own eI V1 W.heap.size u3 ((p.cs.take i).map (fun m => m.s))) := ⟨M0.out.1.below hb, below_over M0.out.2.1 hb, M0.out.2.2.below hb⟩
          clear hb p0
          clear k0_0
          clear k0_1
          have k1_0 := M1.out.1.c0
          have k1_1 := M1.out.1.c1
          have p1 := (H.out.2.2.2.2.1.below M1.out.2.1).ld
          go_wp2_with fail
          refine (ret_b (risid_any y.s V1) Q1.out).mono ?_
          rintro _ V2 ⟨rfl, hb⟩
          have M2 : Hid (CrAt V2 wr.heap.size y ∧ Below W.heap.size W V2 ∧ Own eI V2 W.heap.size u3 ((p.cs.take i).map (fun m => m.s))) := ⟨M1.out.1.below hb, below_over M1.out.2.1 hb, M1.out.2.2.below hb⟩
          clear hb p1
          clear k1_0
          clear k1_1
          have k2_0 := M2.out.1.c0
          have k2_1 := M2.out.1.c1
          have p2 := (H.out.2.2.2.2.1.below M2.out.2.1).ld
          obtain ⟨v9, U, aU, oU, bU⟩ := nI M2.out.2.2 M2.out.2.1.size (by rw [List.length_map, List.length_take]; omega) y.s
          have G : Hid (Own eI U W.heap.size v9 ((p.cs.take (i + 1)).map (fun m => m.s)) ∧ Below W.heap.size W U) := by
            refine ⟨?_, M2.out.2.1.trans bU⟩
            rw [List.take_add_one, HX.out.1, List.map_append]
            show Own eI U W.heap.size v9 (_ ++ [y.s])
            skip
            exact oU
          clear oU bU
          go_wp2
          go_roundw
          case rel => exact ⟨i + 1, by omega, by go_num, E.out, G.out.1, G.out.2⟩
          case measure => simp [intOf]; omega
    · have hin : i = n := by omega
      have hi1 : ¬ (i : Int) < (n : Int) := by omega
      have E : Hid (R = true) := by rw [J.out.1, all_end (by rw [H.out.2.2.2.2.2.2.1]; omega)]; exact rfl
      have hO2 : Own eI wr W.heap.size u3 (p.cs.map (fun m => m.s)) := by
        have := J.out.2.2
        rw [List.take_of_length_le (by rw [H.out.2.2.2.2.2.2.1]; omega)] at this
        exact this
      obtain ⟨va, vc, hva, hvs, _⟩ := hO2.form
      rw [List.length_map, H.out.2.2.2.2.2.2.1] at hva hvs
      subst hva
      have HS : Hid (SlAt eI wr va n vc (p.cs.map (fun m => m.s))) := hvs
      clear hf hB hO hin hO2 hvs
      cases S
      · go_wp2_with fail
        refine (ret_b (rise_any va n vc _ wr HS.out) HR.out.2).mono ?_
        rintro _ Y ⟨rfl, hY⟩
        go_wp2
        go_ret
        exact ⟨ret_bool (by rw [E.out]; rfl), below_over H.out.2.2.2.1 (below_over J.out.2.1 hY)⟩
      · by_cases h64 : n ≤ 64
        · have d1 : decide ((n : Int) ≤ 64) = true := by simp; omega
          have E2 : Hid (decide (n ≤ 64) = true) := decide_eq_true h64
          clear h64
          go_wp2_with fail
          refine (ret_b (rise_any va n vc _ wr HS.out) HR.out.2).mono ?_
          rintro _ Y ⟨rfl, hY⟩
          go_wp2
          go_ret
          exact ⟨ret_bool (by rw [E.out, E2.out]; rfl), below_over H.out.2.2.2.1 (below_over J.out.2.1 hY)⟩
        · have d1 : decide ((n : Int) ≤ 64) = false := by simp; omega
          have E2 : Hid (decide (n ≤ 64) = false) := decide_eq_false h64
          clear h64
          go_wp2_with fail
          refine (ret_b (rise_any va n vc _ wr HS.out) HR.out.2).mono ?_
          rintro _ Y ⟨rfl, hY⟩
          go_wp2
          go_ret
          exact ⟨ret_bool (by rw [E.out, E2.out]; rfl), below_over H.out.2.2.2.1 (below_over J.out.2.1 hY)⟩
theorem mpR_at {p : Pv} {l : List Mp} {i : Nat} {m : Mp} (h : l[i]? = some m) : mpR p (l.take i) (l.drop i) = (okM0 p m && ((l.take i).all (fun k => !smS k m) && (bef (l.take i).getLast? m && mpR p (l.take (i + 1)) (l.drop (i + 1))))) := by
  rw [drop_at h, mpR, List.take_add_one, h]
  rfl
theorem last_take {l : List Mp} {i : Nat} {x : Mp} (h : l[i]? = some x) : (l.take (i + 1)).getLast? = some x := by
  rw [List.take_add_one, h]
  simp
set_option maxHeartbeats 8000000 in
theorem rmap_any (x : Pr) (p : Pv) (w : World) (h : IsPv w x p) :
    Calls Try.prog 100 #[.agg x.cs] w fun r w' => r = .returned (.bool (rM p)) ∧ Below w.heap.size w w' := by
  obtain ⟨a, n, c, hv, hs⟩ := h.m
  obtain ⟨W, hW, r0, bW, zW⟩ := PrAt.new w x
  have c7 := r0.m
  rw [hv] at c7
  have hnn := hs.int
  obtain ⟨R, hR⟩ : ∃ z, mpR p [] p.ms = z := ⟨_, rfl⟩
  have H : Hid (IsPv W x p ∧ SlAt eM W a n c p.ms ∧ p.ms.length = n ∧ Below w.heap.size w W ∧ PrAt W w.heap.size x ∧ x.m = .slice a n c) := ⟨h.below bW, hs.below bW, hs.len, bW, r0, hv⟩
  have HR : Hid (R = mpR p (p.ms.take 0) (p.ms.drop 0)) := hR.symm
  rw [show rM p = (R && decide (n ≤ 64)) by unfold rM; rw [hR, hs.len]]
  clear hs bW zW r0 h hR hv
  go_enter Try.func100, Try.ntmps100
  go_wp2_with fail
  go_loopw [3] (fun v wr => ∃ i : Nat, i ≤ n ∧ v = .int .i64 i ∧ R = mpR p (p.ms.take i) (p.ms.drop i) ∧ Below W.heap.size W wr) (fun v _ => n - (intOf v).toNat)
  case atStart => exact ⟨0, by omega, rfl, HR.out, Below.refl _ _⟩
  case round =>
    obtain ⟨i, hi, rfl, hf, hB⟩ := hrel
    have J : Hid (R = mpR p (p.ms.take i) (p.ms.drop i) ∧ Below W.heap.size W wr) := ⟨hf, hB⟩
    have hi0 : (0 : Int) ≤ (i : Int) := by omega
    clear c7
    have c7 := (H.out.2.2.2.2.1.below hB).m
    rw [H.out.2.2.2.2.2] at c7
    by_cases hit : i < n
    · have hi1 : (i : Int) < (n : Int) := by omega
      obtain ⟨b, o, rfl⟩ := H.out.2.1.some' (by omega)
      obtain ⟨y, hy⟩ := lt_nth (l := p.ms) (i := i) (by rw [H.out.2.2.1]; exact hit)
      have l1 := lM (H.out.2.1.below hB) hy
      obtain ⟨V0, sV, mV, bV⟩ := MpAt.put wr y
      obtain ⟨zb, hzb⟩ : ∃ z, wr.heap.size = z := ⟨_, rfl⟩
      rw [hzb] at mV sV
      have M0 : Hid (MpAt V0 zb y ∧ Below W.heap.size W V0 ∧ wr.heap.size = zb) := ⟨mV, below_over J.out.2 bV, hzb⟩
      have HX : Hid (p.ms[i]? = some y) := hy
      have JR : Hid (R = (okM0 p y && ((p.ms.take i).all (fun k => !smS k y) && (bef (p.ms.take i).getLast? y && mpR p (p.ms.take (i + 1)) (p.ms.drop (i + 1)))))) := by rw [J.out.1, mpR_at hy]; exact rfl
      clear hf hB hy mV bV hzb
      obtain ⟨⟨cu, t0⟩, h0⟩ : ∃ zz, car p y.s = zz := ⟨_, rfl⟩
      have Q0v : Hid (Value.tuple #[.int .i64 (car p y.s).1, .bool (car p y.s).2] = Value.tuple #[.int .i64 cu, .bool t0]) := by rw [h0]; exact rfl
      have Q0 : Hid ((car p y.s).2 = t0) := by rw [h0]; exact rfl
      clear h0
      obtain ⟨t1, h1⟩ : ∃ zz, isV y.v = zz := ⟨_, rfl⟩
      have Q1 : Hid (isV y.v = t1) := h1
      clear h1
      obtain ⟨t2, h2⟩ : ∃ zz, isK p y.p 1 = zz := ⟨_, rfl⟩
      have Q2 : Hid ([y.p].all (fun i => isK p i 1) = t2 ∧ isK p y.p 1 = t2) := ⟨by rw [List.all_cons, List.all_nil, Bool.and_true]; exact h2, h2⟩
      clear h2
      have zz0 := M0.out.2.2
      have k0_0 := M0.out.1.c0
      have k0_1 := M0.out.1.c1
      have k0_2 := M0.out.1.c2
      have p0 := (H.out.2.2.2.2.1.below M0.out.2.1).ld
      go_wp2_with fail
      refine (Calls.ret_eq Q0v.out (rcar_any x p y.s V0 (H.out.1.below M0.out.2.1))).mono ?_
      rintro _ V1 ⟨rfl, hb⟩
      have M1 : Hid (MpAt V1 zb y ∧ Below W.heap.size W V1) := ⟨M0.out.1.below hb, below_over M0.out.2.1 hb⟩
      clear hb k0_0 k0_1 k0_2 p0 zz0
      have k1_0 := M1.out.1.c0
      have k1_1 := M1.out.1.c1
      have k1_2 := M1.out.1.c2
      have p1 := (H.out.2.2.2.2.1.below M1.out.2).ld
      go_wp2_with fail
      refine (ret_b (rvid_any y.v V1) Q1.out).mono ?_
      rintro _ V2 ⟨rfl, hb⟩
      have M2 : Hid (MpAt V2 zb y ∧ Below W.heap.size W V2) := ⟨M1.out.1.below hb, below_over M1.out.2 hb⟩
      clear hb k1_0 k1_1 k1_2 p1
      cases t1
      · skip
        have E : Hid (R = false) := by rw [JR.out]; rw [show okM0 p y = false by unfold okM0; rw [Q1.out]; simp]; exact rfl
        go_wp2
        go_ret
        exact ⟨ret_bool (by rw [E.out]; rfl), below_over H.out.2.2.2.1 M2.out.2⟩
      · cases t0
        · skip
          have E : Hid (R = false) := by rw [JR.out]; rw [show okM0 p y = false by unfold okM0; rw [Q0.out]; simp]; exact rfl
          go_wp2
          go_ret
          exact ⟨ret_bool (by rw [E.out]; rfl), below_over H.out.2.2.2.1 M2.out.2⟩
        · skip
          have k2_0 := M2.out.1.c0
          have k2_1 := M2.out.1.c1
          have k2_2 := M2.out.1.c2
          have p2 := (H.out.2.2.2.2.1.below M2.out.2).ld
          obtain ⟨X2, hX2⟩ : ∃ z, V2.alloc (.cells #[.int .i64 y.p] 3) = z := ⟨_, rfl⟩
          have bX2 : Below V2.heap.size V2 X2 := by rw [← hX2]; exact (Below.refl _ _).alloc (Nat.le_refl _) _
          have sX2 : SlAt eI X2 (some ⟨V2.heap.size, 0, none⟩) 1 1 [y.p] := by rw [← hX2]; exact one_new V2 y.p kI
          have MX : Hid (MpAt X2 zb y ∧ Below W.heap.size W X2 ∧ SlAt eI X2 (some ⟨V2.heap.size, 0, none⟩) 1 1 [y.p]) := ⟨M2.out.1.below bX2, below_over M2.out.2 bX2, sX2⟩
          clear bX2 sX2
          go_wp2_with fail
          refine (ret_b (are_any x p _ 1 1 [y.p] 1 X2 (H.out.1.below MX.out.2.1) MX.out.2.2) Q2.out.1).mono ?_
          rintro _ V3 ⟨rfl, hb⟩
          have M3 : Hid (MpAt V3 zb y ∧ Below W.heap.size W V3) := ⟨MX.out.1.below hb, below_over MX.out.2.1 hb⟩
          clear hb k2_0 k2_1 k2_2 p2
          cases t2
          · skip
            have E : Hid (R = false) := by rw [JR.out]; rw [show okM0 p y = false by unfold okM0; rw [Q2.out.2]; simp]; exact rfl
            go_wp2
            go_ret
            exact ⟨ret_bool (by rw [E.out]; rfl), below_over H.out.2.2.2.1 M3.out.2⟩
          · have EO : Hid (okM0 p y = true) := by unfold okM0; rw [Q1.out, Q0.out, Q2.out.2]; exact rfl
            obtain ⟨R2, hR2⟩ : ∃ z, (p.ms.take i).all (fun k => !smS k y) = z := ⟨_, rfl⟩
            have JR2 : Hid (R = (R2 && (bef (p.ms.take i).getLast? y && mpR p (p.ms.take (i + 1)) (p.ms.drop (i + 1)))) ∧ (p.ms.take i).all (fun k => !smS k y) = R2) := ⟨by rw [JR.out, EO.out, hR2, Bool.true_and], hR2⟩
            have HI : Hid (i < n) := hit
            clear hR2 sV l1 c7 hit
            go_wp2_with fail
            go_loopw [7] (fun v wr => ∃ k : Nat, k ≤ i ∧ v = .int .i64 k ∧ R2 = ((p.ms.take i).drop k).all (fun k => !smS k y) ∧ Below V3.heap.size V3 wr) (fun v _ => i - (intOf v).toNat)
            case atStart => exact ⟨0, by omega, rfl, JR2.out.2.symm, Below.refl _ _⟩
            case round =>
              obtain ⟨k, hk, rfl, hf, hB⟩ := hrel
              have K : Hid (R2 = ((p.ms.take i).drop k).all (fun k => !smS k y) ∧ Below V3.heap.size V3 wr ∧ Below W.heap.size W wr ∧ MpAt wr zb y) := ⟨hf, hB, below_over M3.out.2 hB, M3.out.1.below hB⟩
              have hk0 : (0 : Int) ≤ (k : Int) := by omega
              clear hf hB
              have f0 := fun q : Later wr => (K.out.2.2.2.below q.below).c0
              have f2 := fun q : Later wr => (K.out.2.2.2.below q.below).c2
              have f7 := fun q : Later wr => ((H.out.2.2.2.2.1.below K.out.2.2.1).below q.below).m
              rw [H.out.2.2.2.2.2] at f7
              by_cases hkt : k < i
              · have hk1 : (k : Int) < (i : Int) := by omega
                have hk2 : (k : Int) < (n : Int) := by omega
                obtain ⟨u, hu⟩ := lt_nth (l := p.ms) (i := k) (by rw [H.out.2.2.1]; omega)
                have hu2 : (p.ms.take i)[k]? = some u := by rw [List.getElem?_take, if_pos hkt]; exact hu
                have g0 := fun q : Later wr => lM0 ((H.out.2.1.below K.out.2.2.1).below q.below) hu
                have g2 := fun q : Later wr => lM2 ((H.out.2.1.below K.out.2.2.1).below q.below) hu
                have HU : Hid ((p.ms.take i)[k]? = some u) := hu2
                clear hu hu2
                by_cases e0 : u.p = y.p
                · have q0 : (u.p == y.p) = true := by simp [e0]
                  by_cases e1 : u.s = y.s
                  · have q1 : (u.s == y.s) = true := by simp [e1]
                    have E2 : Hid (R2 = false) := by rw [K.out.1, all_no HU.out (by unfold smS; rw [q0, q1]; rfl)]; exact rfl
                    have E : Hid (R = false) := by rw [JR2.out.1, E2.out]; exact rfl
                    clear e0 e1
                    go_wp2_with fail
                    refine wp_region_later (by kernel_rfl) (by kernel_rfl) ?_
                    repeat (go_big_quiet_step (first | exact rfl))
                    refine wpQuiet_nil ?_
                    intro _ hw'
                    obtain ⟨q, rfl⟩ := hw'
                    clear f0 f2 f7 g0 g2
                    go_wp2
                    go_ret
                    exact ⟨ret_bool (by rw [E.out]; rfl), below_over H.out.2.2.2.1 (below_later K.out.2.2.1 q)⟩
                  · have q1 : (u.s == y.s) = false := by simp [e1]
                    clear e0 e1
                    have E : Hid (R2 = ((p.ms.take i).drop (k + 1)).all (fun k => !smS k y)) := by rw [K.out.1, all_yes HU.out (by unfold smS; rw [q1, Bool.and_false]; rfl)]; exact rfl
                    go_wp2_with fail
                    refine wp_region_later (by kernel_rfl) (by kernel_rfl) ?_
                    repeat (go_big_quiet_step (first | exact rfl))
                    refine wpQuiet_nil ?_
                    intro _ hw'
                    obtain ⟨q, rfl⟩ := hw'
                    clear f0 f2 f7 g0 g2
                    go_wp2
                    go_roundw
                    case rel => exact ⟨k + 1, by omega, by go_num, E.out, below_later K.out.2.1 q⟩
                    case measure => simp [intOf]; omega
                · have q0 : (u.p == y.p) = false := by simp [e0]
                  clear e0
                  have E : Hid (R2 = ((p.ms.take i).drop (k + 1)).all (fun k => !smS k y)) := by rw [K.out.1, all_yes HU.out (by unfold smS; rw [q0, Bool.false_and]; rfl)]; exact rfl
                  go_wp2_with fail
                  refine wp_region_later (by kernel_rfl) (by kernel_rfl) ?_
                  repeat (go_big_quiet_step (first | exact rfl))
                  refine wpQuiet_nil ?_
                  intro _ hw'
                  obtain ⟨q, rfl⟩ := hw'
                  clear f0 f2 f7 g0 g2
                  go_wp2
                  go_roundw
                  case rel => exact ⟨k + 1, by omega, by go_num, E.out, below_later K.out.2.1 q⟩
                  case measure => simp [intOf]; omega
              · have hk1 : ¬ (k : Int) < (i : Int) := by omega
                have ER : Hid (R2 = true) := by rw [K.out.1, all_end (by rw [List.length_take]; omega)]; exact rfl
                have d7 := fun q : Later wr => (K.out.2.2.2.below q.below).ld
                clear hkt
                cases i with
                | zero =>
                  have E : Hid (R = mpR p (p.ms.take (0 + 1)) (p.ms.drop (0 + 1))) := by rw [JR2.out.1, ER.out]; exact rfl
                  go_wp2_with fail
                  refine wp_region_later (by kernel_rfl) (by kernel_rfl) ?_
                  repeat (go_big_quiet_step (first | exact rfl))
                  refine wpQuiet_nil ?_
                  intro _ hw'
                  obtain ⟨q, rfl⟩ := hw'
                  clear f0 f2 f7 d7
                  go_wp2
                  go_roundw
                  case rel => exact ⟨0 + 1, by have := HI.out; omega, by go_num, E.out, below_later K.out.2.2.1 q⟩
                  case measure => have := HI.out; simp [intOf]; omega
                | succ j =>
                  obtain ⟨I, hI⟩ : ∃ z : Int, ((j + 1 : Nat) : Int) = z := ⟨_, rfl⟩
                  obtain ⟨u, hu⟩ := lt_nth (l := p.ms) (i := j) (by rw [H.out.2.2.1]; have := HI.out; omega)
                  have g1 := fun q : Later wr => lM ((H.out.2.1.below K.out.2.2.1).below q.below) hu
                  have HB : Hid (bef (p.ms.take (j + 1)).getLast? y = ltM u y) := by rw [last_take hu]; exact rfl
                  have PP : Hid (∀ q : Later wr, _) := fun q : Later wr => before_any u y q.val
                  obtain ⟨t, ht⟩ : ∃ z, ltM u y = z := ⟨_, rfl⟩
                  rw [ht] at PP HB
                  have hj0 : (0 : Int) ≤ (j : Int) := by omega
                  have hj1 : (j : Int) < (n : Int) := by have := HI.out; omega
                  have hj2 : I - 1 = (j : Int) := by omega
                  have hj3 : decide (I > 0) = true := by simp; omega
                  have hj4 : decide (0 < I) = true := by simp; omega
                  have hj5 : (0 : Int) ≤ I := by omega
                  have hj6 : I ≤ 9223372036854775806 := by have := HI.out; omega
                  have hk1' : ¬ (k : Int) < I := by omega
                  rw [hI]
                  have HII : Hid (((j + 1 : Nat) : Int) = I) := hI
                  clear hI hi0 hk1 hi1 hi
                  clear hu ht
                  cases t
                  · have E : Hid (R = false) := by rw [JR2.out.1, ER.out, HB.out]; exact rfl
                    go_wp2_with fail
                    refine wp_region_later (by kernel_rfl) (by kernel_rfl) ?_
                    repeat (go_big_quiet_step (first | exact rfl | (go_at_call 103; with_reducible exact Calls.later_of (PP.out _))))
                    refine wpQuiet_nil ?_
                    intro _ hw'
                    obtain ⟨q, rfl⟩ := hw'
                    clear f0 f2 f7 d7 g1 PP
                    go_wp2
                    go_ret
                    exact ⟨ret_bool (by rw [E.out]; rfl), below_over H.out.2.2.2.1 (below_later K.out.2.2.1 q)⟩
                  · have E : Hid (R = mpR p (p.ms.take (j + 1 + 1)) (p.ms.drop (j + 1 + 1))) := by rw [JR2.out.1, ER.out, HB.out]; exact rfl
                    go_wp2_with fail
                    refine wp_region_later (by kernel_rfl) (by kernel_rfl) ?_
                    repeat (go_big_quiet_step (first | exact rfl | (go_at_call 103; with_reducible exact Calls.later_of (PP.out _))))
                    refine wpQuiet_nil ?_
                    intro _ hw'
                    obtain ⟨q, rfl⟩ := hw'
                    clear f0 f2 f7 d7 g1 PP
                    go_wp2
                    go_roundw
                    case rel => exact ⟨j + 1 + 1, by have := HI.out; omega, by rw [← HII.out]; go_num, E.out, below_later K.out.2.2.1 q⟩
                    case measure => have h1 := HI.out; have h2 := HII.out; simp [intOf]; omega
    · have hin : i = n := by omega
      have hi1 : ¬ (i : Int) < (n : Int) := by omega
      have E : Hid (R = true) := by rw [J.out.1, drop_end (by rw [H.out.2.2.1]; omega)]; exact rfl
      clear hf hB hin
      by_cases h64 : n ≤ 64
      · have d1 : decide ((n : Int) ≤ 64) = true := by simp; omega
        have E2 : Hid (decide (n ≤ 64) = true) := decide_eq_true h64
        clear h64
        go_wp2
        go_ret
        exact ⟨ret_bool (by rw [E.out, E2.out]; rfl), below_over H.out.2.2.2.1 J.out.2⟩
      · have d1 : decide ((n : Int) ≤ 64) = false := by simp; omega
        have E2 : Hid (decide (n ≤ 64) = false) := decide_eq_false h64
        clear h64
        go_wp2
        go_ret
        exact ⟨ret_bool (by rw [E.out, E2.out]; rfl), below_over H.out.2.2.2.1 J.out.2⟩
end Go.Proofs.Ytgjagedngdhdaaa
