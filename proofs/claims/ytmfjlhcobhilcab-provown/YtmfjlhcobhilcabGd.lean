/-
  What may be provisioned: walks of the code, each for every input.
-/
import Derived.Test.YtmfjlhcobhilcabClo
namespace Go.Proofs.Ytmfjlhcobhilcab
set_option linter.unusedVariables false
set_option maxRecDepth 4000
set_option linter.unusedSimpArgs false
open Go.RowKit
attribute [local go_sem ↓] ldM stM ldC stC ldB stB ldP stP apI bsI
attribute [local go_sem] bsI_is bsI2_is

theorem Mem.vs {W : World} {r : List Mr} {l : List Mb} (h : Mem W r l) : r.map (fun m => m.v) = l.map (fun m => m.v) := by
  refine List.ext_getElem? fun i => ?_
  rw [List.getElem?_map, List.getElem?_map]
  by_cases hi : i < l.length
  · obtain ⟨x, y, hx, hy, e, _⟩ := h.get hi
    rw [hx, hy]
    simp [e]
  · rw [List.getElem?_eq_none (by rw [h.len]; omega), List.getElem?_eq_none (by omega)]
    rfl
theorem Mem.ris {W : World} {r : List Mr} {l : List Mb} (h : Mem W r l) : ris ltR r = ris ltB l := by
  have h1 := ris_map (lt := ltI) (f := fun m : Mr => m.v) r
  have h2 := ris_map (lt := ltI) (f := fun m : Mb => m.v) l
  rw [h.vs] at h1
  exact h1.symm.trans h2
set_option maxHeartbeats 2000000 in
theorem allt_any (x : Pr) (p : Pv) (a : Option Addr) (n c : Nat) (l : List Int) (w : World) (h : IsPv w x p) (hs : SlAt eI w a n c l) :
    Calls Try.prog 58 #[.agg x.cs, .slice a n c] w fun r w' => r = .returned (.bool (l.all (hasP p))) ∧ Below w.heap.size w w' := by
  obtain ⟨W, hW, r0, bW, zW⟩ := PrAt.new w x
  have hnn := hs.int
  obtain ⟨R, hR⟩ : ∃ z, l.all (hasP p) = z := ⟨_, rfl⟩
  have H : Hid (IsPv W x p ∧ SlAt eI W a n c l ∧ l.length = n ∧ Below w.heap.size w W ∧ PrAt W w.heap.size x) := ⟨h.below bW, hs.below bW, hs.len, bW, r0⟩
  have HR : Hid (l.all (hasP p) = R) := hR
  rw [hR]
  clear hs bW zW r0 h hR
  go_enter Try.func58, Try.ntmps58
  go_wp2_with fail
  go_loopw [9] (fun v wr => ∃ i : Nat, i ≤ n ∧ v = .int .i64 i ∧ R = (l.drop i).all (hasP p) ∧ Below W.heap.size W wr) (fun v _ => n - (intOf v).toNat)
  case atStart => exact ⟨0, by omega, rfl, HR.out.symm, Below.refl _ _⟩
  case round =>
    obtain ⟨i, hi, rfl, hf, hB⟩ := hrel
    have J : Hid (R = (l.drop i).all (hasP p) ∧ Below W.heap.size W wr) := ⟨hf, hB⟩
    have hi0 : (0 : Int) ≤ (i : Int) := by omega
    by_cases hit : i < n
    · have hi1 : (i : Int) < (n : Int) := by omega
      obtain ⟨b, o, rfl⟩ := H.out.2.1.some' (by omega)
      obtain ⟨y, hy⟩ := lt_nth (l := l) (i := i) (by rw [H.out.2.2.1]; exact hit)
      have l0 := lI (H.out.2.1.below hB) hy
      have l1 := (H.out.2.2.2.2.below hB).ld
      have HX : Hid (l[i]? = some y) := hy
      clear hf hB hy
      obtain ⟨t0, h0⟩ : ∃ zz, hasP p y = zz := ⟨_, rfl⟩
      have Q : Hid (hasP p y = t0) := h0
      clear h0
      cases t0
      · have E : Hid (R = false) := by rw [J.out.1, all_no HX.out Q.out]; exact rfl
        go_wp2_with fail
        refine (ret_b (hasp_any x p y wr (H.out.1.below J.out.2)) Q.out).mono ?_
        rintro _ Y ⟨rfl, hY⟩
        go_wp2
        go_ret
        exact ⟨ret_bool E.out.symm, below_over H.out.2.2.2.1 (below_over J.out.2 hY)⟩
      · have E : Hid (R = (l.drop (i + 1)).all (hasP p)) := by rw [J.out.1, all_yes HX.out Q.out]; exact rfl
        go_wp2_with fail
        refine (ret_b (hasp_any x p y wr (H.out.1.below J.out.2)) Q.out).mono ?_
        rintro _ Y ⟨rfl, hY⟩
        have G : Hid (Below W.heap.size W Y) := below_over J.out.2 hY
        clear hY
        go_wp2
        go_roundw
        case rel => exact ⟨i + 1, by omega, by go_num, E.out, G.out⟩
        case measure => simp [intOf]; omega
    · have hin : i = n := by omega
      subst hin
      have hi1 : ¬ (i : Int) < (i : Int) := by omega
      have E : Hid (R = true) := by rw [J.out.1, all_end (by rw [H.out.2.2.1]; exact Nat.le_refl _)]; exact rfl
      clear hf hB
      go_wp2
      go_ret
      exact ⟨ret_bool E.out.symm, below_over H.out.2.2.2.1 J.out.2⟩
set_option maxHeartbeats 2000000 in
theorem allb_any (x : Pr) (p : Pv) (a : Option Addr) (n c : Nat) (l : List Int) (w : World) (h : IsPv w x p) (hs : SlAt eI w a n c l) :
    Calls Try.prog 59 #[.agg x.cs, .slice a n c] w fun r w' => r = .returned (.bool (l.all (fun i => isK p i 2))) ∧ Below w.heap.size w w' := by
  obtain ⟨W, hW, r0, bW, zW⟩ := PrAt.new w x
  have hnn := hs.int
  obtain ⟨R, hR⟩ : ∃ z, l.all (fun i => isK p i 2) = z := ⟨_, rfl⟩
  have H : Hid (IsPv W x p ∧ SlAt eI W a n c l ∧ l.length = n ∧ Below w.heap.size w W ∧ PrAt W w.heap.size x) := ⟨h.below bW, hs.below bW, hs.len, bW, r0⟩
  have HR : Hid (l.all (fun i => isK p i 2) = R) := hR
  rw [hR]
  clear hs bW zW r0 h hR
  go_enter Try.func59, Try.ntmps59
  go_wp2_with fail
  go_loopw [9] (fun v wr => ∃ i : Nat, i ≤ n ∧ v = .int .i64 i ∧ R = (l.drop i).all (fun i => isK p i 2) ∧ Below W.heap.size W wr) (fun v _ => n - (intOf v).toNat)
  case atStart => exact ⟨0, by omega, rfl, HR.out.symm, Below.refl _ _⟩
  case round =>
    obtain ⟨i, hi, rfl, hf, hB⟩ := hrel
    have J : Hid (R = (l.drop i).all (fun i => isK p i 2) ∧ Below W.heap.size W wr) := ⟨hf, hB⟩
    have hi0 : (0 : Int) ≤ (i : Int) := by omega
    by_cases hit : i < n
    · have hi1 : (i : Int) < (n : Int) := by omega
      obtain ⟨b, o, rfl⟩ := H.out.2.1.some' (by omega)
      obtain ⟨y, hy⟩ := lt_nth (l := l) (i := i) (by rw [H.out.2.2.1]; exact hit)
      have l0 := lI (H.out.2.1.below hB) hy
      have l1 := (H.out.2.2.2.2.below hB).ld
      have HX : Hid (l[i]? = some y) := hy
      clear hf hB hy
      obtain ⟨t0, h0⟩ : ∃ zz, isK p y 2 = zz := ⟨_, rfl⟩
      have Q : Hid (isK p y 2 = t0) := h0
      clear h0
      cases t0
      · have E : Hid (R = false) := by rw [J.out.1, all_no HX.out Q.out]; exact rfl
        go_wp2_with fail
        refine (ret_b (isk_any x p y 2 wr (H.out.1.below J.out.2)) Q.out).mono ?_
        rintro _ Y ⟨rfl, hY⟩
        go_wp2
        go_ret
        exact ⟨ret_bool E.out.symm, below_over H.out.2.2.2.1 (below_over J.out.2 hY)⟩
      · have E : Hid (R = (l.drop (i + 1)).all (fun i => isK p i 2)) := by rw [J.out.1, all_yes HX.out Q.out]; exact rfl
        go_wp2_with fail
        refine (ret_b (isk_any x p y 2 wr (H.out.1.below J.out.2)) Q.out).mono ?_
        rintro _ Y ⟨rfl, hY⟩
        have G : Hid (Below W.heap.size W Y) := below_over J.out.2 hY
        clear hY
        go_wp2
        go_roundw
        case rel => exact ⟨i + 1, by omega, by go_num, E.out, G.out⟩
        case measure => simp [intOf]; omega
    · have hin : i = n := by omega
      subst hin
      have hi1 : ¬ (i : Int) < (i : Int) := by omega
      have E : Hid (R = true) := by rw [J.out.1, all_end (by rw [H.out.2.2.1]; exact Nat.le_refl _)]; exact rfl
      clear hf hB
      go_wp2
      go_ret
      exact ⟨ret_bool E.out.symm, below_over H.out.2.2.2.1 J.out.2⟩
set_option maxHeartbeats 2000000 in
theorem goodk_any (a : Option Addr) (n c : Nat) (l : List Int) (w : World) (hs : SlAt eK w a n c l) :
    Calls Try.prog 40 #[.slice a n c] w fun r w' => r = .returned (.bool (gK l)) ∧ Below w.heap.size w w' := by
  have hnn := hs.int
  have hln := hs.len
  have U : gK l = (decide (1 ≤ n) && (decide (n ≤ 8) && l.all (fun k => k == 1 || k == 2))) := by unfold gK; rw [hln]
  by_cases h1 : 1 ≤ n
  · have d1 : decide ((n : Int) < 1) = false := by simp; omega
    by_cases h2 : n ≤ 8
    · have d2 : decide ((n : Int) > 8) = false := by simp; omega
      have d3 : decide ((8 : Int) < (n : Int)) = false := by simp; omega
      obtain ⟨R, hR⟩ : ∃ z, l.all (fun k => k == 1 || k == 2) = z := ⟨_, rfl⟩
      rw [hR, decide_eq_true h1, decide_eq_true h2, Bool.true_and, Bool.true_and] at U
      have H : Hid (SlAt eK w a n c l ∧ l.length = n) := ⟨hs, hln⟩
      have HR : Hid (l.all (fun k => k == 1 || k == 2) = R) := hR
      rw [U]
      clear U hs hln hR h1 h2
      go_enter Try.func40, Try.ntmps40
      go_wp2_with fail
      go_loopw [15] (fun v wr => ∃ i : Nat, i ≤ n ∧ v = .int .i64 i ∧ R = (l.drop i).all (fun k => k == 1 || k == 2) ∧ wr = w) (fun v _ => n - (intOf v).toNat)
      case atStart => exact ⟨0, by omega, rfl, HR.out.symm, rfl⟩
      case round =>
        obtain ⟨i, hi, rfl, hf, hw⟩ := hrel
        have J : Hid (R = (l.drop i).all (fun k => k == 1 || k == 2) ∧ wr = w) := ⟨hf, hw⟩
        have hi0 : (0 : Int) ≤ (i : Int) := by omega
        by_cases hit : i < n
        · have hi1 : (i : Int) < (n : Int) := by omega
          obtain ⟨b, o, rfl⟩ := H.out.1.some' (by omega)
          obtain ⟨y, hy⟩ := lt_nth (l := l) (i := i) (by rw [H.out.2]; exact hit)
          have l0 := lK H.out.1 hy
          rw [← hw] at l0
          have HX : Hid (l[i]? = some y) := hy
          clear hf hw hy
          by_cases e1 : y = 1
          · subst e1
            have E : Hid (R = (l.drop (i + 1)).all (fun k => k == 1 || k == 2)) := by rw [J.out.1, all_yes HX.out rfl]; exact rfl
            go_wp2
            go_roundw
            case rel => exact ⟨i + 1, by omega, by go_num, E.out, J.out.2⟩
            case measure => simp [intOf]; omega
          · have q1 : (y != 1) = true := by simp [e1]
            by_cases e2 : y = 2
            · subst e2
              have E : Hid (R = (l.drop (i + 1)).all (fun k => k == 1 || k == 2)) := by rw [J.out.1, all_yes HX.out rfl]; exact rfl
              clear e1
              go_wp2
              go_roundw
              case rel => exact ⟨i + 1, by omega, by go_num, E.out, J.out.2⟩
              case measure => simp [intOf]; omega
            · have q2 : (y != 2) = true := by simp [e2]
              have E : Hid (R = false) := by rw [J.out.1, all_no HX.out (by simp [e1, e2])]; exact rfl
              clear e1 e2
              go_wp2
              go_ret
              exact ⟨ret_bool E.out.symm, by rw [J.out.2]; exact Below.refl _ _⟩
        · have hin : i = n := by omega
          subst hin
          have hi1 : ¬ (i : Int) < (i : Int) := by omega
          have E : Hid (R = true) := by rw [J.out.1, all_end (by rw [H.out.2]; exact Nat.le_refl _)]; exact rfl
          clear hf hw
          go_wp2
          go_ret
          exact ⟨ret_bool E.out.symm, by rw [J.out.2]; exact Below.refl _ _⟩
    · have d2 : decide ((n : Int) > 8) = true := by simp; omega
      have d3 : decide ((8 : Int) < (n : Int)) = true := by simp; omega
      rw [decide_eq_true h1, decide_eq_false h2, Bool.true_and, Bool.false_and] at U
      rw [U]
      clear U hs hln h1 h2
      go_enter Try.func40, Try.ntmps40
      go_wp2
      go_ret
      exact ⟨rfl, Below.refl _ _⟩
  · have d1 : decide ((n : Int) < 1) = true := by simp; omega
    rw [decide_eq_false h1, Bool.false_and] at U
    rw [U]
    clear U hs hln h1
    go_enter Try.func40, Try.ntmps40
    go_wp2
    go_ret
    exact ⟨rfl, Below.refl _ _⟩
theorem room_any (x : Pr) (p : Pv) (w : World) (h : IsPv w x p) :
    Calls Try.prog 41 #[.agg x.cs] w fun r w' => r = .returned (.bool (room p)) ∧ Below w.heap.size w w' := by
  obtain ⟨a1, n1, c1, hv1, hs1⟩ := h.m
  obtain ⟨a2, n2, c2, hv2, hs2⟩ := h.c
  obtain ⟨rr, ⟨a3, n3, c3, hv3, hs3⟩, hm⟩ := h.b
  obtain ⟨W, hW, r0, bW, zW⟩ := PrAt.new w x
  have k1 := r0.m
  have k2 := r0.c
  have k3 := r0.b
  rw [hv1] at k1
  rw [hv2] at k2
  rw [hv3] at k3
  have i1 := hs1.int
  have i2 := hs2.int
  have i3 := hs3.int
  have B : Hid (Below w.heap.size w W) := bW
  have U : room p = (decide (n1 ≤ 64) && (decide (n2 ≤ 64) && decide (n3 ≤ 64))) := by unfold room; rw [hs1.len, hs2.len, ← hm.len, hs3.len]
  clear hs1 hs2 hs3 hm hv1 hv2 hv3 r0 bW zW h
  by_cases h1 : n1 ≤ 64
  · have d1 : decide ((n1 : Int) ≤ 64) = true := by simp; omega
    by_cases h2 : n2 ≤ 64
    · have d2 : decide ((n2 : Int) ≤ 64) = true := by simp; omega
      by_cases h3 : n3 ≤ 64
      · have d3 : decide ((n3 : Int) ≤ 64) = true := by simp; omega
        rw [decide_eq_true h1, decide_eq_true h2, decide_eq_true h3] at U
        rw [U]
        clear U h1 h2 h3
        go_enter Try.func41, Try.ntmps41
        go_wp2
        go_ret
        exact ⟨rfl, B.out⟩
      · have d3 : decide ((n3 : Int) ≤ 64) = false := by simp; omega
        rw [decide_eq_true h1, decide_eq_true h2, decide_eq_false h3] at U
        rw [U]
        clear U h1 h2 h3
        go_enter Try.func41, Try.ntmps41
        go_wp2
        go_ret
        exact ⟨rfl, B.out⟩
    · have d2 : decide ((n2 : Int) ≤ 64) = false := by simp; omega
      rw [decide_eq_true h1, decide_eq_false h2] at U
      rw [U]
      clear U h1 h2
      go_enter Try.func41, Try.ntmps41
      go_wp2
      go_ret
      exact ⟨rfl, B.out⟩
  · have d1 : decide ((n1 : Int) ≤ 64) = false := by simp; omega
    rw [decide_eq_false h1] at U
    rw [U]
    clear U h1
    go_enter Try.func41, Try.ntmps41
    go_wp2
    go_ret
    exact ⟨rfl, B.out⟩
set_option maxHeartbeats 4000000 in
theorem goodb_any (x : Pr) (p : Pv) (w : World) (h : IsPv w x p) (hl : ∀ m ∈ p.bs, m.ps.length ≤ 1000) :
    Calls Try.prog 42 #[.agg x.cs] w fun r w' => r = .returned (.bool (gB p)) ∧ Below w.heap.size w w' := by
  obtain ⟨rr, ⟨a, n, c, hv, hs⟩, hm⟩ := h.b
  obtain ⟨W, hW, r0, bW, zW⟩ := PrAt.new w x
  have c7 := r0.b
  rw [hv] at c7
  have hnn := hs.int
  obtain ⟨R, hR⟩ : ∃ z, p.bs.all (okB p) = z := ⟨_, rfl⟩
  obtain ⟨S, hS⟩ : ∃ z, ris ltB p.bs = z := ⟨_, rfl⟩
  have H : Hid (IsPv W x p ∧ SlAt eB W a n c rr ∧ rr.length = n ∧ Below w.heap.size w W ∧ PrAt W w.heap.size x ∧ x.b = .slice a n c ∧ (∀ m ∈ p.bs, m.ps.length ≤ 1000) ∧ Mem W rr p.bs) := ⟨h.below bW, hs.below bW, hs.len, bW, r0, hv, hl, hm.below bW⟩
  have HR : Hid (p.bs.all (okB p) = R ∧ ris ltB p.bs = S) := ⟨hR, hS⟩
  rw [show gB p = (R && S) by unfold gB; rw [hR, hS]]
  clear hs bW zW r0 h hR hS hv hl hm
  go_enter Try.func42, Try.ntmps42
  go_wp2_with fail
  go_loopw [8] (fun v wr => ∃ i : Nat, i ≤ n ∧ v = .int .i64 i ∧ R = (p.bs.drop i).all (okB p) ∧ Below W.heap.size W wr) (fun v _ => n - (intOf v).toNat)
  case atStart => exact ⟨0, by omega, rfl, HR.out.1.symm, Below.refl _ _⟩
  case round =>
    obtain ⟨i, hi, rfl, hf, hB⟩ := hrel
    have J : Hid (R = (p.bs.drop i).all (okB p) ∧ Below W.heap.size W wr) := ⟨hf, hB⟩
    have hi0 : (0 : Int) ≤ (i : Int) := by omega
    clear c7
    have c7 := (H.out.2.2.2.2.1.below hB).b
    rw [H.out.2.2.2.2.2.1] at c7
    by_cases hit : i < n
    · have hi1 : (i : Int) < (n : Int) := by omega
      obtain ⟨b, o, rfl⟩ := H.out.2.1.some' (by omega)
      obtain ⟨y, z, hy, hz, hvz, hps⟩ := H.out.2.2.2.2.2.2.2.get (i := i) (by rw [← H.out.2.2.2.2.2.2.2.len, H.out.2.2.1]; exact hit)
      have l1 := lB (H.out.2.1.below hB) hy
      obtain ⟨V0, sV, mV, bV⟩ := MrAt.put wr y
      have M0 : Hid (MrAt V0 wr.heap.size y ∧ Below W.heap.size W V0) := ⟨mV, below_over J.out.2 bV⟩
      have HX : Hid (p.bs[i]? = some z ∧ y.v = z.v ∧ SlAt eI W y.a y.n y.c z.ps) := ⟨hz, hvz, hps⟩
      clear hf hB hy mV bV hz hvz hps
      obtain ⟨t0, h0⟩ : ∃ zz, isV y.v = zz := ⟨_, rfl⟩
      have Q0 : Hid (isV y.v = t0) := h0
      clear h0
      cases t0
      · have E : Hid (R = false) := by rw [J.out.1, all_no HX.out.1 (by show okB p z = false; unfold okB; rw [← HX.out.2.1]; simp only [Q0.out, Bool.false_and, Bool.and_false, Bool.true_and, Bool.and_true])]; exact rfl
        have k0_0 := M0.out.1.c0
        have k0_1 := M0.out.1.c1
        have p0 := (H.out.2.2.2.2.1.below M0.out.2).ld
        go_wp2_with fail
        refine (ret_b (isv_any y.v V0) Q0.out).mono ?_
        rintro _ V1 ⟨rfl, hb⟩
        have M1 : Hid (MrAt V1 wr.heap.size y ∧ Below W.heap.size W V1) := ⟨M0.out.1.below hb, below_over M0.out.2 hb⟩
        clear hb
        clear k0_0
        clear k0_1
        clear p0
        have k1_0 := M1.out.1.c0
        have k1_1 := M1.out.1.c1
        have p1 := (H.out.2.2.2.2.1.below M1.out.2).ld
        go_wp2
        go_ret
        exact ⟨ret_bool (by rw [E.out]; rfl), below_over H.out.2.2.2.1 M1.out.2⟩
      · skip
        obtain ⟨t1, h1⟩ : ∃ zz, ris ltI z.ps = zz := ⟨_, rfl⟩
        have Q1 : Hid (ris ltI z.ps = t1) := h1
        clear h1
        cases t1
        · have E : Hid (R = false) := by rw [J.out.1, all_no HX.out.1 (by show okB p z = false; unfold okB; rw [← HX.out.2.1]; simp only [Q0.out, Q1.out, Bool.false_and, Bool.and_false, Bool.true_and, Bool.and_true])]; exact rfl
          have k0_0 := M0.out.1.c0
          have k0_1 := M0.out.1.c1
          have p0 := (H.out.2.2.2.2.1.below M0.out.2).ld
          go_wp2_with fail
          refine (ret_b (isv_any y.v V0) Q0.out).mono ?_
          rintro _ V1 ⟨rfl, hb⟩
          have M1 : Hid (MrAt V1 wr.heap.size y ∧ Below W.heap.size W V1) := ⟨M0.out.1.below hb, below_over M0.out.2 hb⟩
          clear hb
          clear k0_0
          clear k0_1
          clear p0
          have k1_0 := M1.out.1.c0
          have k1_1 := M1.out.1.c1
          have p1 := (H.out.2.2.2.2.1.below M1.out.2).ld
          go_wp2_with fail
          refine (ret_b (risI_any y.a y.n y.c z.ps V1 (HX.out.2.2.below M1.out.2)) Q1.out).mono ?_
          rintro _ V2 ⟨rfl, hb⟩
          have M2 : Hid (MrAt V2 wr.heap.size y ∧ Below W.heap.size W V2) := ⟨M1.out.1.below hb, below_over M1.out.2 hb⟩
          clear hb
          clear k1_0
          clear k1_1
          clear p1
          have k2_0 := M2.out.1.c0
          have k2_1 := M2.out.1.c1
          have p2 := (H.out.2.2.2.2.1.below M2.out.2).ld
          go_wp2
          go_ret
          exact ⟨ret_bool (by rw [E.out]; rfl), below_over H.out.2.2.2.1 M2.out.2⟩
        · skip
          obtain ⟨t2, h2⟩ : ∃ zz, z.ps.all (fun i => isK p i 2) = zz := ⟨_, rfl⟩
          have Q2 : Hid (z.ps.all (fun i => isK p i 2) = t2) := h2
          clear h2
          cases t2
          · have E : Hid (R = false) := by rw [J.out.1, all_no HX.out.1 (by show okB p z = false; unfold okB; rw [← HX.out.2.1]; simp only [Q0.out, Q1.out, Q2.out, Bool.false_and, Bool.and_false, Bool.true_and, Bool.and_true])]; exact rfl
            have k0_0 := M0.out.1.c0
            have k0_1 := M0.out.1.c1
            have p0 := (H.out.2.2.2.2.1.below M0.out.2).ld
            go_wp2_with fail
            refine (ret_b (isv_any y.v V0) Q0.out).mono ?_
            rintro _ V1 ⟨rfl, hb⟩
            have M1 : Hid (MrAt V1 wr.heap.size y ∧ Below W.heap.size W V1) := ⟨M0.out.1.below hb, below_over M0.out.2 hb⟩
            clear hb
            clear k0_0
            clear k0_1
            clear p0
            have k1_0 := M1.out.1.c0
            have k1_1 := M1.out.1.c1
            have p1 := (H.out.2.2.2.2.1.below M1.out.2).ld
            go_wp2_with fail
            refine (ret_b (risI_any y.a y.n y.c z.ps V1 (HX.out.2.2.below M1.out.2)) Q1.out).mono ?_
            rintro _ V2 ⟨rfl, hb⟩
            have M2 : Hid (MrAt V2 wr.heap.size y ∧ Below W.heap.size W V2) := ⟨M1.out.1.below hb, below_over M1.out.2 hb⟩
            clear hb
            clear k1_0
            clear k1_1
            clear p1
            have k2_0 := M2.out.1.c0
            have k2_1 := M2.out.1.c1
            have p2 := (H.out.2.2.2.2.1.below M2.out.2).ld
            go_wp2_with fail
            refine (ret_b (allb_any x p y.a y.n y.c z.ps V2 (H.out.1.below M2.out.2) (HX.out.2.2.below M2.out.2)) Q2.out).mono ?_
            rintro _ V3 ⟨rfl, hb⟩
            have M3 : Hid (MrAt V3 wr.heap.size y ∧ Below W.heap.size W V3) := ⟨M2.out.1.below hb, below_over M2.out.2 hb⟩
            clear hb
            clear k2_0
            clear k2_1
            clear p2
            have k3_0 := M3.out.1.c0
            have k3_1 := M3.out.1.c1
            have p3 := (H.out.2.2.2.2.1.below M3.out.2).ld
            go_wp2
            go_ret
            exact ⟨ret_bool (by rw [E.out]; rfl), below_over H.out.2.2.2.1 M3.out.2⟩
          · skip
            have E : Hid (R = (p.bs.drop (i + 1)).all (okB p)) := by rw [J.out.1, all_yes HX.out.1 (by show okB p z = true; unfold okB; rw [← HX.out.2.1]; simp only [Q0.out, Q1.out, Q2.out, Bool.false_and, Bool.and_false, Bool.true_and, Bool.and_true])]; exact rfl
            have k0_0 := M0.out.1.c0
            have k0_1 := M0.out.1.c1
            have p0 := (H.out.2.2.2.2.1.below M0.out.2).ld
            go_wp2_with fail
            refine (ret_b (isv_any y.v V0) Q0.out).mono ?_
            rintro _ V1 ⟨rfl, hb⟩
            have M1 : Hid (MrAt V1 wr.heap.size y ∧ Below W.heap.size W V1) := ⟨M0.out.1.below hb, below_over M0.out.2 hb⟩
            clear hb
            clear k0_0
            clear k0_1
            clear p0
            have k1_0 := M1.out.1.c0
            have k1_1 := M1.out.1.c1
            have p1 := (H.out.2.2.2.2.1.below M1.out.2).ld
            go_wp2_with fail
            refine (ret_b (risI_any y.a y.n y.c z.ps V1 (HX.out.2.2.below M1.out.2)) Q1.out).mono ?_
            rintro _ V2 ⟨rfl, hb⟩
            have M2 : Hid (MrAt V2 wr.heap.size y ∧ Below W.heap.size W V2) := ⟨M1.out.1.below hb, below_over M1.out.2 hb⟩
            clear hb
            clear k1_0
            clear k1_1
            clear p1
            have k2_0 := M2.out.1.c0
            have k2_1 := M2.out.1.c1
            have p2 := (H.out.2.2.2.2.1.below M2.out.2).ld
            go_wp2_with fail
            refine (ret_b (allb_any x p y.a y.n y.c z.ps V2 (H.out.1.below M2.out.2) (HX.out.2.2.below M2.out.2)) Q2.out).mono ?_
            rintro _ V3 ⟨rfl, hb⟩
            have M3 : Hid (MrAt V3 wr.heap.size y ∧ Below W.heap.size W V3) := ⟨M2.out.1.below hb, below_over M2.out.2 hb⟩
            clear hb
            clear k2_0
            clear k2_1
            clear p2
            have k3_0 := M3.out.1.c0
            have k3_1 := M3.out.1.c1
            have p3 := (H.out.2.2.2.2.1.below M3.out.2).ld
            go_wp2
            go_roundw
            case rel => exact ⟨i + 1, by omega, by go_num, E.out, M3.out.2⟩
            case measure => simp [intOf]; omega
    · have hin : i = n := by omega
      subst hin
      have hi1 : ¬ (i : Int) < (i : Int) := by omega
      have E : Hid (R = true) := by rw [J.out.1, all_end (by rw [← H.out.2.2.2.2.2.2.2.len, H.out.2.2.1]; exact Nat.le_refl _)]; exact rfl
      clear hf hB
      go_wp2_with fail
      refine (ret_b (risB_any a i c rr wr (H.out.2.1.below J.out.2)) ((H.out.2.2.2.2.2.2.2.ris).trans HR.out.2)).mono ?_
      rintro _ Y ⟨rfl, hY⟩
      go_wp2
      go_ret
      exact ⟨ret_bool (by rw [E.out, Bool.true_and]), below_over H.out.2.2.2.1 (below_over J.out.2 hY)⟩
set_option maxHeartbeats 4000000 in
theorem goodc_any (x : Pr) (p : Pv) (w : World) (h : IsPv w x p) (hl : ∀ m ∈ p.bs, m.ps.length ≤ 1000) :
    Calls Try.prog 43 #[.agg x.cs] w fun r w' => r = .returned (.bool (gC p)) ∧ Below w.heap.size w w' := by
  obtain ⟨a, n, c, hv, hs⟩ := h.c
  obtain ⟨W, hW, r0, bW, zW⟩ := PrAt.new w x
  have c7 := r0.c
  rw [hv] at c7
  have hnn := hs.int
  obtain ⟨R, hR⟩ : ∃ z, p.cs.all (okC p) = z := ⟨_, rfl⟩
  obtain ⟨S, hS⟩ : ∃ z, ris ltC p.cs = z := ⟨_, rfl⟩
  have H : Hid (IsPv W x p ∧ SlAt eC W a n c p.cs ∧ p.cs.length = n ∧ Below w.heap.size w W ∧ PrAt W w.heap.size x ∧ x.c = .slice a n c ∧ (∀ m ∈ p.bs, m.ps.length ≤ 1000) ∧ True) := ⟨h.below bW, hs.below bW, hs.len, bW, r0, hv, hl, trivial⟩
  have HR : Hid (p.cs.all (okC p) = R ∧ ris ltC p.cs = S) := ⟨hR, hS⟩
  rw [show gC p = (R && S) by unfold gC; rw [hR, hS]]
  clear hs bW zW r0 h hR hS hv hl
  go_enter Try.func43, Try.ntmps43
  go_wp2_with fail
  go_loopw [8] (fun v wr => ∃ i : Nat, i ≤ n ∧ v = .int .i64 i ∧ R = (p.cs.drop i).all (okC p) ∧ Below W.heap.size W wr) (fun v _ => n - (intOf v).toNat)
  case atStart => exact ⟨0, by omega, rfl, HR.out.1.symm, Below.refl _ _⟩
  case round =>
    obtain ⟨i, hi, rfl, hf, hB⟩ := hrel
    have J : Hid (R = (p.cs.drop i).all (okC p) ∧ Below W.heap.size W wr) := ⟨hf, hB⟩
    have hi0 : (0 : Int) ≤ (i : Int) := by omega
    clear c7
    have c7 := (H.out.2.2.2.2.1.below hB).c
    rw [H.out.2.2.2.2.2.1] at c7
    by_cases hit : i < n
    · have hi1 : (i : Int) < (n : Int) := by omega
      obtain ⟨b, o, rfl⟩ := H.out.2.1.some' (by omega)
      obtain ⟨y, hy⟩ := lt_nth (l := p.cs) (i := i) (by rw [H.out.2.2.1]; exact hit)
      have l1 := lC (H.out.2.1.below hB) hy
      obtain ⟨V0, sV, mV, bV⟩ := CrAt.put wr y
      have M0 : Hid (CrAt V0 wr.heap.size y ∧ Below W.heap.size W V0) := ⟨mV, below_over J.out.2 bV⟩
      have HX : Hid (p.cs[i]? = some y ∧ True) := ⟨hy, trivial⟩
      clear hf hB hy mV bV
      obtain ⟨t0, h0⟩ : ∃ zz, isS y.s = zz := ⟨_, rfl⟩
      have Q0 : Hid (isS y.s = t0) := h0
      clear h0
      cases t0
      · have E : Hid (R = false) := by rw [J.out.1, all_no HX.out.1 (by show okC p y = false; unfold okC; simp only [Q0.out, Bool.false_and, Bool.and_false, Bool.true_and, Bool.and_true])]; exact rfl
        have k0_0 := M0.out.1.c0
        have k0_1 := M0.out.1.c1
        have p0 := (H.out.2.2.2.2.1.below M0.out.2).ld
        go_wp2_with fail
        refine (ret_b (iss_any y.s V0) Q0.out).mono ?_
        rintro _ V1 ⟨rfl, hb⟩
        have M1 : Hid (CrAt V1 wr.heap.size y ∧ Below W.heap.size W V1) := ⟨M0.out.1.below hb, below_over M0.out.2 hb⟩
        clear hb
        clear k0_0
        clear k0_1
        clear p0
        have k1_0 := M1.out.1.c0
        have k1_1 := M1.out.1.c1
        have p1 := (H.out.2.2.2.2.1.below M1.out.2).ld
        go_wp2
        go_ret
        exact ⟨ret_bool (by rw [E.out]; rfl), below_over H.out.2.2.2.1 M1.out.2⟩
      · skip
        obtain ⟨t1, h1⟩ : ∃ zz, (pts p y.v).isSome = zz := ⟨_, rfl⟩
        have Q1 : Hid ((pts p y.v).isSome = t1) := h1
        clear h1
        cases t1
        · have E : Hid (R = false) := by rw [J.out.1, all_no HX.out.1 (by show okC p y = false; unfold okC; simp only [Q0.out, Q1.out, Bool.false_and, Bool.and_false, Bool.true_and, Bool.and_true])]; exact rfl
          have k0_0 := M0.out.1.c0
          have k0_1 := M0.out.1.c1
          have p0 := (H.out.2.2.2.2.1.below M0.out.2).ld
          go_wp2_with fail
          refine (ret_b (iss_any y.s V0) Q0.out).mono ?_
          rintro _ V1 ⟨rfl, hb⟩
          have M1 : Hid (CrAt V1 wr.heap.size y ∧ Below W.heap.size W V1) := ⟨M0.out.1.below hb, below_over M0.out.2 hb⟩
          clear hb
          clear k0_0
          clear k0_1
          clear p0
          have k1_0 := M1.out.1.c0
          have k1_1 := M1.out.1.c1
          have p1 := (H.out.2.2.2.2.1.below M1.out.2).ld
          go_wp2_with fail
          refine (ret_b (hasm_any x p y.v V1 (H.out.1.below M1.out.2) H.out.2.2.2.2.2.2.1) Q1.out).mono ?_
          rintro _ V2 ⟨rfl, hb⟩
          have M2 : Hid (CrAt V2 wr.heap.size y ∧ Below W.heap.size W V2) := ⟨M1.out.1.below hb, below_over M1.out.2 hb⟩
          clear hb
          clear k1_0
          clear k1_1
          clear p1
          have k2_0 := M2.out.1.c0
          have k2_1 := M2.out.1.c1
          have p2 := (H.out.2.2.2.2.1.below M2.out.2).ld
          go_wp2
          go_ret
          exact ⟨ret_bool (by rw [E.out]; rfl), below_over H.out.2.2.2.1 M2.out.2⟩
        · skip
          have E : Hid (R = (p.cs.drop (i + 1)).all (okC p)) := by rw [J.out.1, all_yes HX.out.1 (by show okC p y = true; unfold okC; simp only [Q0.out, Q1.out, Bool.false_and, Bool.and_false, Bool.true_and, Bool.and_true])]; exact rfl
          have k0_0 := M0.out.1.c0
          have k0_1 := M0.out.1.c1
          have p0 := (H.out.2.2.2.2.1.below M0.out.2).ld
          go_wp2_with fail
          refine (ret_b (iss_any y.s V0) Q0.out).mono ?_
          rintro _ V1 ⟨rfl, hb⟩
          have M1 : Hid (CrAt V1 wr.heap.size y ∧ Below W.heap.size W V1) := ⟨M0.out.1.below hb, below_over M0.out.2 hb⟩
          clear hb
          clear k0_0
          clear k0_1
          clear p0
          have k1_0 := M1.out.1.c0
          have k1_1 := M1.out.1.c1
          have p1 := (H.out.2.2.2.2.1.below M1.out.2).ld
          go_wp2_with fail
          refine (ret_b (hasm_any x p y.v V1 (H.out.1.below M1.out.2) H.out.2.2.2.2.2.2.1) Q1.out).mono ?_
          rintro _ V2 ⟨rfl, hb⟩
          have M2 : Hid (CrAt V2 wr.heap.size y ∧ Below W.heap.size W V2) := ⟨M1.out.1.below hb, below_over M1.out.2 hb⟩
          clear hb
          clear k1_0
          clear k1_1
          clear p1
          have k2_0 := M2.out.1.c0
          have k2_1 := M2.out.1.c1
          have p2 := (H.out.2.2.2.2.1.below M2.out.2).ld
          go_wp2
          go_roundw
          case rel => exact ⟨i + 1, by omega, by go_num, E.out, M2.out.2⟩
          case measure => simp [intOf]; omega
    · have hin : i = n := by omega
      subst hin
      have hi1 : ¬ (i : Int) < (i : Int) := by omega
      have E : Hid (R = true) := by rw [J.out.1, all_end (by rw [H.out.2.2.1]; exact Nat.le_refl _)]; exact rfl
      clear hf hB
      go_wp2_with fail
      refine (ret_b (risC_any a i c p.cs wr (H.out.2.1.below J.out.2)) HR.out.2).mono ?_
      rintro _ Y ⟨rfl, hY⟩
      go_wp2
      go_ret
      exact ⟨ret_bool (by rw [E.out, Bool.true_and]), below_over H.out.2.2.2.1 (below_over J.out.2 hY)⟩
set_option maxHeartbeats 4000000 in
theorem goodm_any (x : Pr) (p : Pv) (w : World) (h : IsPv w x p) (hl : ∀ m ∈ p.bs, m.ps.length ≤ 1000) :
    Calls Try.prog 44 #[.agg x.cs] w fun r w' => r = .returned (.bool (gM p)) ∧ Below w.heap.size w w' := by
  obtain ⟨a, n, c, hv, hs⟩ := h.m
  obtain ⟨W, hW, r0, bW, zW⟩ := PrAt.new w x
  have c7 := r0.m
  rw [hv] at c7
  have hnn := hs.int
  obtain ⟨R, hR⟩ : ∃ z, p.ms.all (okM p) = z := ⟨_, rfl⟩
  obtain ⟨S, hS⟩ : ∃ z, ris ltM p.ms = z := ⟨_, rfl⟩
  have H : Hid (IsPv W x p ∧ SlAt eM W a n c p.ms ∧ p.ms.length = n ∧ Below w.heap.size w W ∧ PrAt W w.heap.size x ∧ x.m = .slice a n c ∧ (∀ m ∈ p.bs, m.ps.length ≤ 1000) ∧ True) := ⟨h.below bW, hs.below bW, hs.len, bW, r0, hv, hl, trivial⟩
  have HR : Hid (p.ms.all (okM p) = R ∧ ris ltM p.ms = S) := ⟨hR, hS⟩
  rw [show gM p = (R && S) by unfold gM; rw [hR, hS]]
  clear hs bW zW r0 h hR hS hv hl
  go_enter Try.func44, Try.ntmps44
  go_wp2_with fail
  go_loopw [10] (fun v wr => ∃ i : Nat, i ≤ n ∧ v = .int .i64 i ∧ R = (p.ms.drop i).all (okM p) ∧ Below W.heap.size W wr) (fun v _ => n - (intOf v).toNat)
  case atStart => exact ⟨0, by omega, rfl, HR.out.1.symm, Below.refl _ _⟩
  case round =>
    obtain ⟨i, hi, rfl, hf, hB⟩ := hrel
    have J : Hid (R = (p.ms.drop i).all (okM p) ∧ Below W.heap.size W wr) := ⟨hf, hB⟩
    have hi0 : (0 : Int) ≤ (i : Int) := by omega
    clear c7
    have c7 := (H.out.2.2.2.2.1.below hB).m
    rw [H.out.2.2.2.2.2.1] at c7
    by_cases hit : i < n
    · have hi1 : (i : Int) < (n : Int) := by omega
      obtain ⟨b, o, rfl⟩ := H.out.2.1.some' (by omega)
      obtain ⟨y, hy⟩ := lt_nth (l := p.ms) (i := i) (by rw [H.out.2.2.1]; exact hit)
      have l1 := lM (H.out.2.1.below hB) hy
      obtain ⟨V0, sV, mV, bV⟩ := MpAt.put wr y
      have M0 : Hid (MpAt V0 wr.heap.size y ∧ Below W.heap.size W V0) := ⟨mV, below_over J.out.2 bV⟩
      have HX : Hid (p.ms[i]? = some y ∧ True) := ⟨hy, trivial⟩
      clear hf hB hy mV bV
      obtain ⟨t0, h0⟩ : ∃ zz, isV y.v = zz := ⟨_, rfl⟩
      have Q0 : Hid (isV y.v = t0) := h0
      clear h0
      cases t0
      · have E : Hid (R = false) := by rw [J.out.1, all_no HX.out.1 (by show okM p y = false; unfold okM okM0; simp only [Q0.out, Bool.false_and, Bool.and_false, Bool.true_and, Bool.and_true])]; exact rfl
        have k0_0 := M0.out.1.c0
        have k0_1 := M0.out.1.c1
        have k0_2 := M0.out.1.c2
        have p0 := (H.out.2.2.2.2.1.below M0.out.2).ld
        go_wp2_with fail
        refine (ret_b (isv_any y.v V0) Q0.out).mono ?_
        rintro _ V1 ⟨rfl, hb⟩
        have M1 : Hid (MpAt V1 wr.heap.size y ∧ Below W.heap.size W V1) := ⟨M0.out.1.below hb, below_over M0.out.2 hb⟩
        clear hb
        clear k0_0
        clear k0_1
        clear k0_2
        clear p0
        have k1_0 := M1.out.1.c0
        have k1_1 := M1.out.1.c1
        have k1_2 := M1.out.1.c2
        have p1 := (H.out.2.2.2.2.1.below M1.out.2).ld
        go_wp2
        go_ret
        exact ⟨ret_bool (by rw [E.out]; rfl), below_over H.out.2.2.2.1 M1.out.2⟩
      · skip
        obtain ⟨t1, h1⟩ : ∃ zz, isK p y.p 1 = zz := ⟨_, rfl⟩
        have Q1 : Hid (isK p y.p 1 = t1) := h1
        clear h1
        cases t1
        · have E : Hid (R = false) := by rw [J.out.1, all_no HX.out.1 (by show okM p y = false; unfold okM okM0; simp only [Q0.out, Q1.out, Bool.false_and, Bool.and_false, Bool.true_and, Bool.and_true])]; exact rfl
          have k0_0 := M0.out.1.c0
          have k0_1 := M0.out.1.c1
          have k0_2 := M0.out.1.c2
          have p0 := (H.out.2.2.2.2.1.below M0.out.2).ld
          go_wp2_with fail
          refine (ret_b (isv_any y.v V0) Q0.out).mono ?_
          rintro _ V1 ⟨rfl, hb⟩
          have M1 : Hid (MpAt V1 wr.heap.size y ∧ Below W.heap.size W V1) := ⟨M0.out.1.below hb, below_over M0.out.2 hb⟩
          clear hb
          clear k0_0
          clear k0_1
          clear k0_2
          clear p0
          have k1_0 := M1.out.1.c0
          have k1_1 := M1.out.1.c1
          have k1_2 := M1.out.1.c2
          have p1 := (H.out.2.2.2.2.1.below M1.out.2).ld
          go_wp2_with fail
          refine (ret_b (isk_any x p y.p 1 V1 (H.out.1.below M1.out.2)) Q1.out).mono ?_
          rintro _ V2 ⟨rfl, hb⟩
          have M2 : Hid (MpAt V2 wr.heap.size y ∧ Below W.heap.size W V2) := ⟨M1.out.1.below hb, below_over M1.out.2 hb⟩
          clear hb
          clear k1_0
          clear k1_1
          clear k1_2
          clear p1
          have k2_0 := M2.out.1.c0
          have k2_1 := M2.out.1.c1
          have k2_2 := M2.out.1.c2
          have p2 := (H.out.2.2.2.2.1.below M2.out.2).ld
          go_wp2
          go_ret
          exact ⟨ret_bool (by rw [E.out]; rfl), below_over H.out.2.2.2.1 M2.out.2⟩
        · skip
          obtain ⟨t2, h2⟩ : ∃ zz, (car p y.s).2 = zz := ⟨_, rfl⟩
          have Q2 : Hid ((car p y.s).2 = t2) := h2
          clear h2
          cases t2
          · have E : Hid (R = false) := by rw [J.out.1, all_no HX.out.1 (by show okM p y = false; unfold okM okM0; simp only [Q0.out, Q1.out, Q2.out, Bool.false_and, Bool.and_false, Bool.true_and, Bool.and_true])]; exact rfl
            have k0_0 := M0.out.1.c0
            have k0_1 := M0.out.1.c1
            have k0_2 := M0.out.1.c2
            have p0 := (H.out.2.2.2.2.1.below M0.out.2).ld
            go_wp2_with fail
            refine (ret_b (isv_any y.v V0) Q0.out).mono ?_
            rintro _ V1 ⟨rfl, hb⟩
            have M1 : Hid (MpAt V1 wr.heap.size y ∧ Below W.heap.size W V1) := ⟨M0.out.1.below hb, below_over M0.out.2 hb⟩
            clear hb
            clear k0_0
            clear k0_1
            clear k0_2
            clear p0
            have k1_0 := M1.out.1.c0
            have k1_1 := M1.out.1.c1
            have k1_2 := M1.out.1.c2
            have p1 := (H.out.2.2.2.2.1.below M1.out.2).ld
            go_wp2_with fail
            refine (ret_b (isk_any x p y.p 1 V1 (H.out.1.below M1.out.2)) Q1.out).mono ?_
            rintro _ V2 ⟨rfl, hb⟩
            have M2 : Hid (MpAt V2 wr.heap.size y ∧ Below W.heap.size W V2) := ⟨M1.out.1.below hb, below_over M1.out.2 hb⟩
            clear hb
            clear k1_0
            clear k1_1
            clear k1_2
            clear p1
            have k2_0 := M2.out.1.c0
            have k2_1 := M2.out.1.c1
            have k2_2 := M2.out.1.c2
            have p2 := (H.out.2.2.2.2.1.below M2.out.2).ld
            go_wp2_with fail
            refine (ret_b (isc_any x p y.s V2 (H.out.1.below M2.out.2)) Q2.out).mono ?_
            rintro _ V3 ⟨rfl, hb⟩
            have M3 : Hid (MpAt V3 wr.heap.size y ∧ Below W.heap.size W V3) := ⟨M2.out.1.below hb, below_over M2.out.2 hb⟩
            clear hb
            clear k2_0
            clear k2_1
            clear k2_2
            clear p2
            have k3_0 := M3.out.1.c0
            have k3_1 := M3.out.1.c1
            have k3_2 := M3.out.1.c2
            have p3 := (H.out.2.2.2.2.1.below M3.out.2).ld
            go_wp2
            go_ret
            exact ⟨ret_bool (by rw [E.out]; rfl), below_over H.out.2.2.2.1 M3.out.2⟩
          · skip
            obtain ⟨⟨u, ub⟩, hu⟩ : ∃ z, vof p y.p y.s = z := ⟨_, rfl⟩
            have Q3v : Hid (Value.tuple #[.int .i64 (vof p y.p y.s).1, .bool (vof p y.p y.s).2] = Value.tuple #[.int .i64 u, .bool ub]) := by rw [hu]; exact rfl
            obtain ⟨t3, h3⟩ : ∃ z, (u == y.v) = z := ⟨_, rfl⟩
            have Q3 : Hid (((vof p y.p y.s).1 == y.v) = t3) := by rw [hu]; exact h3
            have g3 : (u != y.v) = !t3 := by rw [← h3]; rfl
            clear hu
            cases t3
            · have E : Hid (R = false) := by rw [J.out.1, all_no HX.out.1 (by show okM p y = false; unfold okM okM0; simp only [Q0.out, Q1.out, Q2.out, Q3.out, Bool.false_and, Bool.and_false, Bool.true_and, Bool.and_true])]; exact rfl
              have k0_0 := M0.out.1.c0
              have k0_1 := M0.out.1.c1
              have k0_2 := M0.out.1.c2
              have p0 := (H.out.2.2.2.2.1.below M0.out.2).ld
              go_wp2_with fail
              refine (ret_b (isv_any y.v V0) Q0.out).mono ?_
              rintro _ V1 ⟨rfl, hb⟩
              have M1 : Hid (MpAt V1 wr.heap.size y ∧ Below W.heap.size W V1) := ⟨M0.out.1.below hb, below_over M0.out.2 hb⟩
              clear hb
              clear k0_0
              clear k0_1
              clear k0_2
              clear p0
              have k1_0 := M1.out.1.c0
              have k1_1 := M1.out.1.c1
              have k1_2 := M1.out.1.c2
              have p1 := (H.out.2.2.2.2.1.below M1.out.2).ld
              go_wp2_with fail
              refine (ret_b (isk_any x p y.p 1 V1 (H.out.1.below M1.out.2)) Q1.out).mono ?_
              rintro _ V2 ⟨rfl, hb⟩
              have M2 : Hid (MpAt V2 wr.heap.size y ∧ Below W.heap.size W V2) := ⟨M1.out.1.below hb, below_over M1.out.2 hb⟩
              clear hb
              clear k1_0
              clear k1_1
              clear k1_2
              clear p1
              have k2_0 := M2.out.1.c0
              have k2_1 := M2.out.1.c1
              have k2_2 := M2.out.1.c2
              have p2 := (H.out.2.2.2.2.1.below M2.out.2).ld
              go_wp2_with fail
              refine (ret_b (isc_any x p y.s V2 (H.out.1.below M2.out.2)) Q2.out).mono ?_
              rintro _ V3 ⟨rfl, hb⟩
              have M3 : Hid (MpAt V3 wr.heap.size y ∧ Below W.heap.size W V3) := ⟨M2.out.1.below hb, below_over M2.out.2 hb⟩
              clear hb
              clear k2_0
              clear k2_1
              clear k2_2
              clear p2
              have k3_0 := M3.out.1.c0
              have k3_1 := M3.out.1.c1
              have k3_2 := M3.out.1.c2
              have p3 := (H.out.2.2.2.2.1.below M3.out.2).ld
              go_wp2_with fail
              refine (Calls.ret_eq Q3v.out (vof_any x p y.p y.s V3 (H.out.1.below M3.out.2))).mono ?_
              rintro _ V4 ⟨rfl, hb⟩
              have M4 : Hid (MpAt V4 wr.heap.size y ∧ Below W.heap.size W V4) := ⟨M3.out.1.below hb, below_over M3.out.2 hb⟩
              clear hb
              clear k3_0
              clear k3_1
              clear k3_2
              clear p3
              have k4_0 := M4.out.1.c0
              have k4_1 := M4.out.1.c1
              have k4_2 := M4.out.1.c2
              have p4 := (H.out.2.2.2.2.1.below M4.out.2).ld
              rw [Bool.not_false] at g3
              go_wp2
              go_ret
              exact ⟨ret_bool (by rw [E.out]; rfl), below_over H.out.2.2.2.1 M4.out.2⟩
            · skip
              rw [Bool.not_true] at g3
              have E : Hid (R = (p.ms.drop (i + 1)).all (okM p)) := by rw [J.out.1, all_yes HX.out.1 (by show okM p y = true; unfold okM okM0; simp only [Q0.out, Q1.out, Q2.out, Q3.out, Bool.false_and, Bool.and_false, Bool.true_and, Bool.and_true])]; exact rfl
              have k0_0 := M0.out.1.c0
              have k0_1 := M0.out.1.c1
              have k0_2 := M0.out.1.c2
              have p0 := (H.out.2.2.2.2.1.below M0.out.2).ld
              go_wp2_with fail
              refine (ret_b (isv_any y.v V0) Q0.out).mono ?_
              rintro _ V1 ⟨rfl, hb⟩
              have M1 : Hid (MpAt V1 wr.heap.size y ∧ Below W.heap.size W V1) := ⟨M0.out.1.below hb, below_over M0.out.2 hb⟩
              clear hb
              clear k0_0
              clear k0_1
              clear k0_2
              clear p0
              have k1_0 := M1.out.1.c0
              have k1_1 := M1.out.1.c1
              have k1_2 := M1.out.1.c2
              have p1 := (H.out.2.2.2.2.1.below M1.out.2).ld
              go_wp2_with fail
              refine (ret_b (isk_any x p y.p 1 V1 (H.out.1.below M1.out.2)) Q1.out).mono ?_
              rintro _ V2 ⟨rfl, hb⟩
              have M2 : Hid (MpAt V2 wr.heap.size y ∧ Below W.heap.size W V2) := ⟨M1.out.1.below hb, below_over M1.out.2 hb⟩
              clear hb
              clear k1_0
              clear k1_1
              clear k1_2
              clear p1
              have k2_0 := M2.out.1.c0
              have k2_1 := M2.out.1.c1
              have k2_2 := M2.out.1.c2
              have p2 := (H.out.2.2.2.2.1.below M2.out.2).ld
              go_wp2_with fail
              refine (ret_b (isc_any x p y.s V2 (H.out.1.below M2.out.2)) Q2.out).mono ?_
              rintro _ V3 ⟨rfl, hb⟩
              have M3 : Hid (MpAt V3 wr.heap.size y ∧ Below W.heap.size W V3) := ⟨M2.out.1.below hb, below_over M2.out.2 hb⟩
              clear hb
              clear k2_0
              clear k2_1
              clear k2_2
              clear p2
              have k3_0 := M3.out.1.c0
              have k3_1 := M3.out.1.c1
              have k3_2 := M3.out.1.c2
              have p3 := (H.out.2.2.2.2.1.below M3.out.2).ld
              go_wp2_with fail
              refine (Calls.ret_eq Q3v.out (vof_any x p y.p y.s V3 (H.out.1.below M3.out.2))).mono ?_
              rintro _ V4 ⟨rfl, hb⟩
              have M4 : Hid (MpAt V4 wr.heap.size y ∧ Below W.heap.size W V4) := ⟨M3.out.1.below hb, below_over M3.out.2 hb⟩
              clear hb
              clear k3_0
              clear k3_1
              clear k3_2
              clear p3
              have k4_0 := M4.out.1.c0
              have k4_1 := M4.out.1.c1
              have k4_2 := M4.out.1.c2
              have p4 := (H.out.2.2.2.2.1.below M4.out.2).ld
              go_wp2
              go_roundw
              case rel => exact ⟨i + 1, by omega, by go_num, E.out, M4.out.2⟩
              case measure => simp [intOf]; omega
    · have hin : i = n := by omega
      subst hin
      have hi1 : ¬ (i : Int) < (i : Int) := by omega
      have E : Hid (R = true) := by rw [J.out.1, all_end (by rw [H.out.2.2.1]; exact Nat.le_refl _)]; exact rfl
      clear hf hB
      go_wp2_with fail
      refine (ret_b (risM_any a i c p.ms wr (H.out.2.1.below J.out.2)) HR.out.2).mono ?_
      rintro _ Y ⟨rfl, hY⟩
      go_wp2
      go_ret
      exact ⟨ret_bool (by rw [E.out, Bool.true_and]), below_over H.out.2.2.2.1 (below_over J.out.2 hY)⟩
theorem ldO (x : Value) : Instr.loadAt 23 x = ldS 23 x := rfl
attribute [local go_sem ↓] ldO
theorem PrAt.own' {W : World} {b : Nat} {x : Pr} (h : PrAt W b x) : (ldS 23 (.pointer (some ⟨b, 0, none⟩))).run Try.prog W = .ok (.agg x.o.cs) W := h.own
def erC (b : Bool) : Int := if b then 0 else 180
set_option maxHeartbeats 4000000 in
theorem chk_any (x : Pr) (p : Pv) (w : World) (h : IsPv w x p) (hl : ∀ m ∈ p.bs, m.ps.length ≤ 1000) :
    Calls Try.prog 13 #[.agg x.cs] w fun r w' => r = .returned (.int .i64 (erC (chk p))) ∧ Below w.heap.size w w' := by
  obtain ⟨a, n, c, hv, hs⟩ := h.k
  obtain ⟨V0, hW, r0, bW, zW⟩ := PrAt.new w x
  have H : Hid (IsPv w x p ∧ SlAt eK w a n c p.ks ∧ x.k = .slice a n c ∧ (∀ m ∈ p.bs, m.ps.length ≤ 1000)) := ⟨h, hs, hv, hl⟩
  have M0 : Hid (PrAt V0 w.heap.size x ∧ Below w.heap.size w V0) := ⟨r0, bW⟩
  have EO : Hid (x.o = p.o) := h.o
  clear h hs hv hl r0 bW zW
  obtain ⟨u, hu⟩ : ∃ zz, cls p.o = zz := ⟨_, rfl⟩
  have QK : Hid (Value.int .i64 (kindOf x.o.a x.o.b x.o.c x.o.d x.o.e x.o.f) = Value.int .i64 u) := by rw [EO.out]; exact congrArg (Value.int .i64) hu
  by_cases h0 : u = 1
  · subst h0
    have Q0 : Hid ((cls p.o == 1) = true) := by rw [hu]; exact rfl
    clear hu
    obtain ⟨t1, h1⟩ : ∃ zz, gK p.ks = zz := ⟨_, rfl⟩
    have Q1 : Hid (gK p.ks = t1) := h1
    clear h1
    cases t1
    · have E0 : chk p = false := by unfold chk; simp only [Q0.out, Q1.out, Bool.false_and, Bool.and_false, Bool.true_and]
      have E : Hid (chk p = false) := E0
      clear E0
      rw [E.out]
      go_enter Try.func13, Try.ntmps13
      have o0 := M0.out.1.own'
      have d0 := M0.out.1.ld
      have k0 := M0.out.1.k
      rw [H.out.2.2.1] at k0
      unfold O6.cs at o0
      go_wp2_with fail
      refine (Calls.ret_eq QK.out (kind_any x.o.a x.o.b x.o.c x.o.d x.o.e x.o.f V0 (by rw [EO.out]; exact H.out.1.wf))).mono ?_
      rintro _ V1 ⟨rfl, hb⟩
      have M1 : Hid (PrAt V1 w.heap.size x ∧ Below w.heap.size w V1) := ⟨M0.out.1.below hb, below_over M0.out.2 hb⟩
      clear hb o0 d0 k0
      have o1 := M1.out.1.own'
      have d1 := M1.out.1.ld
      have k1 := M1.out.1.k
      rw [H.out.2.2.1] at k1
      unfold O6.cs at o1
      go_wp2_with fail
      refine (ret_b (goodk_any a n c p.ks V1 (H.out.2.1.below M1.out.2)) Q1.out).mono ?_
      rintro _ V2 ⟨rfl, hb⟩
      have M2 : Hid (PrAt V2 w.heap.size x ∧ Below w.heap.size w V2) := ⟨M1.out.1.below hb, below_over M1.out.2 hb⟩
      clear hb o1 d1 k1
      have d2 := M2.out.1.ld
      go_wp2
      go_ret
      exact ⟨rfl, M2.out.2⟩
    · skip
      obtain ⟨t2, h2⟩ : ∃ zz, room p = zz := ⟨_, rfl⟩
      have Q2 : Hid (room p = t2) := h2
      clear h2
      cases t2
      · have E0 : chk p = false := by unfold chk; simp only [Q0.out, Q1.out, Q2.out, Bool.false_and, Bool.and_false, Bool.true_and]
        have E : Hid (chk p = false) := E0
        clear E0
        rw [E.out]
        go_enter Try.func13, Try.ntmps13
        have o0 := M0.out.1.own'
        have d0 := M0.out.1.ld
        have k0 := M0.out.1.k
        rw [H.out.2.2.1] at k0
        unfold O6.cs at o0
        go_wp2_with fail
        refine (Calls.ret_eq QK.out (kind_any x.o.a x.o.b x.o.c x.o.d x.o.e x.o.f V0 (by rw [EO.out]; exact H.out.1.wf))).mono ?_
        rintro _ V1 ⟨rfl, hb⟩
        have M1 : Hid (PrAt V1 w.heap.size x ∧ Below w.heap.size w V1) := ⟨M0.out.1.below hb, below_over M0.out.2 hb⟩
        clear hb o0 d0 k0
        have o1 := M1.out.1.own'
        have d1 := M1.out.1.ld
        have k1 := M1.out.1.k
        rw [H.out.2.2.1] at k1
        unfold O6.cs at o1
        go_wp2_with fail
        refine (ret_b (goodk_any a n c p.ks V1 (H.out.2.1.below M1.out.2)) Q1.out).mono ?_
        rintro _ V2 ⟨rfl, hb⟩
        have M2 : Hid (PrAt V2 w.heap.size x ∧ Below w.heap.size w V2) := ⟨M1.out.1.below hb, below_over M1.out.2 hb⟩
        clear hb o1 d1 k1
        have o2 := M2.out.1.own'
        have d2 := M2.out.1.ld
        have k2 := M2.out.1.k
        rw [H.out.2.2.1] at k2
        unfold O6.cs at o2
        go_wp2_with fail
        refine (ret_b (room_any x p V2 (H.out.1.below M2.out.2)) Q2.out).mono ?_
        rintro _ V3 ⟨rfl, hb⟩
        have M3 : Hid (PrAt V3 w.heap.size x ∧ Below w.heap.size w V3) := ⟨M2.out.1.below hb, below_over M2.out.2 hb⟩
        clear hb o2 d2 k2
        have d3 := M3.out.1.ld
        go_wp2
        go_ret
        exact ⟨rfl, M3.out.2⟩
      · skip
        obtain ⟨t3, h3⟩ : ∃ zz, gB p = zz := ⟨_, rfl⟩
        have Q3 : Hid (gB p = t3) := h3
        clear h3
        cases t3
        · have E0 : chk p = false := by unfold chk; simp only [Q0.out, Q1.out, Q2.out, Q3.out, Bool.false_and, Bool.and_false, Bool.true_and]
          have E : Hid (chk p = false) := E0
          clear E0
          rw [E.out]
          go_enter Try.func13, Try.ntmps13
          have o0 := M0.out.1.own'
          have d0 := M0.out.1.ld
          have k0 := M0.out.1.k
          rw [H.out.2.2.1] at k0
          unfold O6.cs at o0
          go_wp2_with fail
          refine (Calls.ret_eq QK.out (kind_any x.o.a x.o.b x.o.c x.o.d x.o.e x.o.f V0 (by rw [EO.out]; exact H.out.1.wf))).mono ?_
          rintro _ V1 ⟨rfl, hb⟩
          have M1 : Hid (PrAt V1 w.heap.size x ∧ Below w.heap.size w V1) := ⟨M0.out.1.below hb, below_over M0.out.2 hb⟩
          clear hb o0 d0 k0
          have o1 := M1.out.1.own'
          have d1 := M1.out.1.ld
          have k1 := M1.out.1.k
          rw [H.out.2.2.1] at k1
          unfold O6.cs at o1
          go_wp2_with fail
          refine (ret_b (goodk_any a n c p.ks V1 (H.out.2.1.below M1.out.2)) Q1.out).mono ?_
          rintro _ V2 ⟨rfl, hb⟩
          have M2 : Hid (PrAt V2 w.heap.size x ∧ Below w.heap.size w V2) := ⟨M1.out.1.below hb, below_over M1.out.2 hb⟩
          clear hb o1 d1 k1
          have o2 := M2.out.1.own'
          have d2 := M2.out.1.ld
          have k2 := M2.out.1.k
          rw [H.out.2.2.1] at k2
          unfold O6.cs at o2
          go_wp2_with fail
          refine (ret_b (room_any x p V2 (H.out.1.below M2.out.2)) Q2.out).mono ?_
          rintro _ V3 ⟨rfl, hb⟩
          have M3 : Hid (PrAt V3 w.heap.size x ∧ Below w.heap.size w V3) := ⟨M2.out.1.below hb, below_over M2.out.2 hb⟩
          clear hb o2 d2 k2
          have o3 := M3.out.1.own'
          have d3 := M3.out.1.ld
          have k3 := M3.out.1.k
          rw [H.out.2.2.1] at k3
          unfold O6.cs at o3
          go_wp2_with fail
          refine (ret_b (goodb_any x p V3 (H.out.1.below M3.out.2) H.out.2.2.2) Q3.out).mono ?_
          rintro _ V4 ⟨rfl, hb⟩
          have M4 : Hid (PrAt V4 w.heap.size x ∧ Below w.heap.size w V4) := ⟨M3.out.1.below hb, below_over M3.out.2 hb⟩
          clear hb o3 d3 k3
          have d4 := M4.out.1.ld
          go_wp2
          go_ret
          exact ⟨rfl, M4.out.2⟩
        · skip
          obtain ⟨t4, h4⟩ : ∃ zz, gC p = zz := ⟨_, rfl⟩
          have Q4 : Hid (gC p = t4) := h4
          clear h4
          cases t4
          · have E0 : chk p = false := by unfold chk; simp only [Q0.out, Q1.out, Q2.out, Q3.out, Q4.out, Bool.false_and, Bool.and_false, Bool.true_and]
            have E : Hid (chk p = false) := E0
            clear E0
            rw [E.out]
            go_enter Try.func13, Try.ntmps13
            have o0 := M0.out.1.own'
            have d0 := M0.out.1.ld
            have k0 := M0.out.1.k
            rw [H.out.2.2.1] at k0
            unfold O6.cs at o0
            go_wp2_with fail
            refine (Calls.ret_eq QK.out (kind_any x.o.a x.o.b x.o.c x.o.d x.o.e x.o.f V0 (by rw [EO.out]; exact H.out.1.wf))).mono ?_
            rintro _ V1 ⟨rfl, hb⟩
            have M1 : Hid (PrAt V1 w.heap.size x ∧ Below w.heap.size w V1) := ⟨M0.out.1.below hb, below_over M0.out.2 hb⟩
            clear hb o0 d0 k0
            have o1 := M1.out.1.own'
            have d1 := M1.out.1.ld
            have k1 := M1.out.1.k
            rw [H.out.2.2.1] at k1
            unfold O6.cs at o1
            go_wp2_with fail
            refine (ret_b (goodk_any a n c p.ks V1 (H.out.2.1.below M1.out.2)) Q1.out).mono ?_
            rintro _ V2 ⟨rfl, hb⟩
            have M2 : Hid (PrAt V2 w.heap.size x ∧ Below w.heap.size w V2) := ⟨M1.out.1.below hb, below_over M1.out.2 hb⟩
            clear hb o1 d1 k1
            have o2 := M2.out.1.own'
            have d2 := M2.out.1.ld
            have k2 := M2.out.1.k
            rw [H.out.2.2.1] at k2
            unfold O6.cs at o2
            go_wp2_with fail
            refine (ret_b (room_any x p V2 (H.out.1.below M2.out.2)) Q2.out).mono ?_
            rintro _ V3 ⟨rfl, hb⟩
            have M3 : Hid (PrAt V3 w.heap.size x ∧ Below w.heap.size w V3) := ⟨M2.out.1.below hb, below_over M2.out.2 hb⟩
            clear hb o2 d2 k2
            have o3 := M3.out.1.own'
            have d3 := M3.out.1.ld
            have k3 := M3.out.1.k
            rw [H.out.2.2.1] at k3
            unfold O6.cs at o3
            go_wp2_with fail
            refine (ret_b (goodb_any x p V3 (H.out.1.below M3.out.2) H.out.2.2.2) Q3.out).mono ?_
            rintro _ V4 ⟨rfl, hb⟩
            have M4 : Hid (PrAt V4 w.heap.size x ∧ Below w.heap.size w V4) := ⟨M3.out.1.below hb, below_over M3.out.2 hb⟩
            clear hb o3 d3 k3
            have o4 := M4.out.1.own'
            have d4 := M4.out.1.ld
            have k4 := M4.out.1.k
            rw [H.out.2.2.1] at k4
            unfold O6.cs at o4
            go_wp2_with fail
            refine (ret_b (goodc_any x p V4 (H.out.1.below M4.out.2) H.out.2.2.2) Q4.out).mono ?_
            rintro _ V5 ⟨rfl, hb⟩
            have M5 : Hid (PrAt V5 w.heap.size x ∧ Below w.heap.size w V5) := ⟨M4.out.1.below hb, below_over M4.out.2 hb⟩
            clear hb o4 d4 k4
            have d5 := M5.out.1.ld
            go_wp2
            go_ret
            exact ⟨rfl, M5.out.2⟩
          · skip
            obtain ⟨t5, h5⟩ : ∃ zz, gM p = zz := ⟨_, rfl⟩
            have Q5 : Hid (gM p = t5) := h5
            clear h5
            cases t5
            · have E0 : chk p = false := by unfold chk; simp only [Q0.out, Q1.out, Q2.out, Q3.out, Q4.out, Q5.out, Bool.false_and, Bool.and_false, Bool.true_and]
              have E : Hid (chk p = false) := E0
              clear E0
              rw [E.out]
              go_enter Try.func13, Try.ntmps13
              have o0 := M0.out.1.own'
              have d0 := M0.out.1.ld
              have k0 := M0.out.1.k
              rw [H.out.2.2.1] at k0
              unfold O6.cs at o0
              go_wp2_with fail
              refine (Calls.ret_eq QK.out (kind_any x.o.a x.o.b x.o.c x.o.d x.o.e x.o.f V0 (by rw [EO.out]; exact H.out.1.wf))).mono ?_
              rintro _ V1 ⟨rfl, hb⟩
              have M1 : Hid (PrAt V1 w.heap.size x ∧ Below w.heap.size w V1) := ⟨M0.out.1.below hb, below_over M0.out.2 hb⟩
              clear hb o0 d0 k0
              have o1 := M1.out.1.own'
              have d1 := M1.out.1.ld
              have k1 := M1.out.1.k
              rw [H.out.2.2.1] at k1
              unfold O6.cs at o1
              go_wp2_with fail
              refine (ret_b (goodk_any a n c p.ks V1 (H.out.2.1.below M1.out.2)) Q1.out).mono ?_
              rintro _ V2 ⟨rfl, hb⟩
              have M2 : Hid (PrAt V2 w.heap.size x ∧ Below w.heap.size w V2) := ⟨M1.out.1.below hb, below_over M1.out.2 hb⟩
              clear hb o1 d1 k1
              have o2 := M2.out.1.own'
              have d2 := M2.out.1.ld
              have k2 := M2.out.1.k
              rw [H.out.2.2.1] at k2
              unfold O6.cs at o2
              go_wp2_with fail
              refine (ret_b (room_any x p V2 (H.out.1.below M2.out.2)) Q2.out).mono ?_
              rintro _ V3 ⟨rfl, hb⟩
              have M3 : Hid (PrAt V3 w.heap.size x ∧ Below w.heap.size w V3) := ⟨M2.out.1.below hb, below_over M2.out.2 hb⟩
              clear hb o2 d2 k2
              have o3 := M3.out.1.own'
              have d3 := M3.out.1.ld
              have k3 := M3.out.1.k
              rw [H.out.2.2.1] at k3
              unfold O6.cs at o3
              go_wp2_with fail
              refine (ret_b (goodb_any x p V3 (H.out.1.below M3.out.2) H.out.2.2.2) Q3.out).mono ?_
              rintro _ V4 ⟨rfl, hb⟩
              have M4 : Hid (PrAt V4 w.heap.size x ∧ Below w.heap.size w V4) := ⟨M3.out.1.below hb, below_over M3.out.2 hb⟩
              clear hb o3 d3 k3
              have o4 := M4.out.1.own'
              have d4 := M4.out.1.ld
              have k4 := M4.out.1.k
              rw [H.out.2.2.1] at k4
              unfold O6.cs at o4
              go_wp2_with fail
              refine (ret_b (goodc_any x p V4 (H.out.1.below M4.out.2) H.out.2.2.2) Q4.out).mono ?_
              rintro _ V5 ⟨rfl, hb⟩
              have M5 : Hid (PrAt V5 w.heap.size x ∧ Below w.heap.size w V5) := ⟨M4.out.1.below hb, below_over M4.out.2 hb⟩
              clear hb o4 d4 k4
              have o5 := M5.out.1.own'
              have d5 := M5.out.1.ld
              have k5 := M5.out.1.k
              rw [H.out.2.2.1] at k5
              unfold O6.cs at o5
              go_wp2_with fail
              refine (ret_b (goodm_any x p V5 (H.out.1.below M5.out.2) H.out.2.2.2) Q5.out).mono ?_
              rintro _ V6 ⟨rfl, hb⟩
              have M6 : Hid (PrAt V6 w.heap.size x ∧ Below w.heap.size w V6) := ⟨M5.out.1.below hb, below_over M5.out.2 hb⟩
              clear hb o5 d5 k5
              have d6 := M6.out.1.ld
              go_wp2
              go_ret
              exact ⟨rfl, M6.out.2⟩
            · skip
              have E0 : chk p = true := by unfold chk; simp only [Q0.out, Q1.out, Q2.out, Q3.out, Q4.out, Q5.out, Bool.true_and, Bool.and_true, beq_self_eq_true]
              have E : Hid (chk p = true) := E0
              clear E0
              rw [E.out]
              go_enter Try.func13, Try.ntmps13
              have o0 := M0.out.1.own'
              have d0 := M0.out.1.ld
              have k0 := M0.out.1.k
              rw [H.out.2.2.1] at k0
              unfold O6.cs at o0
              go_wp2_with fail
              refine (Calls.ret_eq QK.out (kind_any x.o.a x.o.b x.o.c x.o.d x.o.e x.o.f V0 (by rw [EO.out]; exact H.out.1.wf))).mono ?_
              rintro _ V1 ⟨rfl, hb⟩
              have M1 : Hid (PrAt V1 w.heap.size x ∧ Below w.heap.size w V1) := ⟨M0.out.1.below hb, below_over M0.out.2 hb⟩
              clear hb o0 d0 k0
              have o1 := M1.out.1.own'
              have d1 := M1.out.1.ld
              have k1 := M1.out.1.k
              rw [H.out.2.2.1] at k1
              unfold O6.cs at o1
              go_wp2_with fail
              refine (ret_b (goodk_any a n c p.ks V1 (H.out.2.1.below M1.out.2)) Q1.out).mono ?_
              rintro _ V2 ⟨rfl, hb⟩
              have M2 : Hid (PrAt V2 w.heap.size x ∧ Below w.heap.size w V2) := ⟨M1.out.1.below hb, below_over M1.out.2 hb⟩
              clear hb o1 d1 k1
              have o2 := M2.out.1.own'
              have d2 := M2.out.1.ld
              have k2 := M2.out.1.k
              rw [H.out.2.2.1] at k2
              unfold O6.cs at o2
              go_wp2_with fail
              refine (ret_b (room_any x p V2 (H.out.1.below M2.out.2)) Q2.out).mono ?_
              rintro _ V3 ⟨rfl, hb⟩
              have M3 : Hid (PrAt V3 w.heap.size x ∧ Below w.heap.size w V3) := ⟨M2.out.1.below hb, below_over M2.out.2 hb⟩
              clear hb o2 d2 k2
              have o3 := M3.out.1.own'
              have d3 := M3.out.1.ld
              have k3 := M3.out.1.k
              rw [H.out.2.2.1] at k3
              unfold O6.cs at o3
              go_wp2_with fail
              refine (ret_b (goodb_any x p V3 (H.out.1.below M3.out.2) H.out.2.2.2) Q3.out).mono ?_
              rintro _ V4 ⟨rfl, hb⟩
              have M4 : Hid (PrAt V4 w.heap.size x ∧ Below w.heap.size w V4) := ⟨M3.out.1.below hb, below_over M3.out.2 hb⟩
              clear hb o3 d3 k3
              have o4 := M4.out.1.own'
              have d4 := M4.out.1.ld
              have k4 := M4.out.1.k
              rw [H.out.2.2.1] at k4
              unfold O6.cs at o4
              go_wp2_with fail
              refine (ret_b (goodc_any x p V4 (H.out.1.below M4.out.2) H.out.2.2.2) Q4.out).mono ?_
              rintro _ V5 ⟨rfl, hb⟩
              have M5 : Hid (PrAt V5 w.heap.size x ∧ Below w.heap.size w V5) := ⟨M4.out.1.below hb, below_over M4.out.2 hb⟩
              clear hb o4 d4 k4
              have o5 := M5.out.1.own'
              have d5 := M5.out.1.ld
              have k5 := M5.out.1.k
              rw [H.out.2.2.1] at k5
              unfold O6.cs at o5
              go_wp2_with fail
              refine (ret_b (goodm_any x p V5 (H.out.1.below M5.out.2) H.out.2.2.2) Q5.out).mono ?_
              rintro _ V6 ⟨rfl, hb⟩
              have M6 : Hid (PrAt V6 w.heap.size x ∧ Below w.heap.size w V6) := ⟨M5.out.1.below hb, below_over M5.out.2 hb⟩
              clear hb o5 d5 k5
              have d6 := M6.out.1.ld
              go_wp2
              go_ret
              exact ⟨rfl, M6.out.2⟩
  · have g0 : (u != 1) = true := by simp [h0]
    have E : Hid (chk p = false) := by unfold chk; rw [hu, show (u == 1) = false by simp [h0]]; exact rfl
    rw [E.out]
    clear hu h0
    go_enter Try.func13, Try.ntmps13
    have o0 := M0.out.1.own'
    have d0 := M0.out.1.ld
    have k0 := M0.out.1.k
    rw [H.out.2.2.1] at k0
    unfold O6.cs at o0
    go_wp2_with fail
    refine (Calls.ret_eq QK.out (kind_any x.o.a x.o.b x.o.c x.o.d x.o.e x.o.f V0 (by rw [EO.out]; exact H.out.1.wf))).mono ?_
    rintro _ V1 ⟨rfl, hb⟩
    have M1 : Hid (PrAt V1 w.heap.size x ∧ Below w.heap.size w V1) := ⟨M0.out.1.below hb, below_over M0.out.2 hb⟩
    clear hb o0 d0 k0
    have d1 := M1.out.1.ld
    go_wp2
    go_ret
    exact ⟨rfl, M1.out.2⟩
end Go.Proofs.Ytmfjlhcobhilcab
