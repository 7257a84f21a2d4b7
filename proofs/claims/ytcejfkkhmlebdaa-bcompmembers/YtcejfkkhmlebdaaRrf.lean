/-
  Numbers, orders and places of ports by the definition: walks of vid, isid, before, rise, are, each for every input.
-/
import Derived.Test.YtcejfkkhmlebdaaBas
namespace Go.Proofs.Ytcejfkkhmlebdaa
set_option linter.unusedVariables false
set_option maxRecDepth 4000
set_option linter.unusedSimpArgs false
open Go.RowKit
attribute [local go_sem ↓] ldM stM ldC stC ldB stB ldP stP apI bsI
attribute [local go_sem] bsI_is bsI2_is

theorem rvid_any (n : Int) (w : World) : Calls Try.prog 31 #[.int .i64 n] w fun r w' => r = .returned (.bool (isV n)) ∧ Below w.heap.size w w' := by
  by_cases h1 : 1 ≤ n
  · have e1 : decide (n ≥ 1) = true := by simp; omega
    have e2 : decide (1 ≤ n) = true := by simp; omega
    by_cases h2 : n ≤ 4094
    · have e3 : decide (n ≤ 4094) = true := by simp; omega
      have E : Hid (isV n = true) := by show (decide (1 ≤ n) && decide (n ≤ 4094)) = true; rw [e2, e3]; rfl
      go_enter Try.func31, Try.ntmps31
      go_wp2
      go_ret
      exact ⟨ret_bool E.out.symm, Below.refl _ _⟩
    · have e3 : decide (n ≤ 4094) = false := by simp; omega
      have E : Hid (isV n = false) := by show (decide (1 ≤ n) && decide (n ≤ 4094)) = false; rw [e2, e3]; rfl
      go_enter Try.func31, Try.ntmps31
      go_wp2
      go_ret
      exact ⟨ret_bool E.out.symm, Below.refl _ _⟩
  · have e1 : decide (n ≥ 1) = false := by simp; omega
    have e2 : decide (1 ≤ n) = false := by simp; omega
    have E : Hid (isV n = false) := by show (decide (1 ≤ n) && decide (n ≤ 4094)) = false; rw [e2]; rfl
    go_enter Try.func31, Try.ntmps31
    go_wp2
    go_ret
    exact ⟨ret_bool E.out.symm, Below.refl _ _⟩
theorem risid_any (n : Int) (w : World) : Calls Try.prog 34 #[.int .i64 n] w fun r w' => r = .returned (.bool (isS n)) ∧ Below w.heap.size w w' := by
  by_cases h1 : 1 ≤ n
  · have e1 : decide (n ≥ 1) = true := by simp; omega
    have e2 : decide (1 ≤ n) = true := by simp; omega
    by_cases h2 : n ≤ 16777215
    · have e3 : decide (n ≤ 16777215) = true := by simp; omega
      have E : Hid (isS n = true) := by show (decide (1 ≤ n) && decide (n ≤ 16777215)) = true; rw [e2, e3]; rfl
      go_enter Try.func34, Try.ntmps34
      go_wp2
      go_ret
      exact ⟨ret_bool E.out.symm, Below.refl _ _⟩
    · have e3 : decide (n ≤ 16777215) = false := by simp; omega
      have E : Hid (isS n = false) := by show (decide (1 ≤ n) && decide (n ≤ 16777215)) = false; rw [e2, e3]; rfl
      go_enter Try.func34, Try.ntmps34
      go_wp2
      go_ret
      exact ⟨ret_bool E.out.symm, Below.refl _ _⟩
  · have e1 : decide (n ≥ 1) = false := by simp; omega
    have e2 : decide (1 ≤ n) = false := by simp; omega
    have E : Hid (isS n = false) := by show (decide (1 ≤ n) && decide (n ≤ 16777215)) = false; rw [e2]; rfl
    go_enter Try.func34, Try.ntmps34
    go_wp2
    go_ret
    exact ⟨ret_bool E.out.symm, Below.refl _ _⟩
theorem before_any (x y : Mp) (w : World) : Calls Try.prog 36 #[.agg x.cs, .agg y.cs] w fun r w' => r = .returned (.bool (ltM x y)) ∧ Below w.heap.size w w' := by
  obtain ⟨W, hW, m0, bW, zW⟩ := MpAt.new w x
  obtain ⟨V, hV, m1, bV, zV⟩ := MpAt.new W y
  have k0 := (m0.below bV).c0
  have k1 := (m0.below bV).c1
  have j0 := m1.c0
  have j1 := m1.c1
  have B : Hid (Below w.heap.size w V) := below_over bW bV
  clear m0 m1 bW bV zW zV
  by_cases h1 : x.p < y.p
  · have d1 : decide (x.p < y.p) = true := by simpa using h1
    have E0 : ltM x y = true := by unfold ltM; rw [d1]; rfl
    have E : Hid (ltM x y = true) := E0
    clear h1 E0
    go_enter Try.func36, Try.ntmps36
    go_wp2
    go_ret
    exact ⟨ret_bool E.out.symm, B.out⟩
  · have d1 : decide (x.p < y.p) = false := by simpa using h1
    by_cases h2 : x.p = y.p
    · have e2 : (x.p == y.p) = true := by simp [h2]
      have E0 : ltM x y = decide (x.v < y.v) := by unfold ltM; rw [d1, e2]; rfl
      have E : Hid (ltM x y = decide (x.v < y.v)) := E0
      clear h1 h2 E0
      go_enter Try.func36, Try.ntmps36
      go_wp2
      go_ret
      exact ⟨ret_bool E.out.symm, B.out⟩
    · have e2 : (x.p == y.p) = false := by simp [h2]
      have E0 : ltM x y = false := by unfold ltM; rw [d1, e2]; rfl
      have E : Hid (ltM x y = false) := E0
      clear h1 h2 E0
      go_enter Try.func36, Try.ntmps36
      go_wp2
      go_ret
      exact ⟨ret_bool E.out.symm, B.out⟩
set_option maxHeartbeats 2000000 in
theorem rise_any (a : Option Addr) (n c : Nat) (l : List Int) (w : World) (hs : SlAt eI w a n c l) :
    Calls Try.prog 32 #[.slice a n c] w fun r w' => r = .returned (.bool (ris ltI l)) ∧ Below w.heap.size w w' := by
  have hnn := hs.int
  obtain ⟨R, hR⟩ : ∃ z, ris ltI l = z := ⟨_, rfl⟩
  have H : Hid (SlAt eI w a n c l ∧ l.length = n) := ⟨hs, hs.len⟩
  have HR : Hid (ris ltI l = R) := hR
  rw [hR]
  clear hs hR
  go_enter Try.func32, Try.ntmps32
  go_wp2_with fail
  go_loopw [3] (fun v wr => ∃ i : Nat, (i + 1 ≤ n ∨ i = 0) ∧ v = .int .i64 ((i : Int) + 1) ∧ R = ris ltI (l.drop i) ∧ Below w.heap.size w wr) (fun v _ => n - (intOf v).toNat)
  case atStart => exact ⟨0, Or.inr rfl, rfl, HR.out.symm, Below.refl _ _⟩
  case round =>
    obtain ⟨i, hi, rfl, hf, hB⟩ := hrel
    have J : Hid (R = ris ltI (l.drop i) ∧ Below w.heap.size w wr) := ⟨hf, hB⟩
    have hi0 : (0 : Int) ≤ (i : Int) := by omega
    have hi3 : (0 : Int) ≤ (i : Int) + 1 := by omega
    have hi4 : (i : Int) + 1 ≤ 9223372036854775807 := by omega
    have hi5 : (i : Int) + 1 - 1 = (i : Int) := by omega
    by_cases hit : i + 1 < n
    · have hi1 : (i : Int) + 1 < (n : Int) := by omega
      have hi2 : (i : Int) < (n : Int) := by omega
      obtain ⟨b, o, rfl⟩ := H.out.1.some' (by omega)
      obtain ⟨x, hx⟩ := lt_nth (l := l) (i := i) (by rw [H.out.2]; omega)
      obtain ⟨y, hy⟩ := lt_nth (l := l) (i := i + 1) (by rw [H.out.2]; exact hit)
      have HX : Hid (l[i]? = some x ∧ l[i + 1]? = some y) := ⟨hx, hy⟩
      have l0 := fun q : Later wr => lI ((H.out.1.below J.out.2).below q.below) HX.out.1
      have l1 := fun q : Later wr => lI ((H.out.1.below J.out.2).below q.below) HX.out.2
      clear hf hB hx hy
      by_cases hc : x < y
      · have E : Hid (R = ris ltI (l.drop (i + 1))) := by rw [J.out.1, ris_yes HX.out.1 HX.out.2 (decide_eq_true hc)]; exact rfl
        have d0 : decide (y ≤ x) = false := by simp; omega
        clear hc
        go_wp2_with fail
        refine wp_region_later (by kernel_rfl) (by kernel_rfl) ?_
        repeat (go_big_quiet_step (first | exact rfl))
        refine wpQuiet_nil ?_
        intro _ hw'
        obtain ⟨q, rfl⟩ := hw'
        clear l0 l1
        go_wp2
        go_roundw
        case rel => exact ⟨i + 1, by omega, by go_num, E.out, below_later J.out.2 q⟩
        case measure => simp [intOf]; omega
      · have E : Hid (R = false) := by rw [J.out.1, ris_no HX.out.1 HX.out.2 (decide_eq_false hc)]; exact rfl
        have d0 : decide (y ≤ x) = true := by simp; omega
        clear hc
        go_wp2_with fail
        refine wp_region_later (by kernel_rfl) (by kernel_rfl) ?_
        repeat (go_big_quiet_step (first | exact rfl))
        refine wpQuiet_nil ?_
        intro _ hw'
        obtain ⟨q, rfl⟩ := hw'
        clear l0 l1
        go_wp2
        go_ret
        exact ⟨ret_bool E.out.symm, below_later J.out.2 q⟩
    · have hi1 : ¬ (i : Int) + 1 < (n : Int) := by omega
      have E : Hid (R = true) := by rw [J.out.1, ris_end (by rw [H.out.2]; omega)]; exact rfl
      clear hf hB
      go_wp2
      go_ret
      exact ⟨ret_bool E.out.symm, J.out.2⟩
set_option maxHeartbeats 4000000 in
theorem are_any (x : Pr) (p : Pv) (a : Option Addr) (n c : Nat) (l : List Int) (k : Int) (w : World) (h : IsPv w x p) (hs : SlAt eI w a n c l) :
    Calls Try.prog 33 #[.agg x.cs, .slice a n c, .int .i64 k] w fun r w' => r = .returned (.bool (l.all (fun i => isK p i k))) ∧ Below w.heap.size w w' := by
  obtain ⟨ka, kn, kc, kv, ks⟩ := h.k
  obtain ⟨W, hW, r0, bW, zW⟩ := PrAt.new w x
  have hnn := hs.int
  have hkn := ks.int
  obtain ⟨R, hR⟩ : ∃ z, l.all (fun i => isK p i k) = z := ⟨_, rfl⟩
  have H : Hid (SlAt eI W a n c l ∧ l.length = n ∧ Below w.heap.size w W ∧ PrAt W w.heap.size x ∧ x.k = .slice ka kn kc ∧ SlAt eK W ka kn kc p.ks ∧ p.ks.length = kn) := ⟨hs.below bW, hs.len, bW, r0, kv, ks.below bW, ks.len⟩
  have HR : Hid (l.all (fun i => isK p i k) = R) := hR
  rw [hR]
  clear hs bW zW r0 h hR kv ks
  go_enter Try.func33, Try.ntmps33
  go_wp2_with fail
  go_loopw [7] (fun v wr => ∃ i : Nat, i ≤ n ∧ v = .int .i64 i ∧ R = (l.drop i).all (fun i => isK p i k) ∧ Below W.heap.size W wr) (fun v _ => n - (intOf v).toNat)
  case atStart => exact ⟨0, by omega, rfl, HR.out.symm, Below.refl _ _⟩
  case round =>
    obtain ⟨i, hi, rfl, hf, hB⟩ := hrel
    have J : Hid (R = (l.drop i).all (fun i => isK p i k) ∧ Below W.heap.size W wr) := ⟨hf, hB⟩
    have hi0 : (0 : Int) ≤ (i : Int) := by omega
    by_cases hit : i < n
    · have hi1 : (i : Int) < (n : Int) := by omega
      obtain ⟨b, o, rfl⟩ := H.out.1.some' (by omega)
      obtain ⟨y, hy⟩ := lt_nth (l := l) (i := i) (by rw [H.out.2.1]; exact hit)
      have l0 := fun q : Later wr => lI ((H.out.1.below hB).below q.below) hy
      have c0 := fun q : Later wr => ((H.out.2.2.2.1.below hB).below q.below).k
      rw [H.out.2.2.2.2.1] at c0
      have HX : Hid (l[i]? = some y) := hy
      clear hf hB hy
      by_cases h1 : y < 0
      · have d1 : decide (y < 0) = true := by simpa using h1
        have E : Hid (R = false) := by rw [J.out.1, all_no HX.out (by unfold isK hasP; rw [decide_eq_false (by omega)]; rfl)]; exact rfl
        clear h1
        go_wp2_with fail
        refine wp_region_later (by kernel_rfl) (by kernel_rfl) ?_
        repeat (go_big_quiet_step (first | exact rfl))
        refine wpQuiet_nil ?_
        intro _ hw'
        obtain ⟨q, rfl⟩ := hw'
        clear l0 c0
        go_wp2
        go_ret
        exact ⟨ret_bool E.out.symm, below_over H.out.2.2.1 (below_later J.out.2 q)⟩
      · have d1 : decide (y < 0) = false := by simpa using h1
        by_cases h2 : (kn : Int) ≤ y
        · have d2 : decide (y ≥ (kn : Int)) = true := by simpa using h2
          have d2' : decide ((kn : Int) ≤ y) = true := by simpa using h2
          have E : Hid (R = false) := by
            rw [J.out.1, all_no HX.out (by unfold isK hasP; rw [H.out.2.2.2.2.2.2, decide_eq_false (p := y < (kn : Int)) (by omega), Bool.and_false]; rfl)]
            exact rfl
          clear h1 h2
          go_wp2_with fail
          refine wp_region_later (by kernel_rfl) (by kernel_rfl) ?_
          repeat (go_big_quiet_step (first | exact rfl))
          refine wpQuiet_nil ?_
          intro _ hw'
          obtain ⟨q, rfl⟩ := hw'
          clear l0 c0
          go_wp2
          go_ret
          exact ⟨ret_bool E.out.symm, below_over H.out.2.2.1 (below_later J.out.2 q)⟩
        · have d2 : decide (y ≥ (kn : Int)) = false := by simpa using h2
          have d2' : decide ((kn : Int) ≤ y) = false := by simpa using h2
          have hj : y.toNat < kn := by omega
          have hj0 : (0 : Int) ≤ y := by omega
          have hj1 : y < (kn : Int) := by omega
          obtain ⟨u, hu⟩ := lt_nth (l := p.ks) (i := y.toNat) (by rw [H.out.2.2.2.2.2.2]; exact hj)
          obtain ⟨b2, o2, rfl⟩ := H.out.2.2.2.2.2.1.some' (by omega)
          have c1 := fun q : Later wr => lK ((H.out.2.2.2.2.2.1.below J.out.2).below q.below) hu
          have EK : isK p y k = (u == k) := by
            unfold isK hasP kAt
            rw [H.out.2.2.2.2.2.2, decide_eq_true hj0, decide_eq_true hj1, hu]
            rfl
          clear h1 h2 hj hu
          by_cases h3 : u = k
          · have e3 : (u != k) = false := by simp [h3]
            have E : Hid (R = (l.drop (i + 1)).all (fun i => isK p i k)) := by rw [J.out.1, all_yes HX.out (by rw [EK]; simp [h3])]; exact rfl
            clear EK h3
            go_wp2_with fail
            refine wp_region_later (by kernel_rfl) (by kernel_rfl) ?_
            repeat (go_big_quiet_step (first | exact rfl))
            refine wpQuiet_nil ?_
            intro _ hw'
            obtain ⟨q, rfl⟩ := hw'
            clear l0 c0 c1
            go_wp2
            go_roundw
            case rel => exact ⟨i + 1, by omega, by go_num, E.out, below_later J.out.2 q⟩
            case measure => simp [intOf]; omega
          · have e3 : (u != k) = true := by simp [h3]
            have E : Hid (R = false) := by rw [J.out.1, all_no HX.out (by rw [EK]; simp [h3])]; exact rfl
            clear EK h3
            go_wp2_with fail
            refine wp_region_later (by kernel_rfl) (by kernel_rfl) ?_
            repeat (go_big_quiet_step (first | exact rfl))
            refine wpQuiet_nil ?_
            intro _ hw'
            obtain ⟨q, rfl⟩ := hw'
            clear l0 c0 c1
            go_wp2
            go_ret
            exact ⟨ret_bool E.out.symm, below_over H.out.2.2.1 (below_later J.out.2 q)⟩
    · have hin : i = n := by omega
      subst hin
      have hi1 : ¬ (i : Int) < (i : Int) := by omega
      have E : Hid (R = true) := by rw [J.out.1, all_end (by rw [H.out.2.1]; exact Nat.le_refl _)]; exact rfl
      clear hf hB
      go_wp2
      go_ret
      exact ⟨ret_bool E.out.symm, below_over H.out.2.2.1 J.out.2⟩
end Go.Proofs.Ytcejfkkhmlebdaa
