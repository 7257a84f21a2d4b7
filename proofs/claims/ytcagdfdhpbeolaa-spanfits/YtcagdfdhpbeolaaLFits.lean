/-
  SpanFits: the walk, for every input.
-/
import Derived.Test.YtcagdfdhpbeolaaLNodes
import Derived.Test.YtcagdfdhpbeolaaPFit
namespace Go.Proofs.Ytcagdfdhpbeolaa
set_option linter.unusedVariables false
set_option maxRecDepth 8000
set_option linter.unusedSimpArgs false
open Go.RowKit

attribute [local go_sem ↓] ldV eqgV neqV
set_option maxHeartbeats 16000000 in
theorem SpanFits_walk (a : Option Addr) (n c : Nat) (ids0 : List Nat) (a' : Option Addr) (n' c' : Nat) (es0 : List Eg) (w : World) (hs : SlAt eU w a n c ids0) (hl : ∀ x ∈ ids0, x < 18446744073709551616) (ht : SlAt eE w a' n' c' es0) (_hx : ∀ u ∈ es0, True) :
    Calls Try.prog 6 #[.slice a n c, .slice a' n' c'] w fun r w' => r = .returned (.bool true) ∧ Below w.heap.size w w' := by
  have H0 : Hid (SlAt eU w a n c ids0 ∧ SlAt eE w a' n' c' es0 ∧ ∀ x ∈ ids0, x < 18446744073709551616) := ⟨hs, ht, hl⟩
  clear hs ht hl _hx
  go_enter Try.func6, Try.ntmps6
  go_wp2_with fail
  refine (short_any a n c ids0 w H0.out.1).mono ?_
  rintro _ W1 ⟨⟨m, rfl, hm, s1⟩, b1⟩
  have H1 : Hid (SlAt eU W1 a m c (ids0.take 9) ∧ m ≤ 9 ∧ Below w.heap.size w W1) := ⟨s1, hm, b1⟩
  clear s1 hm b1
  go_wp2_with fail
  refine (few_any a' n' c' es0 W1 (H0.out.2.1.below H1.out.2.2)).mono ?_
  rintro _ W2 ⟨⟨m', rfl, hm', s2⟩, b2⟩
  obtain ⟨ids, hids⟩ : ∃ z, ids0.take 9 = z := ⟨_, rfl⟩
  obtain ⟨es, hes⟩ : ∃ z, es0.take 26 = z := ⟨_, rfl⟩
  have GS2 : Hid (GS w W2 a m c a' m' c' ids es) := ⟨by rw [← hids]; exact H1.out.1.below b2, by rw [← hes]; exact s2, by rw [← hids]; exact take_u H0.out.2.2 9, H1.out.2.1, hm', below_over H1.out.2.2 b2⟩
  have hm9 := GS2.out.n9
  have hm26 := GS2.out.m26
  clear s2 hm' b2 H1 H0 hids hes
  go_wp2_with fail
  cases hc : chkI ids es
  · have hE := err_no hc
    clear hc
    refine (ends_any a m c ids a' m' c' es W2 GS2.out.sl GS2.out.ed GS2.out.u64 (by omega) (by omega)).mono ?_
    rintro _ W3 ⟨⟨a2, n2, c2, N, rfl, hN, hO⟩, b⟩
    have G3 : Hid (GS w W3 a m c a' m' c' ids es ∧ SlAt eX W3 a2 n2 c2 N ∧ endO ids es N) := ⟨GS2.out.below b, hN, hO⟩
    clear hN hO b GS2
    go_wp2_with fail
    refine (nodes_any a m c ids a' m' c' es W3 G3.out.1.sl G3.out.1.ed G3.out.1.u64 (by omega) (by omega)).mono ?_
    rintro _ W4 ⟨⟨a3, n3, c3, M, rfl, hN, hO⟩, b⟩
    have G4 : Hid (GS w W4 a m c a' m' c' ids es ∧ (SlAt eX W4 a2 n2 c2 N ∧ endO ids es N) ∧ SlAt eN W4 a3 n3 c3 M ∧ nodO ids es M) := ⟨G3.out.1.below b, ⟨G3.out.2.1.below b, G3.out.2.2⟩, hN, hO⟩
    clear hN hO b G3
    go_wp2_with fail
    refine (rcheck_any a m c ids a' m' c' es W4 G4.out.1.sl G4.out.1.ed G4.out.1.u64 (by omega) (by omega)).mono ?_
    rintro _ W5 ⟨rfl, b5⟩
    rw [hE]
    have B5 : Hid (Below w.heap.size w W5) := below_over G4.out.1.bel b5
    clear b5 G4 hE
    go_wp2_with fail
    refine (awake_any W5).mono ?_
    rintro _ W6 ⟨rfl, b6⟩
    have B6 : Hid (Below w.heap.size w W6) := below_over B5.out b6
    clear b6
    go_wp2
    go_ret
    exact ⟨rfl, B6.out⟩
  · have hE := err_ok hc
    obtain ⟨L, rfl, G⟩ := gok_of hc GS2.out.u64
    have HC : Hid (chkI ids (L.map Ne.eg) = true ∧ Gok ids L) := ⟨hc, G⟩
    clear hc G
    refine (ends_any a m c ids a' m' c' (L.map Ne.eg) W2 GS2.out.sl GS2.out.ed GS2.out.u64 (by omega) (by omega)).mono ?_
    rintro _ W3 ⟨⟨a2, n2, c2, N, rfl, hN, hO⟩, b⟩
    have G3 : Hid (GS w W3 a m c a' m' c' ids (L.map Ne.eg) ∧ SlAt eX W3 a2 n2 c2 N ∧ endO ids (L.map Ne.eg) N) := ⟨GS2.out.below b, hN, hO⟩
    clear hN hO b GS2
    go_wp2_with fail
    refine (nodes_any a m c ids a' m' c' (L.map Ne.eg) W3 G3.out.1.sl G3.out.1.ed G3.out.1.u64 (by omega) (by omega)).mono ?_
    rintro _ W4 ⟨⟨a3, n3, c3, M, rfl, hN, hO⟩, b⟩
    have G4 : Hid (GS w W4 a m c a' m' c' ids (L.map Ne.eg) ∧ (SlAt eX W4 a2 n2 c2 N ∧ endO ids (L.map Ne.eg) N) ∧ SlAt eN W4 a3 n3 c3 M ∧ nodO ids (L.map Ne.eg) M) := ⟨G3.out.1.below b, ⟨G3.out.2.1.below b, G3.out.2.2⟩, hN, hO⟩
    clear hN hO b G3
    go_wp2_with fail
    refine (rcheck_any a m c ids a' m' c' (L.map Ne.eg) W4 G4.out.1.sl G4.out.1.ed G4.out.1.u64 (by omega) (by omega)).mono ?_
    rintro _ W ⟨rfl, b5⟩
    rw [hE]
    have hNF := endO_is G4.out.2.1.2 HC.out.1
    have hMF := nodO_is G4.out.2.2.2 HC.out.1
    subst hNF
    subst hMF
    have hid : ids.length = m := G4.out.1.sl.len
    have hLl : L.length = m' := by rw [← G4.out.1.ed.len, List.length_map]
    have hn2 : n2 = 2 * m' := by rw [← G4.out.2.1.1.len, endsF_len, hLl]
    have hn3 : n3 = m := by rw [← G4.out.2.2.1.len, nodesF_len, hid]
    subst hn3
    have K : Hid (SlAt eU W a n3 c ids ∧ SlAt eX W a2 n2 c2 (endsF ids L) ∧ SlAt eN W a3 n3 c3 (nodesF ids L) ∧ Below w.heap.size w W ∧ ids.length = n3 ∧ L.length = m' ∧ (sdl L).length = n2) := ⟨G4.out.1.sl.below b5, G4.out.2.1.1.below b5, G4.out.2.2.1.below b5, below_over G4.out.1.bel b5, hid, hLl, by rw [sdl_len, hLl, hn2]⟩
    have h2m : 2 * (m' : Int) = (n2 : Int) := by omega
    have hb2 : -9223372036854775808 ≤ 2 * (m' : Int) ∧ 2 * (m' : Int) ≤ 9223372036854775807 := by omega
    have HN2 : Hid (n2 = 2 * m') := hn2
    clear b5 hE G4 hid hLl hn2
    go_wp2_with fail
    clear h2m hb2
    go_loopw [9] (fun v9 wr => ∃ i : Nat, i ≤ m' ∧ v9 = .int .i64 i ∧ Below W.heap.size W wr) (fun v9 _ => m' - (intOf v9).toNat)
    case atStart => exact ⟨0, by omega, rfl, Below.refl _ _⟩
    case round =>
      obtain ⟨i, hi, rfl, hB⟩ := hrel
      have J : Hid (Below W.heap.size W wr) := hB
      have hi0 : (0 : Int) ≤ (i : Int) := by omega
      by_cases hit : i < m'
      · have hi1 : (i : Int) < (m' : Int) := by omega
        have hil : i < L.length := by rw [K.out.2.2.2.2.2.1]; exact hit
        obtain ⟨x, hx⟩ := lt_nth hil
        obtain ⟨b, o, rfl⟩ := K.out.2.1.some' (by have := HN2.out; omega)
        obtain ⟨k, hk⟩ : ∃ k : Nat, 2 * (i : Int) = (k : Int) := ⟨2 * i, by omega⟩
        have hk2 : k = 2 * i := by omega
        have hbk : -9223372036854775808 ≤ 2 * (i : Int) ∧ 2 * (i : Int) ≤ 9223372036854775807 := by omega
        have hbk1 : -9223372036854775808 ≤ (k : Int) + 1 ∧ (k : Int) + 1 ≤ 9223372036854775807 := by omega
        have hk0 : (0 : Int) ≤ (k : Int) := by omega
        have hk1 : (k : Int) < (n2 : Int) := by have := HN2.out; omega
        have hk10 : (0 : Int) ≤ (k : Int) + 1 := by omega
        have hk11 : (k : Int) + 1 < (n2 : Int) := by have := HN2.out; omega
        have e0 := endsF_at (ids := ids) hx (j := 0) (by omega)
        have e1 := endsF_at (ids := ids) hx (j := 1) (by omega)
        rw [show 2 * i + 0 = k by omega] at e0
        rw [show 2 * i + 1 = k + 1 by omega] at e1
        have hSX := K.out.2.1.below hB
        have c0 := fun q : Later wr => cX2 (hSX.below q.below) e0
        have c1 := fun q : Later wr => cX2 (hSX.below q.below) e1
        have v0 := fun q : Later wr => vX (hSX.below q.below) e0
        have v1 := fun q : Later wr => vX (hSX.below q.below) e1
        have hmem := sdl_mem hx (j := 0) (by omega)
        have hv : (endOf ids L (sdN x 0)).v = (endOf ids L (sdN x 1)).v := vec_turn HC.out.2 hmem
        rw [← hv] at v1
        obtain ⟨v, hvv⟩ : ∃ v, (endOf ids L (sdN x 0)).v = v := ⟨_, rfl⟩
        rw [hvv] at v0 v1
        have ev : eqV v v = true := eqV_iff.2 rfl
        have ro := roles_two HC.out.2 hmem
        have r0 : (endOf ids L (sdN x 0)).o = roleOf ids L (sdN x 0) := rfl
        have r1 : (endOf ids L (sdN x 1)).o = roleOf ids L (sdN x 0).turn := rfl
        rw [r0] at c0
        rw [r1] at c1
        have HX : Hid (k = 2 * i) := hk2
        clear hB hx hil e0 e1 hSX hmem hv hvv r0 r1 hk2
        rcases ro with ⟨q0, q1 | q1⟩ | ⟨q1, q0 | q0⟩
        all_goals
          rw [q0] at c0
          rw [q1] at c1
          clear q0 q1
          go_wp2_with fail
          refine wp_region_later (by kernel_rfl) (by kernel_rfl) ?_
          repeat (go_big_quiet_step (first | exact rfl))
          refine wpQuiet_nil ?_
          intro _ hw'
          obtain ⟨q, rfl⟩ := hw'
          have v0' := fun p : Later q.val => v0 ⟨p.val, below_over q.below p.below⟩
          have v1' := fun p : Later q.val => v1 ⟨p.val, below_over q.below p.below⟩
          clear c0 c1 v0 v1
          go_wp2_with fail
          refine wp_region_later (by kernel_rfl) (by kernel_rfl) ?_
          repeat (go_big_quiet_step (first | exact rfl))
          refine wpQuiet_nil ?_
          intro _ hw'
          obtain ⟨p, rfl⟩ := hw'
          go_wp2
          go_roundw
          case rel => exact ⟨i + 1, by omega, by go_num, below_later (below_later J.out q) p⟩
          case measure => simp [intOf]; omega
      · have hin : i = m' := by omega
        subst hin
        have hi1 : ¬ (i : Int) < (i : Int) := by omega
        clear hB
        go_wp2_with fail
        go_loopw [14] (fun v14 wx => ∃ i : Nat, i ≤ n3 ∧ v14 = .int .i64 i ∧ Below W.heap.size W wx) (fun v14 _ => n3 - (intOf v14).toNat)
        case atStart => exact ⟨0, by omega, rfl, J.out⟩
        case round =>
          obtain ⟨d, hd, rfl, hB⟩ := hrel
          have hd0 : (0 : Int) ≤ (d : Int) := by omega
          by_cases hdt : d < n3
          · have hd1 : (d : Int) < (n3 : Int) := by omega
            have J2 : Hid (Below W.heap.size W wr ∧ d < ids.length) := ⟨hB, by rw [K.out.2.2.2.2.1]; exact hdt⟩
            have hn2i := K.out.2.1.int
            clear hB
            go_wp2_with fail
            go_loopw [15, 16] (fun v15 v16 wx => ∃ (k : Nat) (mm : Int), k ≤ n2 ∧ v16 = .int .i64 k ∧ v15 = .int .i64 mm ∧ 0 ≤ mm ∧ mm ≤ k ∧ cntP ids L d k mm ∧ Below W.heap.size W wx) (fun _ v16 _ => n2 - (intOf v16).toNat)
            case atStart => exact ⟨0, 0, by omega, rfl, rfl, by omega, by omega, cnt_start d, J2.out.1⟩
            case round =>
              obtain ⟨k, mm, hk, rfl, rfl, hmm0, hmmk, hcn, hB⟩ := hrel
              have hk0 : (0 : Int) ≤ (k : Int) := by omega
              have J3 : Hid (cntP ids L d k mm ∧ Below W.heap.size W wr) := ⟨hcn, hB⟩
              by_cases hkt : k < n2
              · have hk1 : (k : Int) < (n2 : Int) := by omega
                have hkl : k < (sdl L).length := by rw [K.out.2.2.2.2.2.2]; exact hkt
                obtain ⟨s, hs⟩ := lt_nth hkl
                obtain ⟨b, o, rfl⟩ := K.out.2.1.some' (by omega)
                have hSX := K.out.2.1.below hB
                have c0 := cX0 hSX (endsF_sd hs)
                have c2' := cX2 hSX (endsF_sd hs)
                have x0 : (endOf ids L s).b = (s.a : Int) := rfl
                have x2 : (endOf ids L s).o = roleOf ids L s := rfl
                rw [x0] at c0
                rw [x2] at c2'
                obtain ⟨ro, hro⟩ : ∃ z, roleOf ids L s = z := ⟨_, rfl⟩
                rw [hro] at c2'
                have HS : Hid ((sdl L)[k]? = some s ∧ roleOf ids L s = ro) := ⟨hs, hro⟩
                clear hcn hB hs hkl hSX x0 x2 hro
                cases q1 : ((s.a : Int) == (d : Int))
                · have Z : Hid (cntP ids L d (k + 1) mm) := cnt_no J3.out.1 HS.out.1 (fun h => by have := beq_eq_false_iff_ne.1 q1; omega)
                  go_wp2
                  go_roundw
                  case rel => exact ⟨k + 1, mm, by omega, by go_num, rfl, by omega, by omega, Z.out, J3.out.2⟩
                  case measure => simp [intOf]; omega
                · cases q2 : (ro == 3)
                  · have Z : Hid (cntP ids L d (k + 1) mm) := cnt_no J3.out.1 HS.out.1 (fun h => by have := beq_eq_false_iff_ne.1 q2; have := HS.out.2; omega)
                    go_wp2
                    go_roundw
                    case rel => exact ⟨k + 1, mm, by omega, by go_num, rfl, by omega, by omega, Z.out, J3.out.2⟩
                    case measure => simp [intOf]; omega
                  · have hh : s.a = d ∧ roleOf ids L s = 3 := by
                      have h1 := beq_iff_eq.1 q1
                      have h2 := beq_iff_eq.1 q2
                      have h3 := HS.out.2
                      exact ⟨by omega, by omega⟩
                    have Z : Hid (cntP ids L d (k + 1) (mm + 1)) := cnt_yes HC.out.2 J3.out.1 HS.out.1 hh
                    have hrp : rpOf ids L d = (s.pa : Int) := by have := role3_iff.1 hh.2; rwa [hh.1] at this
                    obtain ⟨b3, o3, rfl⟩ := K.out.2.2.1.some' (by omega)
                    have hSX := K.out.2.1.below J3.out.2
                    have hSN := K.out.2.2.1.below J3.out.2
                    have p0 := fun q : Later wr => cX1 (hSX.below q.below) (endsF_sd HS.out.1)
                    have p1 := fun q : Later wr => cN2 (hSN.below q.below) (nodesF_at J2.out.2)
                    have y0 : (endOf ids L s).p = (s.pa : Int) := rfl
                    rw [y0] at p0
                    simp only [hrp] at p1
                    have hmb : -9223372036854775808 ≤ mm + 1 ∧ mm + 1 ≤ 9223372036854775807 := by omega
                    clear hh hrp hSX hSN y0
                    go_wp2_with fail
                    refine wp_region_later (by kernel_rfl) (by kernel_rfl) ?_
                    repeat (go_big_quiet_step (first | exact rfl))
                    refine wpQuiet_nil ?_
                    intro _ hw'
                    obtain ⟨q, rfl⟩ := hw'
                    clear p0 p1
                    go_wp2
                    go_roundw
                    case rel => exact ⟨k + 1, mm + 1, by omega, by go_num, rfl, by omega, by omega, Z.out, below_later J3.out.2 q⟩
                    case measure => simp [intOf]; omega
              · have hkn : k = n2 := by omega
                subst hkn
                have hk1 : ¬ (k : Int) < (k : Int) := by omega
                have hend := cnt_end HC.out.2 hcn (by rw [← sdl_len, K.out.2.2.2.2.2.2]; exact Nat.le_refl _) J2.out.2
                obtain ⟨b3, o3, rfl⟩ := K.out.2.2.1.some' (by omega)
                obtain ⟨b4, o4, rfl⟩ := K.out.1.some' (by omega)
                have hSN := K.out.2.2.1.below hB
                have n0 := fun q : Later wr => cN0 (hSN.below q.below) (nodesF_at J2.out.2)
                have n1 := fun q : Later wr => cN1 (hSN.below q.below) (nodesF_at J2.out.2)
                have n2' := fun q : Later wr => cN2 (hSN.below q.below) (nodesF_at J2.out.2)
                have i0 := fun q : Later wr => ldu ((K.out.1.below hB).below q.below) (getD_at J2.out.2)
                simp only at n0 n1 n2'
                have i1 : ∀ q : Later wr, q.val.cell? ⟨b4, o4 + d, none⟩ = some (.int .u64 (idO ids d : Int)) := i0
                clear i0 hSN hcn hB
                cases hq : ((kr ids L d : Int) == (idO ids d : Int))
                · have hr : ¬ isRoot ids L d := fun h => by
                    have h1 := beq_eq_false_iff_ne.1 hq
                    have h2 : kr ids L d = idO ids d := h
                    rw [h2] at h1
                    exact h1 rfl
                  have hm1 := hend.2 hr
                  subst hm1
                  have hrn := rp_nonneg HC.out.2 J2.out.2 hr
                  obtain ⟨rp, hrp⟩ : ∃ z, rpOf ids L d = z := ⟨_, rfl⟩
                  simp only [hrp] at n2' hrn
                  have hrb : (rp == -1) = false := beq_eq_false_iff_ne.2 hrn
                  clear hr hend hrp hrn
                  go_wp2_with fail
                  refine wp_region_later (by kernel_rfl) (by kernel_rfl) ?_
                  repeat (go_big_quiet_step (first | exact rfl))
                  refine wpQuiet_nil ?_
                  intro _ hw'
                  obtain ⟨q, rfl⟩ := hw'
                  have z2 := n2' q
                  clear n0 n1 n2' i1
                  go_wp2
                  go_roundw
                  case rel => exact ⟨d + 1, by omega, by go_num, below_later J3.out.2 q⟩
                  case measure => simp [intOf]; omega
                · have hr : isRoot ids L d := by
                    have h1 := beq_iff_eq.1 hq
                    unfold isRoot
                    show kr ids L d = idO ids d
                    omega
                  have hm1 := hend.1 hr
                  subst hm1
                  have h3 := rp_root hr
                  have h4 := root_cost HC.out.2 J2.out.2 hr
                  simp only [h3] at n2'
                  simp only [h4] at n1
                  clear hr hend h3 h4
                  go_wp2_with fail
                  refine wp_region_later (by kernel_rfl) (by kernel_rfl) ?_
                  repeat (go_big_quiet_step (first | exact rfl))
                  refine wpQuiet_nil ?_
                  intro _ hw'
                  obtain ⟨q, rfl⟩ := hw'
                  have z2 := n2' q
                  have z1 := n1 q
                  clear n0 n1 n2' i1
                  go_wp2
                  go_roundw
                  case rel => exact ⟨d + 1, by omega, by go_num, below_later J3.out.2 q⟩
                  case measure => simp [intOf]; omega
          · have hdn : d = n3 := by omega
            subst hdn
            have hd1 : ¬ (d : Int) < (d : Int) := by omega
            have J4 : Hid (Below w.heap.size w wr) := below_over K.out.2.2.2.1 hB
            clear hB
            go_wp2_with fail
            refine (awake_any wr).mono ?_
            rintro _ W9 ⟨rfl, b9⟩
            have B9 : Hid (Below w.heap.size w W9) := below_over J4.out b9
            clear b9
            go_wp2
            go_ret
            exact ⟨rfl, B9.out⟩
end Go.Proofs.Ytcagdfdhpbeolaa
