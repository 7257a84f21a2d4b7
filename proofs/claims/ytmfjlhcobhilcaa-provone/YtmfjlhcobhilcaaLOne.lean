/-
  Of a port and a VLAN there is one service: the walk of the statement, for every input.
-/
import Derived.Test.YtmfjlhcobhilcaaMde
import Derived.Test.YtmfjlhcobhilcaaLDo
namespace Go.Proofs.Ytmfjlhcobhilcaa
set_option linter.unusedVariables false
set_option maxRecDepth 4000
set_option linter.unusedSimpArgs false
open Go.RowKit
attribute [local go_sem ↓] ldM stM ldC stC ldB stB ldP stP apI bsI
attribute [local go_sem] bsI_is bsI2_is

attribute [local go_sem ↓] stIs stKs stMs stCs stBs ldD stD apK bsK
attribute [local go_sem] bsK_is
set_option maxHeartbeats 16000000 in
theorem ProvOne_walk (bits ports : Int) (a : Option Addr) (n c : Nat) (rr : List Cm) (L : List Cd) (w : World) (hb : 0 ≤ bits ∧ bits ≤ 255) (hp : 0 ≤ ports ∧ ports ≤ 255) (h : Cms w a n c rr L) :
    Calls Try.prog 8 #[.int .u8 bits, .int .u8 ports, .slice a n c] w fun r w' => r = .returned (.bool true) ∧ Below w.heap.size w w' := by
  have H : Hid (Cms w a n c rr L) := h
  have hni := h.sl.int
  clear h
  go_enter Try.func8, Try.ntmps8
  go_wp2_with fail
  refine (made_any bits ports none 0 0 [] [] w hb hp (Cms.nil w)).mono ?_
  rintro _ W1 ⟨⟨x1, rfl, h1⟩, b1⟩
  obtain ⟨P0, hP0⟩ : ∃ z, madeP bits (prtN ports) [] = z := ⟨_, rfl⟩
  have E0 : Hid (chk P0 = true) := by rw [← hP0]; exact made_chk _ _ _
  rw [hP0] at h1
  obtain ⟨W2, s2, S2, b2⟩ := PvS.new (w := w) b1 h1
  have A2 : Hid (PvS w W2 W1.heap.size x1 P0) := S2
  clear h1 b1 S2 b2 hP0
  go_wp2_with fail
  obtain ⟨g1, hg1⟩ : ∃ z, W1.heap.size = z := ⟨_, rfl⟩
  rw [hg1] at A2
  rw [hg1]
  clear hg1
  go_loopw [8] (fun v wr => ∃ (i : Nat) (x : Pr) (P : Pv), i ≤ n ∧ i ≤ 90 ∧ v = .int .i64 i ∧ chk P = true ∧ PvS w wr g1 x P) (fun v _ => n - (intOf v).toNat)
  case atStart => exact ⟨0, x1, P0, by omega, by omega, rfl, E0.out, A2.out⟩
  case round =>
    obtain ⟨i, x, P, hi, hj, rfl, hC, hS⟩ := hrel
    have J : Hid (PvS w wr g1 x P ∧ chk P = true ∧ Sz P) := ⟨hS, hC, chk_sz hC⟩
    have hi0 : (0 : Int) ≤ (i : Int) := by omega
    clear hS hC
    by_cases hit : i < n ∧ i < 90
    · have hi1 : (i : Int) < (n : Int) := by omega
      have hi2 : (i : Int) < 90 := by omega
      have HI : Hid (i < n ∧ i < 90) := hit
      obtain ⟨b, o, rfl⟩ := H.out.sl.some' (by omega)
      obtain ⟨y, d, hy, hd, hc⟩ := H.out.get (i := i) (by omega)
      have l0 := lD (H.out.sl.below J.out.1.bel) hy
      obtain ⟨U1, s1, m1, b1⟩ := CmAt.put wr y
      have X : Hid (L[i]? = some d ∧ IsCm w y d) := ⟨hd, hc⟩
      have C1 : Hid (CmAt U1 wr.heap.size y ∧ Below wr.heap.size wr U1) := ⟨m1, b1⟩
      clear hy hd hc m1 b1
      have l1 := C1.out.1.b
      go_wp2_with fail
      refine (short_any y.b d.b.ps U1 (X.out.2.p.below (below_over J.out.1.bel C1.out.2))).mono ?_
      rintro _ U2 ⟨⟨z, rfl, hv, hs⟩, b2⟩
      obtain ⟨U3, s3, m3, g3⟩ := (C1.out.1.below b2).stB z
      obtain ⟨y', hy'⟩ : ∃ zz : Cm, { y with b := z } = zz := ⟨_, rfl⟩
      rw [hy'] at m3
      have C3 : Hid (CmAt U3 wr.heap.size y' ∧ Below wr.heap.size wr U3 ∧ IsCm U3 y' (shD d)) := by
        have bb : Below wr.heap.size wr U3 := gro (below_over C1.out.2 b2) g3 (Nat.le_refl _) (below_over C1.out.2 b2).size
        refine ⟨m3, bb, ?_⟩
        rw [← hy']
        exact (X.out.2.sh hv (hs w X.out.2.p)).below (below_over J.out.1.bel bb)
      clear hv hs b2 m3 g3 l0 l1 hy'
      clear hit
      obtain ⟨⟨q, e⟩, hqe⟩ : ∃ zz, doC P (shD d) = zz := ⟨_, rfl⟩
      have D : Hid (doC P (shD d) = (q, e)) := hqe
      clear hqe
      have DQ : Hid (chk q = true) := by have := do_chk (shD d) J.out.2.1; rw [D.out] at this; exact this
      have A4 : Hid (PvS w U3 g1 x P) := J.out.1.below C3.out.2.1
      have l2 := A4.out.ld
      have l3 := C3.out.1.ld
      go_wp2_with fail
      refine (do_is A4.out.pv J.out.2.2 C3.out.2.2 (sh_len d) D.out).mono ?_
      rintro _ U4 ⟨⟨x2, rfl, h4⟩, b4⟩
      obtain ⟨U5, s5, Q5, b5⟩ := PvS.new (w := w) (below_over A4.out.bel b4) h4.pv
      have A5 : Hid (PvS w U5 g1 x P ∧ PvS w U5 U4.heap.size x2 q) := ⟨(A4.out.below b4).below b5, Q5⟩
      clear h4 b4 Q5 b5 l2 l3
      have l5 := A5.out.2.ld
      by_cases he : e = 0
      · subst he
        obtain ⟨U6, s6, P6, g6⟩ := A5.out.1.st A5.out.2.pv
        have A6 : Hid (PvS w U6 g1 x2 q) := P6
        clear P6 g6
        go_wp2
        go_roundw
        case rel => exact ⟨i + 1, x2, q, by have := HI.out; omega, by have := HI.out; omega, by go_num, DQ.out, A6.out⟩
        case measure => have := HI.out; simp [intOf]; omega
      · have e0 : (e == 0) = false := by simp [he]
        clear he
        go_wp2
        go_roundw
        case rel => exact ⟨i + 1, x, P, by have := HI.out; omega, by have := HI.out; omega, by go_num, J.out.2.1, A5.out.1⟩
        case measure => have := HI.out; simp [intOf]; omega
    · have K : Hid (PvS w wr g1 x P ∧ chk P = true ∧ Sz P) := J.out
      obtain ⟨V, hV⟩ : ∃ z, wr = z := ⟨_, rfl⟩
      obtain ⟨ma, mn, mc, mv, ms⟩ := J.out.1.pv.m
      have hmi := ms.int
      have KM : Hid (x.m = .slice ma mn mc ∧ P.ms.length = mn ∧ SlAt eM wr ma mn mc P.ms) := ⟨mv, ms.len, ms⟩
      rw [hV] at K KM
      clear J ms mv
      by_cases h1 : i < n
      · have hi1 : (i : Int) < (n : Int) := by omega
        have hi2 : ¬ (i : Int) < 90 := by omega
        clear hit
        rw [hV]
        clear hV
        go_wp2_with fail
        clear hi1 hi2 hi0 hi hj h1
        go_loopw [12] (fun v wx => ∃ i : Nat, i ≤ mn ∧ v = .int .i64 i ∧ Below V.heap.size V wx) (fun v _ => mn - (intOf v).toNat)
        case atStart => exact ⟨0, by omega, rfl, Below.refl _ _⟩
        case round =>
          obtain ⟨i, hi, rfl, hB⟩ := hrel
          have J : Hid (PvS w wr g1 x P ∧ SlAt eM wr ma mn mc P.ms ∧ Below V.heap.size V wr) := ⟨K.out.1.below hB, KM.out.2.2.below hB, hB⟩
          have hi0 : (0 : Int) ≤ (i : Int) := by omega
          have c1 := J.out.1.var.m
          rw [KM.out.1] at c1
          clear hB
          by_cases hit : i < mn
          · have hi1 : (i : Int) < (mn : Int) := by omega
            obtain ⟨b, o, rfl⟩ := J.out.2.1.some' (by omega)
            obtain ⟨m, hm⟩ := lt_nth (l := P.ms) (i := i) (by rw [KM.out.2.1]; exact hit)
            have l0 := lM J.out.2.1 hm
            obtain ⟨U1, s1, m1, b1⟩ := MpAt.put wr m
            have ONE := one_of_chk K.out.2.1 (List.mem_of_getElem? hm)
            have X : Hid (P.ms[i]? = some m) := hm
            obtain ⟨C, hC⟩ : ∃ z, (car P m.s).1 = z := ⟨_, rfl⟩
            have Q1 : Hid (Value.tuple #[.int .i64 (svc P m.p m.v).1, .bool (svc P m.p m.v).2] = Value.tuple #[.int .i64 m.s, .bool true]) := by rw [ONE.1]; exact rfl
            have Q2 : Hid (Value.tuple #[.int .i64 (vof P m.p m.s).1, .bool (vof P m.p m.s).2] = Value.tuple #[.int .i64 m.v, .bool true]) := by rw [ONE.2.1]; exact rfl
            have Q3 : Hid (Value.tuple #[.int .i64 (car P m.s).1, .bool (car P m.s).2] = Value.tuple #[.int .i64 C, .bool true]) := by rw [ONE.2.2.1, hC]; exact rfl
            have Q4 : Hid ((pts P C).isSome = true) := by rw [← hC]; exact ONE.2.2.2
            have B1 : Hid (PvS w U1 g1 x P ∧ MpAt U1 wr.heap.size m ∧ Below V.heap.size V U1) := ⟨J.out.1.below b1, m1, below_over J.out.2.2 b1⟩
            clear hm m1 b1 ONE hC
            have f0 := B1.out.1.ld
            have e0 := B1.out.2.1.c0
            have e1 := B1.out.2.1.c1
            go_wp2_with fail
            refine (Calls.ret_eq Q1.out (svc_any x P m.p m.v U1 B1.out.1.pv)).mono ?_
            rintro _ U2 ⟨rfl, hb'⟩
            have B2 : Hid (PvS w U2 g1 x P ∧ MpAt U2 wr.heap.size m ∧ Below V.heap.size V U2) := ⟨B1.out.1.below hb', B1.out.2.1.below hb', below_over B1.out.2.2 hb'⟩
            clear hb' f0 e0 e1
            clear c1 l0
            have f0 := B2.out.1.ld
            have e0 := B2.out.2.1.c0
            have e2 := B2.out.2.1.c2
            go_wp2_with fail
            refine (Calls.ret_eq Q2.out (vof_any x P m.p m.s U2 B2.out.1.pv)).mono ?_
            rintro _ U3 ⟨rfl, hb'⟩
            have B3 : Hid (PvS w U3 g1 x P ∧ MpAt U3 wr.heap.size m ∧ Below V.heap.size V U3) := ⟨B2.out.1.below hb', B2.out.2.1.below hb', below_over B2.out.2.2 hb'⟩
            clear hb' f0 e0 e2
            have f0 := B3.out.1.ld
            have e2 := B3.out.2.1.c2
            go_wp2_with fail
            refine (Calls.ret_eq Q3.out (car_any x P m.s U3 B3.out.1.pv)).mono ?_
            rintro _ U4 ⟨rfl, hb'⟩
            have B4 : Hid (PvS w U4 g1 x P ∧ MpAt U4 wr.heap.size m ∧ Below V.heap.size V U4) := ⟨B3.out.1.below hb', B3.out.2.1.below hb', below_over B3.out.2.2 hb'⟩
            clear hb' f0 e2
            have f0 := B4.out.1.ld
            go_wp2_with fail
            refine (pts_any x P C U4 B4.out.1.pv K.out.2.2.2.2.2.2).mono ?_
            rintro _ U5 ⟨pv, rfl, po, hb'⟩
            rw [Q4.out]
            have B5 : Hid (PvS w U5 g1 x P ∧ MpAt U5 wr.heap.size m ∧ Below V.heap.size V U5 ∧ SlAt eM U5 (some ⟨b, o, none⟩) mn mc P.ms) := ⟨B4.out.1.below hb', B4.out.2.1.below hb', below_over B4.out.2.2 hb', KM.out.2.2.below (below_over B4.out.2.2 hb')⟩
            clear hb' f0 po
            have e1 := B5.out.2.1.c1
            have e2 := B5.out.2.1.c2
            go_wp2_with fail
            clear e1 e2
            obtain ⟨gm, hgm⟩ : ∃ z, wr.heap.size = z := ⟨_, rfl⟩
            rw [hgm] at B5
            rw [hgm]
            clear hgm B1 B2 B3 B4
            go_loopw [22] (fun v wx => ∃ k : Nat, k ≤ i ∧ v = .int .i64 k ∧ Below U5.heap.size U5 wx) (fun v _ => i - (intOf v).toNat)
            case atStart => exact ⟨0, by omega, rfl, Below.refl _ _⟩
            case round =>
              obtain ⟨k, hk, rfl, hB⟩ := hrel
              have JJ : Hid (Below U5.heap.size U5 wr) := hB
              have hk0 : (0 : Int) ≤ (k : Int) := by omega
              clear hB
              by_cases hkt : k < i
              · have hk1 : (k : Int) < (i : Int) := by omega
                have hk2 : (k : Int) < (mn : Int) := by omega
                obtain ⟨u, hu⟩ := lt_nth (l := P.ms) (i := k) (by rw [KM.out.2.1]; omega)
                have NE := one_apart K.out.2.1 hkt hu X.out
                have f1 := fun q : Later wr => (((B5.out.1.below JJ.out).below q.below).var).m
                rw [KM.out.1] at f1
                have f2 := fun q : Later wr => lM0 ((B5.out.2.2.2.below JJ.out).below q.below) hu
                have f3 := fun q : Later wr => lM1 ((B5.out.2.2.2.below JJ.out).below q.below) hu
                have f4 := fun q : Later wr => lM2 ((B5.out.2.2.2.below JJ.out).below q.below) hu
                have f5 := fun q : Later wr => ((B5.out.2.1.below JJ.out).below q.below).c0
                have f6 := fun q : Later wr => ((B5.out.2.1.below JJ.out).below q.below).c1
                have f7 := fun q : Later wr => ((B5.out.2.1.below JJ.out).below q.below).c2
                clear hu
                by_cases hpp : u.p = m.p
                · have p1 : (u.p == m.p) = true := by simp [hpp]
                  have p2 : (u.v == m.v) = false := by simp; exact fun e => NE ⟨hpp, Or.inl e⟩
                  have p3 : (u.s == m.s) = false := by simp; exact fun e => NE ⟨hpp, Or.inr e⟩
                  clear NE hpp
                  go_wp2_with fail
                  refine wp_region_later (by kernel_rfl) (by kernel_rfl) ?_
                  repeat (go_big_quiet_step (first | exact rfl))
                  refine wpQuiet_nil ?_
                  intro _ hw'
                  obtain ⟨q, rfl⟩ := hw'
                  clear f1 f2 f3 f4 f5 f6 f7
                  go_wp2
                  go_roundw
                  case rel => exact ⟨k + 1, by omega, by go_num, below_later JJ.out q⟩
                  case measure => simp [intOf]; omega
                · have p1 : (u.p == m.p) = false := by simp [hpp]
                  clear NE hpp
                  go_wp2_with fail
                  refine wp_region_later (by kernel_rfl) (by kernel_rfl) ?_
                  repeat (go_big_quiet_step (first | exact rfl))
                  refine wpQuiet_nil ?_
                  intro _ hw'
                  obtain ⟨q, rfl⟩ := hw'
                  clear f1 f2 f3 f4 f5 f6 f7
                  go_wp2
                  go_roundw
                  case rel => exact ⟨k + 1, by omega, by go_num, below_later JJ.out q⟩
                  case measure => simp [intOf]; omega
              · have hk1 : ¬ (k : Int) < (i : Int) := by omega
                clear hkt
                go_wp2
                go_roundw
                case rel => exact ⟨i + 1, by omega, by go_num, below_over B5.out.2.2.1 JJ.out⟩
                case measure => simp [intOf]; omega
          · have hi1 : ¬ (i : Int) < (mn : Int) := by omega
            have AW : Hid (Below w.heap.size w wr) := J.out.1.bel
            clear hit
            go_wp2_with fail
            refine (awake_any wr).mono ?_
            rintro _ V6 ⟨rfl, b6⟩
            have M6 : Hid (Below w.heap.size w V6) := below_over AW.out b6
            clear b6
            go_wp2
            go_ret
            exact ⟨rfl, M6.out⟩
      · have hi1 : ¬ (i : Int) < (n : Int) := by omega
        clear hit
        rw [hV]
        clear hV
        go_wp2_with fail
        clear hi1 hi0 hi hj h1
        go_loopw [12] (fun v wx => ∃ i : Nat, i ≤ mn ∧ v = .int .i64 i ∧ Below V.heap.size V wx) (fun v _ => mn - (intOf v).toNat)
        case atStart => exact ⟨0, by omega, rfl, Below.refl _ _⟩
        case round =>
          obtain ⟨i, hi, rfl, hB⟩ := hrel
          have J : Hid (PvS w wr g1 x P ∧ SlAt eM wr ma mn mc P.ms ∧ Below V.heap.size V wr) := ⟨K.out.1.below hB, KM.out.2.2.below hB, hB⟩
          have hi0 : (0 : Int) ≤ (i : Int) := by omega
          have c1 := J.out.1.var.m
          rw [KM.out.1] at c1
          clear hB
          by_cases hit : i < mn
          · have hi1 : (i : Int) < (mn : Int) := by omega
            obtain ⟨b, o, rfl⟩ := J.out.2.1.some' (by omega)
            obtain ⟨m, hm⟩ := lt_nth (l := P.ms) (i := i) (by rw [KM.out.2.1]; exact hit)
            have l0 := lM J.out.2.1 hm
            obtain ⟨U1, s1, m1, b1⟩ := MpAt.put wr m
            have ONE := one_of_chk K.out.2.1 (List.mem_of_getElem? hm)
            have X : Hid (P.ms[i]? = some m) := hm
            obtain ⟨C, hC⟩ : ∃ z, (car P m.s).1 = z := ⟨_, rfl⟩
            have Q1 : Hid (Value.tuple #[.int .i64 (svc P m.p m.v).1, .bool (svc P m.p m.v).2] = Value.tuple #[.int .i64 m.s, .bool true]) := by rw [ONE.1]; exact rfl
            have Q2 : Hid (Value.tuple #[.int .i64 (vof P m.p m.s).1, .bool (vof P m.p m.s).2] = Value.tuple #[.int .i64 m.v, .bool true]) := by rw [ONE.2.1]; exact rfl
            have Q3 : Hid (Value.tuple #[.int .i64 (car P m.s).1, .bool (car P m.s).2] = Value.tuple #[.int .i64 C, .bool true]) := by rw [ONE.2.2.1, hC]; exact rfl
            have Q4 : Hid ((pts P C).isSome = true) := by rw [← hC]; exact ONE.2.2.2
            have B1 : Hid (PvS w U1 g1 x P ∧ MpAt U1 wr.heap.size m ∧ Below V.heap.size V U1) := ⟨J.out.1.below b1, m1, below_over J.out.2.2 b1⟩
            clear hm m1 b1 ONE hC
            have f0 := B1.out.1.ld
            have e0 := B1.out.2.1.c0
            have e1 := B1.out.2.1.c1
            go_wp2_with fail
            refine (Calls.ret_eq Q1.out (svc_any x P m.p m.v U1 B1.out.1.pv)).mono ?_
            rintro _ U2 ⟨rfl, hb'⟩
            have B2 : Hid (PvS w U2 g1 x P ∧ MpAt U2 wr.heap.size m ∧ Below V.heap.size V U2) := ⟨B1.out.1.below hb', B1.out.2.1.below hb', below_over B1.out.2.2 hb'⟩
            clear hb' f0 e0 e1
            clear c1 l0
            have f0 := B2.out.1.ld
            have e0 := B2.out.2.1.c0
            have e2 := B2.out.2.1.c2
            go_wp2_with fail
            refine (Calls.ret_eq Q2.out (vof_any x P m.p m.s U2 B2.out.1.pv)).mono ?_
            rintro _ U3 ⟨rfl, hb'⟩
            have B3 : Hid (PvS w U3 g1 x P ∧ MpAt U3 wr.heap.size m ∧ Below V.heap.size V U3) := ⟨B2.out.1.below hb', B2.out.2.1.below hb', below_over B2.out.2.2 hb'⟩
            clear hb' f0 e0 e2
            have f0 := B3.out.1.ld
            have e2 := B3.out.2.1.c2
            go_wp2_with fail
            refine (Calls.ret_eq Q3.out (car_any x P m.s U3 B3.out.1.pv)).mono ?_
            rintro _ U4 ⟨rfl, hb'⟩
            have B4 : Hid (PvS w U4 g1 x P ∧ MpAt U4 wr.heap.size m ∧ Below V.heap.size V U4) := ⟨B3.out.1.below hb', B3.out.2.1.below hb', below_over B3.out.2.2 hb'⟩
            clear hb' f0 e2
            have f0 := B4.out.1.ld
            go_wp2_with fail
            refine (pts_any x P C U4 B4.out.1.pv K.out.2.2.2.2.2.2).mono ?_
            rintro _ U5 ⟨pv, rfl, po, hb'⟩
            rw [Q4.out]
            have B5 : Hid (PvS w U5 g1 x P ∧ MpAt U5 wr.heap.size m ∧ Below V.heap.size V U5 ∧ SlAt eM U5 (some ⟨b, o, none⟩) mn mc P.ms) := ⟨B4.out.1.below hb', B4.out.2.1.below hb', below_over B4.out.2.2 hb', KM.out.2.2.below (below_over B4.out.2.2 hb')⟩
            clear hb' f0 po
            have e1 := B5.out.2.1.c1
            have e2 := B5.out.2.1.c2
            go_wp2_with fail
            clear e1 e2
            obtain ⟨gm, hgm⟩ : ∃ z, wr.heap.size = z := ⟨_, rfl⟩
            rw [hgm] at B5
            rw [hgm]
            clear hgm B1 B2 B3 B4
            go_loopw [22] (fun v wx => ∃ k : Nat, k ≤ i ∧ v = .int .i64 k ∧ Below U5.heap.size U5 wx) (fun v _ => i - (intOf v).toNat)
            case atStart => exact ⟨0, by omega, rfl, Below.refl _ _⟩
            case round =>
              obtain ⟨k, hk, rfl, hB⟩ := hrel
              have JJ : Hid (Below U5.heap.size U5 wr) := hB
              have hk0 : (0 : Int) ≤ (k : Int) := by omega
              clear hB
              by_cases hkt : k < i
              · have hk1 : (k : Int) < (i : Int) := by omega
                have hk2 : (k : Int) < (mn : Int) := by omega
                obtain ⟨u, hu⟩ := lt_nth (l := P.ms) (i := k) (by rw [KM.out.2.1]; omega)
                have NE := one_apart K.out.2.1 hkt hu X.out
                have f1 := fun q : Later wr => (((B5.out.1.below JJ.out).below q.below).var).m
                rw [KM.out.1] at f1
                have f2 := fun q : Later wr => lM0 ((B5.out.2.2.2.below JJ.out).below q.below) hu
                have f3 := fun q : Later wr => lM1 ((B5.out.2.2.2.below JJ.out).below q.below) hu
                have f4 := fun q : Later wr => lM2 ((B5.out.2.2.2.below JJ.out).below q.below) hu
                have f5 := fun q : Later wr => ((B5.out.2.1.below JJ.out).below q.below).c0
                have f6 := fun q : Later wr => ((B5.out.2.1.below JJ.out).below q.below).c1
                have f7 := fun q : Later wr => ((B5.out.2.1.below JJ.out).below q.below).c2
                clear hu
                by_cases hpp : u.p = m.p
                · have p1 : (u.p == m.p) = true := by simp [hpp]
                  have p2 : (u.v == m.v) = false := by simp; exact fun e => NE ⟨hpp, Or.inl e⟩
                  have p3 : (u.s == m.s) = false := by simp; exact fun e => NE ⟨hpp, Or.inr e⟩
                  clear NE hpp
                  go_wp2_with fail
                  refine wp_region_later (by kernel_rfl) (by kernel_rfl) ?_
                  repeat (go_big_quiet_step (first | exact rfl))
                  refine wpQuiet_nil ?_
                  intro _ hw'
                  obtain ⟨q, rfl⟩ := hw'
                  clear f1 f2 f3 f4 f5 f6 f7
                  go_wp2
                  go_roundw
                  case rel => exact ⟨k + 1, by omega, by go_num, below_later JJ.out q⟩
                  case measure => simp [intOf]; omega
                · have p1 : (u.p == m.p) = false := by simp [hpp]
                  clear NE hpp
                  go_wp2_with fail
                  refine wp_region_later (by kernel_rfl) (by kernel_rfl) ?_
                  repeat (go_big_quiet_step (first | exact rfl))
                  refine wpQuiet_nil ?_
                  intro _ hw'
                  obtain ⟨q, rfl⟩ := hw'
                  clear f1 f2 f3 f4 f5 f6 f7
                  go_wp2
                  go_roundw
                  case rel => exact ⟨k + 1, by omega, by go_num, below_later JJ.out q⟩
                  case measure => simp [intOf]; omega
              · have hk1 : ¬ (k : Int) < (i : Int) := by omega
                clear hkt
                go_wp2
                go_roundw
                case rel => exact ⟨i + 1, by omega, by go_num, below_over B5.out.2.2.1 JJ.out⟩
                case measure => simp [intOf]; omega
          · have hi1 : ¬ (i : Int) < (mn : Int) := by omega
            have AW : Hid (Below w.heap.size w wr) := J.out.1.bel
            clear hit
            go_wp2_with fail
            refine (awake_any wr).mono ?_
            rintro _ V6 ⟨rfl, b6⟩
            have M6 : Hid (Below w.heap.size w V6) := below_over AW.out b6
            clear b6
            go_wp2
            go_ret
            exact ⟨rfl, M6.out⟩
end Go.Proofs.Ytmfjlhcobhilcaa
