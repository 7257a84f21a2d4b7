/-
  A frame goes to members that forward alone: the walk of the statement, for every input.
-/
import Derived.Test.YtcejfkkhmlebdaaPLw
import Derived.Test.YtcejfkkhmlebdaaRAsk
import Derived.Test.YtcejfkkhmlebdaaRch
namespace Go.Proofs.Ytcejfkkhmlebdaa
set_option linter.unusedVariables false
set_option maxRecDepth 4000
set_option linter.unusedSimpArgs false
open Go.RowKit
attribute [local go_sem ↓] ldM stM ldC stC ldB stB ldP stP apI bsI ldF stF ldO stO bdO st8 eqgO neqO eqlO
attribute [local go_sem] bsI_is

theorem bdM_is (w : World) : (bdS 42 #[(0, .int .u8 1), (1, .int .u8 2), (2, .int .u8 3), (3, .int .u8 4), (4, .int .u8 5), (5, .int .u8 6)]).run Try.prog w = .ok (.agg oM.cs) w := by kernel_rfl
theorem bdU_is (w : World) : (bdS 42 #[(0, .int .u8 2), (1, .int .u8 2), (2, .int .u8 3), (3, .int .u8 4), (4, .int .u8 5), (5, .int .u8 6)]).run Try.prog w = .ok (.agg oU.cs) w := by kernel_rfl
attribute [local go_sem] bdM_is bdU_is
/-- What the statement keeps. -/
structure MmS (w V : World) (x : Pr) (q : Pv) (f : Bf) (b3 : Nat) (ga : Option Addr) (gk gc : Nat) (g : List Gt) : Prop where
  ne : b3 ≠ w.heap.size
  pr : PrAt V w.heap.size x
  pv : IsPv V x q
  fr : FrAt V b3 f
  gs : SlAt eG V ga gk gc g
  bel : Below w.heap.size w V
theorem MmS.below {w V V' : World} {x : Pr} {q : Pv} {f : Bf} {b3 : Nat} {ga : Option Addr} {gk gc : Nat} {g : List Gt} (h : MmS w V x q f b3 ga gk gc g) (hb : Below V.heap.size V V') : MmS w V' x q f b3 ga gk gc g :=
  ⟨h.ne, h.pr.below hb, h.pv.below hb, h.fr.below hb, h.gs.below hb, below_over h.bel hb⟩
theorem cnt_yes {l : List Int} {k : Nat} {y x : Int} (h : l[k]? = some x) (e : x = y) : (l.take (k + 1)).countP (· == y) = (l.take k).countP (· == y) + 1 := by
  rw [List.take_add_one, h]
  subst e
  simp
theorem cnt_no {l : List Int} {k : Nat} {y x : Int} (h : l[k]? = some x) (e : ¬ x = y) : (l.take (k + 1)).countP (· == y) = (l.take k).countP (· == y) := by
  rw [List.take_add_one, h]
  simp [e]
set_option maxHeartbeats 16000000 in
theorem BcompMembers_walk (x : Pr) (p : Pv) (ga : Option Addr) (gn gc : Nat) (g : List Gt) (src : Int) (f : Bf) (dst : Int) (has : Bool) (w : World) (h : IsPv w x p) (hg : SlAt eG w ga gn gc g) (hf : f.ok) :
    Calls Try.prog 4 #[.agg x.cs, .slice ga gn gc, .int .i64 src, .agg f.cs, .int .i64 dst, .bool has] w fun r w' => r = .returned (.bool true) ∧ Below w.heap.size w w' := by
  obtain ⟨W1, hW1, r1, b1, z1⟩ := PrAt.new w x
  obtain ⟨W2, hW2, r2, b2, z2⟩ := FrAt.new W1 f
  have b02 : Below w.heap.size w W2 := below_over b1 b2
  have H : Hid (MmS w W2 x p f W1.heap.size ga gn gc g ∧ f.ok ∧ SlAt eG w ga gn gc g) := ⟨⟨by omega, r1.below b2, h.below b02, r2, hg.below b02, b02⟩, hf, hg⟩
  have l0 := H.out.1.pr.ld
  clear r1 r2 b1 b2 z1 z2 b02 h hg hf
  go_enter Try.func4, Try.ntmps4
  go_wp2_with fail
  refine (few_any x p W2 H.out.1.pv).mono ?_
  rintro _ X1 ⟨⟨x1, rfl, h1⟩, c1⟩
  obtain ⟨V1, s1, q1, g1⟩ := (H.out.1.pr.below c1).st (y := x1) h1.one
  obtain ⟨q, hq⟩ : ∃ z, fewP p = z := ⟨_, rfl⟩
  have SZ : Hid (Sz q) := by rw [← hq]; exact sz_few p
  rw [hq] at h1
  have bV1 : Below w.heap.size w V1 := gro (below_over H.out.1.bel c1) g1 (Nat.le_refl _) (below_over H.out.1.bel c1).size
  have K1 : Hid (MmS w V1 x1 q f W1.heap.size ga gn gc g) :=
    ⟨H.out.1.ne, q1, h1.keptV (H.out.1.pr.below c1) (H.out.1.pv.below c1) g1, (H.out.1.fr.below c1).keptBut g1 (by have := H.out.1.ne; simpa using this), H.out.2.2.below bV1, bV1⟩
  clear h1 c1 q1 g1 bV1 l0 hq
  go_wp2_with fail
  refine (cut_any ga gn gc g V1 K1.out.gs).mono ?_
  rintro _ X2 ⟨⟨v2, rfl, _⟩, c2⟩
  obtain ⟨gk, hgk⟩ : ∃ z, min gn 10 = z := ⟨_, rfl⟩
  obtain ⟨G, hG⟩ : ∃ z, g.take 10 = z := ⟨_, rfl⟩
  have gs2 := K1.out.gs.cutM kG 10
  rw [hgk, hG] at gs2
  rw [hgk]
  have hgk1 : gk ≤ 10 := by omega
  have hgk2 : (gk : Int) ≤ 9223372036854775807 := by omega
  have K2 : Hid (MmS w X2 x1 q f W1.heap.size ga gk gc G ∧ gk ≤ 1000 ∧ G.length = gk) := ⟨⟨K1.out.ne, K1.out.pr.below c2, K1.out.pv.below c2, K1.out.fr.below c2, gs2.below c2, below_over K1.out.bel c2⟩, by omega, gs2.len⟩
  have l0 := K2.out.1.pr.ld
  have l1 := K2.out.1.fr.ld
  clear c2 gs2 hgk hG hgk1 s1
  obtain ⟨LL, hLL⟩ : ∃ z, outL q G src f dst has = z := ⟨_, rfl⟩
  obtain ⟨OB, hOB⟩ : ∃ z, outB q src f = z := ⟨_, rfl⟩
  have P3 := out_any x1 q ga gk gc G src f dst has X2 K2.out.1.pv SZ.out.2.2.2.2 K2.out.1.gs K2.out.2.1 H.out.2.1
  rw [hLL, hOB] at P3
  have Q3 : Hid (Calls _ _ _ _ _) := P3
  have EL : Hid (outL q G src f dst has = LL) := hLL
  clear P3 hLL hOB
  go_wp2_with fail
  refine Q3.out.mono ?_
  rintro _ X3 ⟨⟨v3, rfl, o3⟩, c3⟩
  obtain ⟨la, lc, rfl, s3, _⟩ := o3.form
  obtain ⟨ln, hln⟩ : ∃ z, LL.length = z := ⟨_, rfl⟩
  rw [hln] at s3 ⊢
  have hl3 := s3.int
  have K3 : Hid (MmS w X3 x1 q f W1.heap.size ga gk gc G ∧ SlAt eI X3 la ln lc LL ∧ LL.length = ln) := ⟨K2.out.1.below c3, s3, hln⟩
  clear o3 c3 s3 l0 l1 hln Q3
  have l0 := K3.out.1.pr.ld
  have c0 := K3.out.1.fr.v
  obtain ⟨MM, hMM⟩ : ∃ z, mems q f.v = z := ⟨_, rfl⟩
  have EM : Hid (mems q f.v = MM) := hMM
  go_wp2_with fail
  refine (rpts_any x1 q f.v X3 K3.out.1.pv).mono ?_
  rintro _ X4 ⟨v4, rfl, ⟨ma, mn, mc, rfl, s4⟩, c4⟩
  rw [show (pts q f.v).getD [] = MM from hMM] at s4
  have hm4 := s4.int
  have K4 : Hid (MmS w X4 x1 q f W1.heap.size ga gk gc G ∧ SlAt eI X4 la ln lc LL ∧ LL.length = ln ∧ SlAt eI X4 ma mn mc MM ∧ MM.length = mn) := ⟨K3.out.1.below c4, K3.out.2.1.below c4, K3.out.2.2, s4, s4.len⟩
  obtain ⟨PB, hPB⟩ : ∃ z, (pts q f.v).isSome = z := ⟨_, rfl⟩
  rw [hPB]
  clear c4 s4 l0 c0 hMM hPB
  obtain ⟨CK, hCK⟩ : ∃ z, chkR q = z := ⟨_, rfl⟩
  have EC : Hid (chkR q = CK) := hCK
  clear hCK
  go_wp2_with fail
  go_loopw [19] (fun v wr => ∃ i : Nat, i ≤ ln ∧ v = .int .i64 i ∧ Below X4.heap.size X4 wr) (fun v _ => ln - (intOf v).toNat)
  case atStart => exact ⟨0, by omega, rfl, Below.refl _ _⟩
  case round =>
    obtain ⟨i, hi, rfl, hB⟩ := hrel
    have hi0 : (0 : Int) ≤ (i : Int) := by omega
    have J : Hid (MmS w wr x1 q f W1.heap.size ga gk gc G ∧ SlAt eI wr la ln lc LL ∧ SlAt eI wr ma mn mc MM ∧ Below X4.heap.size X4 wr) := ⟨K4.out.1.below hB, K4.out.2.1.below hB, K4.out.2.2.2.1.below hB, hB⟩
    clear hB
    by_cases hit : i < ln
    · have hi1 : (i : Int) < (ln : Int) := by omega
      obtain ⟨lb, lo, rfl⟩ := K4.out.2.1.some' (by omega)
      obtain ⟨y, hy⟩ := lt_nth (l := LL) (i := i) (by rw [K4.out.2.2.1]; exact hit)
      have HY : Hid (LL[i]? = some y) := hy
      clear hy
      go_wp2_with fail
      obtain ⟨V, rfl⟩ : ∃ V, V = wr := ⟨_, rfl⟩
      go_loopw [20, 21] (fun u v wx => ∃ k : Nat, k ≤ mn ∧ v = .int .i64 k ∧ u = .int .i64 ((MM.take k).countP (· == y) : Nat) ∧ Below V.heap.size V wx) (fun u v _ => mn - (intOf v).toNat)
      case atStart => exact ⟨0, by omega, rfl, rfl, Below.refl _ _⟩
      case round =>
        obtain ⟨k, hk, rfl, rfl, hB⟩ := hrel
        have hk0 : (0 : Int) ≤ (k : Int) := by omega
        have J2 : Hid (MmS w wr x1 q f W1.heap.size ga gk gc G ∧ SlAt eI wr (some ⟨lb, lo, none⟩) ln lc LL ∧ SlAt eI wr ma mn mc MM ∧ Below V.heap.size V wr) := ⟨J.out.1.below hB, J.out.2.1.below hB, J.out.2.2.1.below hB, hB⟩
        obtain ⟨cn, hcn⟩ : ∃ z, (MM.take k).countP (· == y) = z := ⟨_, rfl⟩
        have HC : Hid ((MM.take k).countP (· == y) = cn) := hcn
        have hcn0 : cn ≤ k := by rw [← hcn]; exact Nat.le_trans (List.countP_le_length ..) (List.length_take_le ..)
        rw [hcn]
        clear hB hcn
        by_cases hkm : k < mn
        · have hk1 : (k : Int) < (mn : Int) := by omega
          obtain ⟨mb, mo, rfl⟩ := K4.out.2.2.2.1.some' (by omega)
          obtain ⟨z, hz⟩ := lt_nth (l := MM) (i := k) (by rw [K4.out.2.2.2.2]; exact hkm)
          have f0 := fun t : Later wr => lI (J2.out.2.2.1.below t.below) hz
          have f1 := fun t : Later wr => lI (J2.out.2.1.below t.below) HY.out
          have HZ : Hid (MM[k]? = some z) := hz
          have hcn1 : (cn : Int) + 1 ≤ 9223372036854775807 := by omega
          have hcn2 : (0 : Int) ≤ (cn : Int) := by omega
          clear hz
          by_cases e0 : z = y
          · have e1 : (z == y) = true := by simp [e0]
            have E : Hid ((MM.take (k + 1)).countP (· == y) = cn + 1) := by rw [cnt_yes HZ.out e0, HC.out]; exact rfl
            clear e0
            go_wp2_with fail
            refine wp_region_later (by kernel_rfl) (by kernel_rfl) ?_
            repeat (go_big_quiet_step (first | exact rfl))
            refine wpQuiet_nil ?_
            intro _ hw'
            obtain ⟨t, rfl⟩ := hw'
            clear f0 f1
            go_wp2
            go_roundw
            case rel => exact ⟨k + 1, by omega, by go_num, by rw [E.out]; go_num, below_later J2.out.2.2.2 t⟩
            case measure => simp [intOf]; omega
          · have e1 : (z == y) = false := by simp [e0]
            have E : Hid ((MM.take (k + 1)).countP (· == y) = cn) := by rw [cnt_no HZ.out e0, HC.out]; exact rfl
            clear e0
            go_wp2_with fail
            refine wp_region_later (by kernel_rfl) (by kernel_rfl) ?_
            repeat (go_big_quiet_step (first | exact rfl))
            refine wpQuiet_nil ?_
            intro _ hw'
            obtain ⟨t, rfl⟩ := hw'
            clear f0 f1
            go_wp2
            go_roundw
            case rel => exact ⟨k + 1, by omega, by go_num, by rw [E.out], below_later J2.out.2.2.2 t⟩
            case measure => simp [intOf]; omega
        · have hkn : k = mn := by omega
          subst hkn
          have hk1 : ¬ (k : Int) < (k : Int) := by omega
          have hin : y ∈ LL := List.mem_of_getElem? HY.out
          have hsub := out_sub q G src f dst has
          rw [EL.out, EM.out] at hsub
          have hpos : 0 < cn := by
            rw [← HC.out, List.take_of_length_le (by rw [K4.out.2.2.2.2]; exact Nat.le_refl _)]
            exact List.countP_pos_iff.2 ⟨y, hsub.1.subset hin, by simp⟩
          have hy3 := hsub.2 y hin
          have hyr := gAt_f hy3.2
          rw [K2.out.2.2] at hyr
          obtain ⟨hy0, hy1⟩ := hyr
          obtain ⟨gt, hgt⟩ := lt_nth (l := G) (i := y.toNat) (by rw [K2.out.2.2]; omega)
          have hgf : gt.f = true := by
            have := hy3.2
            rw [gAt_in (by omega) hgt] at this
            exact this
          obtain ⟨gb, go, rfl⟩ := J2.out.1.gs.some' (by omega)
          have u0 := lI J2.out.2.1 HY.out
          have u1 := lG1 J2.out.1.gs hgt
          rw [hgf] at u1
          have d0 : ((cn : Int) == 0) = false := by simp; omega
          have d1 : (y == src) = false := by simpa using hy3.1
          have d2 : decide (y < 0) = false := by simp; omega
          have d3 : decide (y ≥ (gk : Int)) = false := by simp; omega
          have d3' : decide ((gk : Int) ≤ y) = false := by simp; omega
          clear hsub hpos hy3 hgt hgf hin
          go_wp2_with fail
          obtain ⟨V2, rfl⟩ : ∃ V, V = wr := ⟨_, rfl⟩
          clear u0 u1 d0 d1 d2 d3 d3'
          go_loopw [22] (fun v wx => ∃ k : Nat, k ≤ i ∧ v = .int .i64 k ∧ Below V2.heap.size V2 wx) (fun v _ => i - (intOf v).toNat)
          case atStart => exact ⟨0, by omega, rfl, Below.refl _ _⟩
          case round =>
            obtain ⟨k2, hk2, rfl, hB⟩ := hrel
            have hj0 : (0 : Int) ≤ (k2 : Int) := by omega
            have J3 : Hid (MmS w wr x1 q f W1.heap.size (some ⟨gb, go, none⟩) gk gc G ∧ SlAt eI wr (some ⟨lb, lo, none⟩) ln lc LL ∧ Below X4.heap.size X4 wr ∧ Below V2.heap.size V2 wr) := ⟨J2.out.1.below hB, J2.out.2.1.below hB, below_over J.out.2.2.2 (below_over J2.out.2.2.2 hB), hB⟩
            have N3 : Hid (i < ln ∧ k2 ≤ i) := ⟨hit, hk2⟩
            clear hB
            by_cases hki : k2 < i
            · have hj1 : (k2 : Int) < (i : Int) := by omega
              have l0 := J3.out.1.pr.ld
              cases CK with
              | false =>
                go_wp2_with fail
                refine (ret_i (rchk_any x1 q wr J3.out.1.pv SZ.out) (show erC (chkR q) = 180 by rw [EC.out]; rfl)).mono ?_
                rintro _ Y ⟨rfl, hY⟩
                have B : Hid (Below X4.heap.size X4 Y) := below_over J3.out.2.2.1 hY
                clear hY l0
                go_wp2
                go_roundw
                case rel => exact ⟨i + 1, by have := N3.out; omega, by go_num, B.out⟩
                case measure => have := N3.out; simp [intOf]; omega
              | true =>
                obtain ⟨z, hz⟩ := lt_nth (l := LL) (i := k2) (by rw [K4.out.2.2.1]; omega)
                have hlt : z < y := by
                  have := out_ris EC.out G src f dst has
                  rw [EL.out] at this
                  exact pw_at this hki hz HY.out
                have d0 : decide (z ≥ y) = false := by simp; omega
                have d0' : decide (y ≤ z) = false := by simp; omega
                have HZ : Hid (LL[k2]? = some z) := hz
                clear hz hlt
                go_wp2_with fail
                refine (ret_i (rchk_any x1 q wr J3.out.1.pv SZ.out) (show erC (chkR q) = 0 by rw [EC.out]; rfl)).mono ?_
                rintro _ Y ⟨rfl, hY⟩
                have B : Hid (Below X4.heap.size X4 Y ∧ Below V2.heap.size V2 Y ∧ SlAt eI Y (some ⟨lb, lo, none⟩) ln lc LL) := ⟨below_over J3.out.2.2.1 hY, below_over J3.out.2.2.2 hY, J3.out.2.1.below hY⟩
                clear hY l0
                have hj2 : (k2 : Int) < (ln : Int) := by omega
                have f0 := fun t : Later Y => lI (B.out.2.2.below t.below) HZ.out
                have f1 := fun t : Later Y => lI (B.out.2.2.below t.below) HY.out
                go_wp2_with fail
                refine wp_region_later (by kernel_rfl) (by kernel_rfl) ?_
                repeat (go_big_quiet_step (first | exact rfl))
                refine wpQuiet_nil ?_
                intro _ hw'
                obtain ⟨t, rfl⟩ := hw'
                clear f0 f1
                go_wp2
                go_roundw
                case rel => exact ⟨k2 + 1, by omega, by go_num, below_later B.out.2.1 t⟩
                case measure => simp [intOf]; omega
            · have hkn : k2 = i := by omega
              subst hkn
              have hj1 : ¬ (k2 : Int) < (k2 : Int) := by omega
              go_wp2
              go_roundw
              case rel => exact ⟨k2 + 1, by have := N3.out; omega, by go_num, J3.out.2.2.1⟩
              case measure => have := N3.out; simp [intOf]; omega
    · have hin : i = ln := by omega
      subst hin
      have hi1 : ¬ (i : Int) < (i : Int) := by omega
      have l0 := J.out.1.fr.ld
      obtain ⟨Y1, t1, m1, e1, z1⟩ := FrAt.put wr f H.out.2.1
      obtain ⟨Y2, t2, m2, g2⟩ := m1.stda oM
      have b2 : Below wr.heap.size wr Y2 := gro e1 g2 (Nat.le_refl _) e1.size
      have M2 : Hid (MmS w Y2 x1 q f W1.heap.size ga gk gc G ∧ FrAt Y2 wr.heap.size { f with d := oM } ∧ ({ f with d := oM } : Bf).ok) := ⟨J.out.1.below b2, m2, ⟨(show O6.wf oM from ⟨by decide, by decide⟩), H.out.2.1.s, H.out.2.1.z⟩⟩
      have l1 := M2.out.1.pr.ld
      have l2 := M2.out.2.1.ld
      clear m1 e1 z1 m2 g2 b2
      obtain ⟨AL, hAL⟩ : ∃ z, outL q G src { f with d := oM } dst has = z := ⟨_, rfl⟩
      obtain ⟨AB, hAB⟩ : ∃ z, outB q src { f with d := oM } = z := ⟨_, rfl⟩
      have P4 := out_any x1 q ga gk gc G src { f with d := oM } dst has Y2 M2.out.1.pv SZ.out.2.2.2.2 M2.out.1.gs K2.out.2.1 M2.out.2.2
      rw [hAL, hAB] at P4
      have Q4 : Hid (Calls _ _ _ _ _) := P4
      have EA : Hid (outL q G src { f with d := oM } dst has = AL) := hAL
      clear P4 hAL hAB
      go_wp2_with fail
      refine Q4.out.mono ?_
      rintro _ Y3 ⟨⟨v5, rfl, o5⟩, c5⟩
      obtain ⟨aa, ac, rfl, s5, _⟩ := o5.form
      obtain ⟨an, han⟩ : ∃ z, AL.length = z := ⟨_, rfl⟩
      rw [han] at s5 ⊢
      have ha5 := s5.int
      have M3 : Hid (MmS w Y3 x1 q f W1.heap.size ga gk gc G ∧ FrAt Y3 wr.heap.size { f with d := oM } ∧ SlAt eI Y3 aa an ac AL ∧ AL.length = an) := ⟨M2.out.1.below c5, M2.out.2.1.below c5, s5, han⟩
      clear o5 c5 s5 l0 l1 l2 han Q4 t1 t2
      have l0 := M3.out.1.fr.ld
      obtain ⟨Y4, t4, m4, e4, z4⟩ := FrAt.put Y3 f H.out.2.1
      obtain ⟨Y5, t5, m5, g5⟩ := m4.stda oU
      have b5 : Below Y3.heap.size Y3 Y5 := gro e4 g5 (Nat.le_refl _) e4.size
      have M5 : Hid (MmS w Y5 x1 q f W1.heap.size ga gk gc G ∧ FrAt Y5 wr.heap.size { f with d := oM } ∧ SlAt eI Y5 aa an ac AL ∧ FrAt Y5 Y3.heap.size { f with d := oU } ∧ Below Y3.heap.size Y3 Y5) := ⟨M3.out.1.below b5, M3.out.2.1.below b5, M3.out.2.2.1.below b5, m5, b5⟩
      clear m4 e4 z4 m5 g5 b5
      have l1 := M5.out.2.2.2.1.da
      have l2 := M5.out.1.pr.own'
      have hxo : x1.o = q.o := M5.out.1.pv.o
      obtain ⟨EB, hEB⟩ : ∃ z, eqO oU x1.o = z := ⟨_, rfl⟩
      cases EB with
      | true =>
        have EO : Hid (loO q.o = oV) := by unfold loO; rw [← hxo, hEB]; exact rfl
        clear hxo
        have c5 : Y5.cell? ⟨Y3.heap.size, 5, none⟩ = some (.int .u8 6) := M5.out.2.2.2.1.c5
        obtain ⟨Z, t6, m6, g6⟩ := M5.out.2.2.2.1.st5 7
        have bz : Below Y3.heap.size Y3 Z := gro M5.out.2.2.2.2 g6 (Nat.le_refl _) M5.out.2.2.2.2.size
        have M6 : Hid (MmS w Z x1 q f W1.heap.size ga gk gc G ∧ FrAt Z wr.heap.size { f with d := oM } ∧ SlAt eI Z aa an ac AL ∧ FrAt Z Y3.heap.size { f with d := oV } ∧ Below Y3.heap.size Y3 Z) := ⟨M3.out.1.below bz, M3.out.2.1.below bz, M3.out.2.2.1.below bz, m6, bz⟩
        clear m6 g6 bz
        have okL : Bf.ok { f with d := oV } := ⟨(show O6.wf oV from ⟨by decide, by decide⟩), H.out.2.1.s, H.out.2.1.z⟩
        obtain ⟨LS, hLS⟩ : ∃ z, outL q G src { f with d := oV } dst false = z := ⟨_, rfl⟩
        have P6 := out_any x1 q ga gk gc G src { f with d := oV } dst false Z M6.out.1.pv SZ.out.2.2.2.2 M6.out.1.gs K2.out.2.1 okL
        have hOB : outB q src { f with d := oV } = false := by rw [← EO.out]; exact lost_own q src f
        rw [hLS, hOB] at P6
        have Q6 : Hid (Calls _ _ _ _ _) := P6
        have ES : Hid (eqO q.o oM = false → AL = LS) := fun hne => by rw [← EA.out, ← hLS, ← EO.out]; exact flood_is q G src f dst has hne
        have l3 := M6.out.1.pr.ld
        have l4 := M6.out.2.2.2.1.ld
        clear P6 hLS hOB okL
        go_wp2_with fail
        refine Q6.out.mono ?_
        rintro _ Z1 ⟨⟨v7, rfl, o7⟩, c7⟩
        obtain ⟨sa, sc, rfl, s7, _⟩ := o7.form
        obtain ⟨sn, hsn⟩ : ∃ z, LS.length = z := ⟨_, rfl⟩
        rw [hsn] at s7 ⊢
        have M7 : Hid (MmS w Z1 x1 q f W1.heap.size ga gk gc G ∧ FrAt Z1 wr.heap.size { f with d := oM } ∧ SlAt eI Z1 aa an ac AL ∧ SlAt eI Z1 sa sn sc LS) := ⟨M6.out.1.below c7, M6.out.2.1.below c7, M6.out.2.2.1.below c7, s7⟩
        clear o7 c7 s7 l3 l4 hsn Q6
        have l3 := M7.out.1.pr.own'
        have l4 := M7.out.2.1.da
        obtain ⟨EQ, hEQ⟩ : ∃ z, eqO x1.o oM = z := ⟨_, rfl⟩
        cases EQ with
        | true =>
          go_wp2_with fail
          refine (awake_any Z1).mono ?_
          rintro _ Z2 ⟨rfl, b7⟩
          have B : Hid (Below w.heap.size w Z2) := below_over M7.out.1.bel b7
          clear b7 l3 l4
          go_wp2
          go_ret
          exact ⟨rfl, B.out⟩
        | false =>
          have hal : AL = LS := ES.out (by rw [← M7.out.1.pv.o]; exact hEQ)
          have s9 := M7.out.2.2.2
          rw [← hal] at s9
          have Q9 : Hid (SlAt eI Z1 sa sn sc AL) := s9
          clear hal s9
          go_wp2_with fail
          refine (ret_b (rints_b aa an ac AL sa sn sc AL Z1 M7.out.2.2.1 Q9.out) (eqIs_self _)).mono ?_
          rintro _ Z2 ⟨rfl, b7⟩
          have B1 : Hid (Below w.heap.size w Z2) := below_over M7.out.1.bel b7
          clear b7 l3 l4
          go_wp2_with fail
          refine (awake_any Z2).mono ?_
          rintro _ Z3 ⟨rfl, b8⟩
          have B : Hid (Below w.heap.size w Z3) := below_over B1.out b8
          clear b8
          go_wp2
          go_ret
          exact ⟨rfl, B.out⟩
      | false =>
        have EO : Hid (loO q.o = oU) := by unfold loO; rw [← hxo, hEB]; exact rfl
        clear hxo
        obtain ⟨Z, rfl⟩ : ∃ z, z = Y5 := ⟨_, rfl⟩
        have M6 := M5
        have okL : Bf.ok { f with d := oU } := ⟨(show O6.wf oU from ⟨by decide, by decide⟩), H.out.2.1.s, H.out.2.1.z⟩
        obtain ⟨LS, hLS⟩ : ∃ z, outL q G src { f with d := oU } dst false = z := ⟨_, rfl⟩
        have P6 := out_any x1 q ga gk gc G src { f with d := oU } dst false Z M6.out.1.pv SZ.out.2.2.2.2 M6.out.1.gs K2.out.2.1 okL
        have hOB : outB q src { f with d := oU } = false := by rw [← EO.out]; exact lost_own q src f
        rw [hLS, hOB] at P6
        have Q6 : Hid (Calls _ _ _ _ _) := P6
        have ES : Hid (eqO q.o oM = false → AL = LS) := fun hne => by rw [← EA.out, ← hLS, ← EO.out]; exact flood_is q G src f dst has hne
        have l3 := M6.out.1.pr.ld
        have l4 := M6.out.2.2.2.1.ld
        clear P6 hLS hOB okL
        go_wp2_with fail
        refine Q6.out.mono ?_
        rintro _ Z1 ⟨⟨v7, rfl, o7⟩, c7⟩
        obtain ⟨sa, sc, rfl, s7, _⟩ := o7.form
        obtain ⟨sn, hsn⟩ : ∃ z, LS.length = z := ⟨_, rfl⟩
        rw [hsn] at s7 ⊢
        have M7 : Hid (MmS w Z1 x1 q f W1.heap.size ga gk gc G ∧ FrAt Z1 wr.heap.size { f with d := oM } ∧ SlAt eI Z1 aa an ac AL ∧ SlAt eI Z1 sa sn sc LS) := ⟨M6.out.1.below c7, M6.out.2.1.below c7, M6.out.2.2.1.below c7, s7⟩
        clear o7 c7 s7 l3 l4 hsn Q6
        have l3 := M7.out.1.pr.own'
        have l4 := M7.out.2.1.da
        obtain ⟨EQ, hEQ⟩ : ∃ z, eqO x1.o oM = z := ⟨_, rfl⟩
        cases EQ with
        | true =>
          go_wp2_with fail
          refine (awake_any Z1).mono ?_
          rintro _ Z2 ⟨rfl, b7⟩
          have B : Hid (Below w.heap.size w Z2) := below_over M7.out.1.bel b7
          clear b7 l3 l4
          go_wp2
          go_ret
          exact ⟨rfl, B.out⟩
        | false =>
          have hal : AL = LS := ES.out (by rw [← M7.out.1.pv.o]; exact hEQ)
          have s9 := M7.out.2.2.2
          rw [← hal] at s9
          have Q9 : Hid (SlAt eI Z1 sa sn sc AL) := s9
          clear hal s9
          go_wp2_with fail
          refine (ret_b (rints_b aa an ac AL sa sn sc AL Z1 M7.out.2.2.1 Q9.out) (eqIs_self _)).mono ?_
          rintro _ Z2 ⟨rfl, b7⟩
          have B1 : Hid (Below w.heap.size w Z2) := below_over M7.out.1.bel b7
          clear b7 l3 l4
          go_wp2_with fail
          refine (awake_any Z2).mono ?_
          rintro _ Z3 ⟨rfl, b8⟩
          have B : Hid (Below w.heap.size w Z3) := below_over B1.out b8
          clear b8
          go_wp2
          go_ret
          exact ⟨rfl, B.out⟩
end Go.Proofs.Ytcejfkkhmlebdaa
