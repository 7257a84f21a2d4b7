/-
  The definition's Select: its walk, for every tree.
-/
import Derived.Test.YtnblhmicbhblpaaRWan
import Derived.Test.YtnblhmicbhblpaaRRoot
import Derived.Test.YtnblhmicbhblpaaSlc
import Derived.Test.YtnblhmicbhblpaaPn
namespace Go.Proofs.Ytnblhmicbhblpaa
set_option linter.unusedVariables false
set_option maxRecDepth 4000
set_option linter.unusedSimpArgs false
open Go.RowKit

theorem ku42 : kdP[42]? = some (some .u8) := rfl
theorem bd_des2 (h : Hd) (v : Vc) (p : Pt) (w : World) : (bdS 28 #[(0, .int .u64 (v.nm 0)), (1, .int .u32 (v.nm 1)), (2, .int .u64 (h.nm 0)), (3, .int .u16 (p.nm 0))]).run Try.prog w = .ok (.agg (desV h v p).cs) w := by
  show _ = Result.ok (Value.agg #[.int .u64 (v.nm 0), .int .u32 (v.nm 1), .int .u64 (h.nm 0), .int .u16 (p.nm 0)]) w
  kernel_rfl
/-- The definition's order of the same changes. -/
theorem tel_ref (h : Hd) (v : Vc) (p : Pt) (hv : rOf h = v) : ((((p.setB 21 kb21 false).put 32 (desV h v p) kq32 kl32).put 40 (uOf h) kq40 kl40).setU 42 (h.nm 3)) = (telP h p).setB 21 kb21 false := by
  subst hv
  have hw := wf8 (h.u8 (j := 3) rfl)
  refine Row.same fun i _ => ?_
  rw [Row.setU_get _ ku42 hw, Row.put_get, Row.put_get, Row.setB_get, Row.setB_get, telP_get, lenV, lenT, ← desT_is, Row.setU_get _ kt2 hw]
  by_cases h1 : i = 42
  · subst h1; rfl
  · rw [if_neg h1]
    by_cases h2 : 40 ≤ i ∧ i < 44
    · rw [if_pos (by omega), if_neg (by omega), if_pos h2, if_neg (by omega)]
    · rw [if_neg (by omega), if_neg h2]
      by_cases h3 : 32 ≤ i ∧ i < 36
      · rw [if_pos (by omega), if_neg (by omega), if_pos h3]
      · rw [if_neg (by omega), if_neg h3]
theorem sel_ref (h : Hd) (r : Bool) (p : Pt) : (wanP h r ((telP h p).setB 21 kb21 false)).setB 22 kb22 true = selP h r p := by
  have st : ∀ j, j ≠ 21 → ((telP h p).setB 21 kb21 false).cl[j]? = (telP h p).cl[j]? := fun j hj => by rw [Row.setB_get, if_neg hj]
  have e29 : ((telP h p).setB 21 kb21 false).nm 29 = (telP h p).nm 29 := nm_of (st 29 (by omega))
  have e28 : ((telP h p).setB 21 kb21 false).bt 28 = (telP h p).bt 28 := bt_of (st 28 (by omega))
  have eo : outB ((telP h p).setB 21 kb21 false) = outB (telP h p) := outB_of fun j _ _ => st j (by omega)
  have eh : heaN h r ((telP h p).setB 21 kb21 false) = heaN h r (telP h p) := heaN_of fun j _ _ => st j (by omega)
  have ew : wanN h r ((telP h p).setB 21 kb21 false) = wanN h r (telP h p) := by unfold wanN; rw [e29, eh]
  have eu : updB h r ((telP h p).setB 21 kb21 false) = updB h r (telP h p) := by unfold updB; rw [e29, e28, eo, eh]
  unfold selP
  refine Row.same fun i _ => ?_
  unfold wanP
  rw [Row.setB_get, Row.setN_get, Row.setB_get, Row.setB_get, asgP_get, ew, eu]
  by_cases h1 : i = 22
  · subst h1; rfl
  · rw [if_neg h1]
    by_cases h2 : i = 28
    · subst h2; rfl
    · by_cases h3 : i = 31
      · subst h3; rfl
      · simp only [if_neg h1, if_neg h2, if_neg h3]
attribute [local go_sem ↓] ldP stP ldT stT ldV stV ldTm stTm st16 st32 stB stU bdV bs32 apE alP
attribute [local go_sem] alP_run
set_option maxHeartbeats 8000000 in
theorem rselect_any (h : Hd) (a : Option Addr) (n c : Nat) (l : List Pt) (w : World) (hs : SlAt w a n c l) (hn : n ≤ 1000) :
    Calls Try.prog 15 #[.agg (trc h (.slice a n c))] w fun r w' => ∃ a' c', r = .returned (.agg (trc (hdS h l) (.slice a' n c'))) ∧ SlAt w' a' n c' (selL h l) ∧ Below w.heap.size w w' := by
  obtain ⟨W, hW, r0, r1, bW, zW⟩ := two_t w h (.slice a n c)
  have l0 := r0.tld
  have H : Hid (QA w W h a n c l ∧ W.heap.size = w.heap.size + 2 ∧ l.length = n) := ⟨⟨⟨r0, r1, bW⟩, hs.below bW⟩, zW, hs.len⟩
  have HS : Hid (SlAt w a n c l) := hs
  clear hs r0 r1 bW zW
  have E1 : Hid (rooK h l = -1 → hdA h (rooV h l) = hdS h l) := hdA_own
  have E2 : Hid (∀ k : Nat, rooK h l = (k : Int) → ((hdA h (rooV h l)).setH 7 ((gtP l k).nm 0)).put 12 (oldT (priT (gtP l k))) hq12 hl12 = hdS h l) := fun k => hdA_port
  have E3 : Hid (selL h l = l.mapIdx fun i p => selP (hdS h l) (isK (rooK h l) i) p) := by unfold selL; exact rfl
  have E4 : Hid (rOf (hdS h l) = rooV h l) := hdS_root h l
  have KR : Hid (-1 ≤ rooK h l ∧ rooK h l < n) := by have := rtF_range h l l.length; rw [← H.out.2.2]; exact this
  have C : Hid _ := rroot_any h a n c l W H.out.1.sl hn
  obtain ⟨K, hK⟩ : ∃ z, rooK h l = z := ⟨_, rfl⟩
  obtain ⟨v, hv⟩ : ∃ z, rooV h l = z := ⟨_, rfl⟩
  obtain ⟨hS, hhS⟩ : ∃ z, hdS h l = z := ⟨_, rfl⟩
  obtain ⟨lS, hlS⟩ : ∃ z, selL h l = z := ⟨_, rfl⟩
  rw [hK, hv, hhS] at E1 E2
  rw [hK, hhS, hlS] at E3
  rw [hhS, hv] at E4
  rw [hK] at KR
  rw [hK, hv] at C
  rw [hhS, hlS]
  clear hK hv hhS hlS
  go_enter Try.func15, Try.ntmps15
  go_wp2_with fail
  refine Calls.mono C.out ?_
  rintro _ W1 ⟨rfl, b1⟩
  obtain ⟨W2, s2, r2, b2, z2⟩ := new_v W1 v
  have lv := r2.vld
  have Q2 := (H.out.1.below b1).below b2
  obtain ⟨V1, e1, Q3, g3⟩ := Q2.put (tv := 28) v hq8 hl8 infoV
  obtain ⟨V2, e2, Q4, g4⟩ := Q3.setH w16
  have tT := Q4.q.var.tT
  rw [show tOfH ((h.put 8 v hq8 hl8).setH 7 0) = tOfH h from Row.ext' (sub_is (ks' := kdT) (o := 1) (by decide) (fun j hj => by
    rw [lenT] at hj
    rw [Row.setH_get _ kh7 w16, if_neg (by omega), Row.put_get, if_neg (by omega)]
    show h.cl[1 + j]? = ((h.cl.drop 1).take 4)[j]?
    rw [List.getElem?_take, if_pos hj, List.getElem?_drop]))] at tT
  obtain ⟨V3, e3, Q5, g5⟩ := Q4.put (tv := 24) (tOfH h) hq12 hl12 infoTm
  change QA w V3 (hdA h v) a n c l at Q5
  obtain ⟨e, he⟩ : ∃ e, W1.heap.size = e := ⟨_, rfl⟩
  have hew : w.heap.size + 2 ≤ e := by have := b1.size; have := H.out.2.1; omega
  have rv : RvAt V3 e 28 v.cs := by
    rw [← he]
    exact ((r2.keptBut g3 (by simp; omega)).keptBut g4 (by simp; omega)).keptBut g5 (by simp; omega)
  rw [he] at s2 lv
  have Q : Hid (QA w V3 (hdA h v) a n c l ∧ RvAt V3 e 28 v.cs ∧ w.heap.size + 2 ≤ e ∧ l.length = n) := ⟨Q5, rv, hew, H.out.2.2⟩
  clear r2 b2 z2 b1 Q2 Q3 g3 Q4 g4 Q5 g5 H C l0 hW hew rv
  by_cases hk : K = -1
  · have EH := E1.out hk
    rw [EH] at Q
    subst hk
    clear EH
    have hkb : ¬ (0 : Int) ≤ -1 := by omega
    go_wp2_with fail
    clear lv tT e1 e2 e3 s2
    obtain ⟨f, hf⟩ : ∃ f : Nat → Pt → Pt, (fun i p => selP hS (isK (-1) i) p) = f := ⟨_, rfl⟩
    have HF : Hid (∀ i p, selP hS (isK (-1) i) p = f i p) := by rw [← hf]; exact fun i p => rfl
    rw [hf] at E3
    clear hf
    obtain ⟨B, hB⟩ : ∃ B, e + 1 = B := ⟨_, rfl⟩
    have BB : Hid (e + 1 = B ∧ B ≤ V3.heap.size) := ⟨hB, by rw [← hB]; exact Q.out.2.1.lt⟩
    clear hB
    go_loopw [5, 6] (fun v5 v6 wr => ∃ i : Nat, i ≤ n ∧ v6 = .int .i64 i ∧ Own wr B v5 ((l.take i).mapIdx f) ∧ QS w wr hS (.slice a n c) ∧ RvAt wr e 28 v.cs ∧ B ≤ wr.heap.size) (fun _ v6 _ => n - (intOf v6).toNat)
    case atStart => exact ⟨0, by omega, rfl, Own.nil _ _, Q.out.1.q, Q.out.2.1, BB.out.2⟩
    case round =>
      obtain ⟨i, hi, rfl, hO, hQ, hV, hBw⟩ := hrel
      have hin0 : (0 : Int) ≤ (i : Int) := by omega
      have d16 := hQ.var.t16
      by_cases hit : i < n
      · have hin1 : (i : Int) < (n : Int) := by omega
        have hil : i < l.length := by rw [Q.out.2.2.2]; exact hit
        obtain ⟨bs, os, eo⟩ := (HS.out.below hQ.bel).some' (by omega)
        have hat := gtP_at hil
        have lp : (ldS 47 (.pointer (some ⟨bs, os + i * 77, none⟩))).run Try.prog wr = .ok (.agg (gtP l i).cs) wr := by
          have h5 := HS.out.below hQ.bel
          rw [eo] at h5
          exact h5.ld hat
        rw [eo] at d16 hQ
        have hnx := idx_next (f := f) hil
        rw [← HF.out] at hnx
        obtain ⟨p, hp⟩ : ∃ p, gtP l i = p := ⟨_, rfl⟩
        rw [hp] at lp hnx
        obtain ⟨Y0, y0, N0⟩ := PN.new wr p
        obtain ⟨pb, hpb⟩ : ∃ z, wr.heap.size = z := ⟨_, rfl⟩
        rw [hpb] at y0 N0
        obtain ⟨Y1, y1, N1⟩ := N0.setB kb21 false
        have k0 := (hV.below N1.bel).num (j := 0) (k := .u64) rfl
        have k1 := (hV.below N1.bel).num (j := 1) (k := .u32) rfl
        have k2 := (hQ.below N1.bel).var.tnum (j := 0) (k := .u64) rfl
        have k3 := N1.var.num (j := 0) (k := .u16) rfl
        rw [setB_nm _ _ _ (by omega)] at k3
        have bb := bd_des2 hS v p
        obtain ⟨Y2, y2, N2⟩ := N1.put (tv := 28) (desV hS v p) kq32 kl32 infoV
        have kU := (hQ.below N2.bel).var.tU
        obtain ⟨Y3, y3, N3⟩ := N2.put (tv := 24) (uOf hS) kq40 kl40 infoTm
        have k4 := (hQ.below N3.bel).var.tnum (j := 3) (k := .u8) rfl
        obtain ⟨Y4, y4, N4⟩ := N3.setU ku42 (hS.u8 (j := 3) rfl)
        rw [tel_ref hS v p E4.out] at N4
        have lt := (hQ.below N4.bel).var.tld
        have lq := N4.var.pld
        have G : Hid (PN wr Y4 pb ((telP hS p).setB 21 kb21 false) ∧ QS w wr hS (.slice (some ⟨bs, os, none⟩) n c) ∧ RvAt wr e 28 v.cs ∧ B ≤ wr.heap.size ∧ Own wr B u5 ((l.take i).mapIdx f) ∧ (l.take (i + 1)).mapIdx f = (l.take i).mapIdx f ++ [selP hS (isK (-1) i) p] ∧ a = some ⟨bs, os, none⟩ ∧ i ≤ 1000) := ⟨N4, hQ, hV, hBw, hO, hnx, eo, by omega⟩
        clear N0 N1 N2 N3 N4 hO hQ hV hBw hnx hat hp eo
        by_cases hr : (i : Int) = (-1)
        · exact absurd hr (by omega)
        · have hrb : ((i : Int) == (-1)) = false := beq_eq_false_iff_ne.2 hr
          rw [show isK (-1) i = false by simp [isK, hr]] at G
          go_wp2_with fail
          refine (rwanted_any hS _ _ _ Y4).mono ?_
          rintro _ Y5 ⟨rfl, b5⟩
          obtain ⟨Y6, y6, N6⟩ := (G.out.1.below b5).st (wanP hS false ((telP hS p).setB 21 kb21 false))
          obtain ⟨Y7, y7, N7⟩ := N6.setB kb22 true
          rw [sel_ref] at N7
          have l7 := N7.var.pld
          obtain ⟨s, hs⟩ : ∃ s, selP hS false p = s := ⟨_, rfl⟩
          rw [hs] at N7 l7
          have hB7 : B ≤ Y7.heap.size := Nat.le_trans G.out.2.2.2.1 N7.bel.size
          obtain ⟨v', Y8, ap, o8, b8⟩ := (G.out.2.2.2.2.1.below N7.bel).next hB7 (by simp; have := G.out.2.2.2.2.2.2.2; omega) s
          have bs7 := bsP_is s Y7
          have S8 := G.out.2.1.below N7.bel
          have Z : Hid (Own Y8 B v' ((l.take (i + 1)).mapIdx f) ∧ QS w Y8 hS (.slice a n c) ∧ RvAt Y8 e 28 v.cs ∧ B ≤ Y8.heap.size) := by
            have he := BB.out.1
            have hwe := Q.out.2.2.1
            refine ⟨by rw [G.out.2.2.2.2.2.1, hs]; exact o8, ?_, (G.out.2.2.1.below N7.bel).belowB b8 (by omega), Nat.le_trans hB7 b8.size⟩
            rw [G.out.2.2.2.2.2.2.1]
            exact ⟨S8.var.belowB b8 (by omega), S8.out.belowB b8 (by omega), S8.bel.trans (b8.mono (by omega))⟩
          clear N6 N7 o8 b8 S8 G b5 hB7 k0 k1 k2 k3 k4 kU bb lt lq y0 y1 y2 y3 y4 lp hs
          go_wp2
          go_roundw
          case rel => exact ⟨i + 1, by omega, by go_num, Z.out.1, Z.out.2.1, Z.out.2.2.1, Z.out.2.2.2⟩
          case measure => simp [intOf]; omega
      · have hin : i = n := by omega
        subst hin
        have hin1 : ¬ (i : Int) < (i : Int) := by omega
        rw [List.take_of_length_le (by rw [Q.out.2.2.2]; omega), ← E3.out] at hO
        have hlS : lS.length = i := by rw [E3.out, List.length_mapIdx, Q.out.2.2.2]
        obtain ⟨a', c', hx, pa, hga⟩ := PA.of hO
        rw [hlS] at hx pa
        subst hx
        obtain ⟨X2, t2, rX2, gX2⟩ := hQ.var.tset (y := .slice a' i c') rfl
        have S2 := hQ.go rX2 gX2
        have sl2 := pa.sl.keptT hQ.var gX2
        have lX := S2.var.tld
        obtain ⟨U, sU, rU, gU⟩ := S2.out.tst (g := hS) (y := .slice a' i c') rfl
        have F : Hid (RvAt U (w.heap.size + 1) 31 (trc hS (.slice a' i c')) ∧ SlAt U a' i c' lS ∧ Below w.heap.size w U) := ⟨rU, sl2.keptT S2.out gU, gro S2.bel gU (by omega) S2.bel.size⟩
        clear hO hQ hV hBw pa hga rX2 gX2 S2 sl2 rU gU hlS
        go_wp2
        refine bodyPost_ret (results_row rtT Try.results15 _ _ _ _ rfl F.out.1 (trc_size _ _)) rfl ?_
        exact ⟨a', c', rfl, F.out.2.1, F.out.2.2⟩
  · have hk0 : 0 ≤ K := by have := KR.out; omega
    obtain ⟨k, rfl⟩ := Int.eq_ofNat_of_zero_le hk0
    have hkn : k < n := by have := KR.out; omega
    have hk1 : (k : Int) < (n : Int) := by omega
    have EH : Hid _ := E2.out k rfl
    obtain ⟨b, o, rfl⟩ := Q.out.1.sl.some' (by omega)
    have hlk := gtP_at (l := l) (i := k) (by rw [Q.out.2.2.2]; exact hkn)
    obtain ⟨p, hp⟩ : ∃ p, gtP l k = p := ⟨_, rfl⟩
    rw [hp] at hlk EH
    have f16 := Q.out.1.q.var.t16
    have f0 := Q.out.1.sl.cell hlk (p.num (j := 0) (k := .u16) rfl) (by omega)
    simp only [Nat.add_zero] at f0
    obtain ⟨V4, e4, R4, g4⟩ := Q.out.1.setH (m := p.nm 0) (p.nwf (j := 0) rfl)
    have h16 := R4.q.var.t16
    have f44 := R4.sl.part (q := priT p) (j := 44) hlk rfl rfl (by omega) Try.underlying24 rfl infoTm
    have P1 : Hid (QA w V4 ((hdA h v).setH 7 (p.nm 0)) (some ⟨b, o, none⟩) n c l ∧ RvAt V4 e 28 v.cs ∧ w.heap.size + 2 ≤ e ∧ l.length = n) := ⟨R4, Q.out.2.1.keptBut g4 (by have := Q.out.2.2.1; simp; omega), Q.out.2.2.1, Q.out.2.2.2⟩
    clear hp hlk R4 g4 Q
    go_wp2_with fail
    refine (rolder_any (priT p) V4).mono ?_
    rintro _ V5 ⟨rfl, b5⟩
    clear lv tT e1 e2 e3 s2
    have R0 := P1.out.1.below b5
    obtain ⟨V6, e6, R6, g6⟩ := R0.put (tv := 24) (oldT (priT p)) hq12 hl12 infoTm
    rw [EH.out] at R6
    have Q : Hid (QA w V6 hS (some ⟨b, o, none⟩) n c l ∧ RvAt V6 e 28 v.cs ∧ w.heap.size + 2 ≤ e ∧ l.length = n) := ⟨R6, (P1.out.2.1.below b5).keptBut g6 (by have := P1.out.2.2.1; simp; omega), P1.out.2.2.1, P1.out.2.2.2⟩
    clear R0 R6 g6 P1 EH b5 f16 f0 h16 f44
    go_wp2_with fail
    obtain ⟨f, hf⟩ : ∃ f : Nat → Pt → Pt, (fun i p => selP hS (isK (k : Int) i) p) = f := ⟨_, rfl⟩
    have HF : Hid (∀ i p, selP hS (isK (k : Int) i) p = f i p) := by rw [← hf]; exact fun i p => rfl
    rw [hf] at E3
    clear hf
    obtain ⟨B, hB⟩ : ∃ B, e + 1 = B := ⟨_, rfl⟩
    have BB : Hid (e + 1 = B ∧ B ≤ V6.heap.size) := ⟨hB, by rw [← hB]; exact Q.out.2.1.lt⟩
    clear hB
    go_loopw [5, 6] (fun v5 v6 wr => ∃ i : Nat, i ≤ n ∧ v6 = .int .i64 i ∧ Own wr B v5 ((l.take i).mapIdx f) ∧ QS w wr hS (.slice (some ⟨b, o, none⟩ : Option Addr) n c) ∧ RvAt wr e 28 v.cs ∧ B ≤ wr.heap.size) (fun _ v6 _ => n - (intOf v6).toNat)
    case atStart => exact ⟨0, by omega, rfl, Own.nil _ _, Q.out.1.q, Q.out.2.1, BB.out.2⟩
    case round =>
      obtain ⟨i, hi, rfl, hO, hQ, hV, hBw⟩ := hrel
      have hin0 : (0 : Int) ≤ (i : Int) := by omega
      have d16 := hQ.var.t16
      by_cases hit : i < n
      · have hin1 : (i : Int) < (n : Int) := by omega
        have hil : i < l.length := by rw [Q.out.2.2.2]; exact hit
        obtain ⟨bs, os, eo⟩ := (HS.out.below hQ.bel).some' (by omega)
        have hat := gtP_at hil
        have lp : (ldS 47 (.pointer (some ⟨bs, os + i * 77, none⟩))).run Try.prog wr = .ok (.agg (gtP l i).cs) wr := by
          have h5 := HS.out.below hQ.bel
          rw [eo] at h5
          exact h5.ld hat
        rw [eo] at d16 hQ
        have hnx := idx_next (f := f) hil
        rw [← HF.out] at hnx
        obtain ⟨p, hp⟩ : ∃ p, gtP l i = p := ⟨_, rfl⟩
        rw [hp] at lp hnx
        obtain ⟨Y0, y0, N0⟩ := PN.new wr p
        obtain ⟨pb, hpb⟩ : ∃ z, wr.heap.size = z := ⟨_, rfl⟩
        rw [hpb] at y0 N0
        obtain ⟨Y1, y1, N1⟩ := N0.setB kb21 false
        have k0 := (hV.below N1.bel).num (j := 0) (k := .u64) rfl
        have k1 := (hV.below N1.bel).num (j := 1) (k := .u32) rfl
        have k2 := (hQ.below N1.bel).var.tnum (j := 0) (k := .u64) rfl
        have k3 := N1.var.num (j := 0) (k := .u16) rfl
        rw [setB_nm _ _ _ (by omega)] at k3
        have bb := bd_des2 hS v p
        obtain ⟨Y2, y2, N2⟩ := N1.put (tv := 28) (desV hS v p) kq32 kl32 infoV
        have kU := (hQ.below N2.bel).var.tU
        obtain ⟨Y3, y3, N3⟩ := N2.put (tv := 24) (uOf hS) kq40 kl40 infoTm
        have k4 := (hQ.below N3.bel).var.tnum (j := 3) (k := .u8) rfl
        obtain ⟨Y4, y4, N4⟩ := N3.setU ku42 (hS.u8 (j := 3) rfl)
        rw [tel_ref hS v p E4.out] at N4
        have lt := (hQ.below N4.bel).var.tld
        have lq := N4.var.pld
        have G : Hid (PN wr Y4 pb ((telP hS p).setB 21 kb21 false) ∧ QS w wr hS (.slice (some ⟨bs, os, none⟩) n c) ∧ RvAt wr e 28 v.cs ∧ B ≤ wr.heap.size ∧ Own wr B u5 ((l.take i).mapIdx f) ∧ (l.take (i + 1)).mapIdx f = (l.take i).mapIdx f ++ [selP hS (isK (k : Int) i) p] ∧ (some ⟨b, o, none⟩ : Option Addr) = some ⟨bs, os, none⟩ ∧ i ≤ 1000) := ⟨N4, hQ, hV, hBw, hO, hnx, eo, by omega⟩
        clear N0 N1 N2 N3 N4 hO hQ hV hBw hnx hat hp eo
        by_cases hr : (i : Int) = (k : Int)
        · have hik : i = k := by omega
          subst hik
          rw [show isK (i : Int) i = true by simp [isK]] at G
          clear hr
          go_wp2_with fail
          refine (rwanted_any hS _ _ _ Y4).mono ?_
          rintro _ Y5 ⟨rfl, b5⟩
          obtain ⟨Y6, y6, N6⟩ := (G.out.1.below b5).st (wanP hS true ((telP hS p).setB 21 kb21 false))
          obtain ⟨Y7, y7, N7⟩ := N6.setB kb22 true
          rw [sel_ref] at N7
          have l7 := N7.var.pld
          obtain ⟨s, hs⟩ : ∃ s, selP hS true p = s := ⟨_, rfl⟩
          rw [hs] at N7 l7
          have hB7 : B ≤ Y7.heap.size := Nat.le_trans G.out.2.2.2.1 N7.bel.size
          obtain ⟨v', Y8, ap, o8, b8⟩ := (G.out.2.2.2.2.1.below N7.bel).next hB7 (by simp; have := G.out.2.2.2.2.2.2.2; omega) s
          have bs7 := bsP_is s Y7
          have S8 := G.out.2.1.below N7.bel
          have Z : Hid (Own Y8 B v' ((l.take (i + 1)).mapIdx f) ∧ QS w Y8 hS (.slice (some ⟨b, o, none⟩ : Option Addr) n c) ∧ RvAt Y8 e 28 v.cs ∧ B ≤ Y8.heap.size) := by
            have he := BB.out.1
            have hwe := Q.out.2.2.1
            refine ⟨by rw [G.out.2.2.2.2.2.1, hs]; exact o8, ?_, (G.out.2.2.1.below N7.bel).belowB b8 (by omega), Nat.le_trans hB7 b8.size⟩
            rw [G.out.2.2.2.2.2.2.1]
            exact ⟨S8.var.belowB b8 (by omega), S8.out.belowB b8 (by omega), S8.bel.trans (b8.mono (by omega))⟩
          clear N6 N7 o8 b8 S8 G b5 hB7 k0 k1 k2 k3 k4 kU bb lt lq y0 y1 y2 y3 y4 lp hs
          go_wp2
          go_roundw
          case rel => exact ⟨i + 1, by omega, by go_num, Z.out.1, Z.out.2.1, Z.out.2.2.1, Z.out.2.2.2⟩
          case measure => simp [intOf]; omega
        · have hrb : ((i : Int) == (k : Int)) = false := beq_eq_false_iff_ne.2 hr
          rw [show isK (k : Int) i = false by simp [isK, hr]] at G
          go_wp2_with fail
          refine (rwanted_any hS _ _ _ Y4).mono ?_
          rintro _ Y5 ⟨rfl, b5⟩
          obtain ⟨Y6, y6, N6⟩ := (G.out.1.below b5).st (wanP hS false ((telP hS p).setB 21 kb21 false))
          obtain ⟨Y7, y7, N7⟩ := N6.setB kb22 true
          rw [sel_ref] at N7
          have l7 := N7.var.pld
          obtain ⟨s, hs⟩ : ∃ s, selP hS false p = s := ⟨_, rfl⟩
          rw [hs] at N7 l7
          have hB7 : B ≤ Y7.heap.size := Nat.le_trans G.out.2.2.2.1 N7.bel.size
          obtain ⟨v', Y8, ap, o8, b8⟩ := (G.out.2.2.2.2.1.below N7.bel).next hB7 (by simp; have := G.out.2.2.2.2.2.2.2; omega) s
          have bs7 := bsP_is s Y7
          have S8 := G.out.2.1.below N7.bel
          have Z : Hid (Own Y8 B v' ((l.take (i + 1)).mapIdx f) ∧ QS w Y8 hS (.slice (some ⟨b, o, none⟩ : Option Addr) n c) ∧ RvAt Y8 e 28 v.cs ∧ B ≤ Y8.heap.size) := by
            have he := BB.out.1
            have hwe := Q.out.2.2.1
            refine ⟨by rw [G.out.2.2.2.2.2.1, hs]; exact o8, ?_, (G.out.2.2.1.below N7.bel).belowB b8 (by omega), Nat.le_trans hB7 b8.size⟩
            rw [G.out.2.2.2.2.2.2.1]
            exact ⟨S8.var.belowB b8 (by omega), S8.out.belowB b8 (by omega), S8.bel.trans (b8.mono (by omega))⟩
          clear N6 N7 o8 b8 S8 G b5 hB7 k0 k1 k2 k3 k4 kU bb lt lq y0 y1 y2 y3 y4 lp hs
          go_wp2
          go_roundw
          case rel => exact ⟨i + 1, by omega, by go_num, Z.out.1, Z.out.2.1, Z.out.2.2.1, Z.out.2.2.2⟩
          case measure => simp [intOf]; omega
      · have hin : i = n := by omega
        subst hin
        have hin1 : ¬ (i : Int) < (i : Int) := by omega
        rw [List.take_of_length_le (by rw [Q.out.2.2.2]; omega), ← E3.out] at hO
        have hlS : lS.length = i := by rw [E3.out, List.length_mapIdx, Q.out.2.2.2]
        obtain ⟨a', c', hx, pa, hga⟩ := PA.of hO
        rw [hlS] at hx pa
        subst hx
        obtain ⟨X2, t2, rX2, gX2⟩ := hQ.var.tset (y := .slice a' i c') rfl
        have S2 := hQ.go rX2 gX2
        have sl2 := pa.sl.keptT hQ.var gX2
        have lX := S2.var.tld
        obtain ⟨U, sU, rU, gU⟩ := S2.out.tst (g := hS) (y := .slice a' i c') rfl
        have F : Hid (RvAt U (w.heap.size + 1) 31 (trc hS (.slice a' i c')) ∧ SlAt U a' i c' lS ∧ Below w.heap.size w U) := ⟨rU, sl2.keptT S2.out gU, gro S2.bel gU (by omega) S2.bel.size⟩
        clear hO hQ hV hBw pa hga rX2 gX2 S2 sl2 rU gU hlS
        go_wp2
        refine bodyPost_ret (results_row rtT Try.results15 _ _ _ _ rfl F.out.1 (trc_size _ _)) rfl ?_
        exact ⟨a', c', rfl, F.out.2.1, F.out.2.2⟩
end Go.Proofs.Ytnblhmicbhblpaa
