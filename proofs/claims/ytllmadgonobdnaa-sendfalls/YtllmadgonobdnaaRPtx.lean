/-
  The definition: a step of a port's transmission: the walk of Ptx, for every tree.
-/
import Derived.Test.YtllmadgonobdnaaOutA
import Derived.Test.YtllmadgonobdnaaRMes
namespace Go.Proofs.Ytllmadgonobdnaa
set_option linter.unusedVariables false
set_option maxRecDepth 4000
set_option linter.unusedSimpArgs false
open Go.RowKit

attribute [local go_sem ↓] ldP stP stB stU stW ldT stT st32 alP alM ldM stM bdOs bsOs
attribute [local go_sem] alP_run alM_run
theorem TP.setN {w W : World} {t d z g o n c j : Nat} {h : Hd} {l : List Pt} {p : Pt} (s : TP w W t d z h g o n c l p) (hk : kdP[j]? = some (some .i64)) {x : Int} (hx : (Lit.int .i64 x).wf = true) : ∃ V, (stS 51 (.pointer (some ⟨z, j, none⟩)) (.int .i64 x)).run Try.prog W = .ok () V ∧ TP w V t d z h g o n c l (p.setN j hk x hx) := by
  obtain ⟨V, e, h1, g⟩ := s.pv.rset (v := .int .i64 x) infoS (List.getElem?_eq_some_iff.1 hk).1 rfl (fit_num hk hx)
  exact ⟨V, e, s.go h1 g⟩
theorem beg_ref (p : Pt) : (((p.setB 11 kb11 true).setU 64 0).setN 75 kn75 1 wi1).setU 66 (waiN p) = waiP (begP p) := by
  unfold waiP
  rw [show waiN (begP p) = waiN p from wai_of (by unfold begP; rw [setN_nm _ _ _ (by decide), Row.setU_nm _ (by decide), setB_nm _ _ _ (by decide)])]
  rfl
theorem rem_ref (p : Pt) : (p.setB 11 kb11 (remB p)).setU 66 (waiN p) = waiP (remP p) := by
  unfold waiP
  rw [show waiN (remP p) = waiN p from wai_of (by unfold remP; rw [setB_nm _ _ _ (by decide)])]
  rfl
theorem snt_ref (p : Pt) (h : p.nm 64 < 255) : (((p.setB 11 kb11 false).setU 66 (waiN p)).setU 64 (p.nm 64 + 1)).setB 26 kb26 (ackB p) = waiP (sntP p) := by
  have hw := wf8 (wai_in p)
  have hu := p.u8 (j := 64) rfl
  have hv : (Lit.int .u8 (p.nm 64 + 1)).wf = true := wf8 ⟨by omega, by omega⟩
  unfold waiP
  rw [show waiN (sntP p) = waiN p from wai_of (by unfold sntP; rw [setB_nm _ _ _ (by decide), Row.setU_nm _ (by decide), setB_nm _ _ _ (by decide)])]
  refine Row.same fun j hj => ?_
  unfold sntP
  rw [Row.setB_get, Row.setU_get _ ku64 hv, Row.setU_get _ ku66 hw, Row.setB_get, Row.setU_get _ ku66 hw, Row.setB_get, Row.setU_get _ ku64 hv, Row.setB_get]
  by_cases h26 : j = 26
  · subst h26; simp
  · by_cases h64 : j = 64
    · subst h64; simp
    · by_cases h66 : j = 66
      · subst h66; simp
      · simp [h26, h64, h66]
/-- The tree's variable and the result's, the ports, a port's variable and a message's. -/
structure PY (w W : World) (Z : Nat) (h : Hd) (g o n c : Nat) (l : List Pt) (q : Pt) (m : Mg) (mb : Nat) : Prop where
  tp : TP w W w.heap.size (w.heap.size + 1) Z h g o n c l q
  mv : RvAt W mb 43 m.cs
theorem PY.below {w W V : World} {h : Hd} {Z g o n c mb : Nat} {l : List Pt} {q : Pt} {m : Mg} (s : PY w W Z h g o n c l q m mb) (k : Below W.heap.size W V) : PY w V Z h g o n c l q m mb := ⟨s.tp.below k, s.mv.below k⟩
theorem PY.go {w W V : World} {h : Hd} {Z g o n c mb : Nat} {l : List Pt} {q r : Pt} {m : Mg} (s : PY w W Z h g o n c l q m mb) (t : RvAt V Z 53 r.cs) (k : W.grownBy V (some Z)) : PY w V Z h g o n c l r m mb :=
  ⟨s.tp.go t k, s.mv.keptBut k (by have := s.mv.apart s.tp.pv (by decide); simpa using this)⟩
theorem PY.setB {w W : World} {h : Hd} {Z g o n c mb j : Nat} {l : List Pt} {q : Pt} {m : Mg} (s : PY w W Z h g o n c l q m mb) (hk : kdP[j]? = some none) (x : Bool) : ∃ V, (stS 4 (.pointer (some ⟨Z, j, none⟩)) (.bool x)).run Try.prog W = .ok () V ∧ PY w V Z h g o n c l (q.setB j hk x) m mb := by
  obtain ⟨V, e, h1, g⟩ := s.tp.pv.setB hk x
  exact ⟨V, e, s.go h1 g⟩
theorem PY.setU {w W : World} {h : Hd} {Z g o n c mb j : Nat} {l : List Pt} {q : Pt} {m : Mg} (s : PY w W Z h g o n c l q m mb) (hk : kdP[j]? = some (some .u8)) {x : Int} (hx : 0 ≤ x ∧ x ≤ 255) : ∃ V, (stS 5 (.pointer (some ⟨Z, j, none⟩)) (.int .u8 x)).run Try.prog W = .ok () V ∧ PY w V Z h g o n c l (q.setU j x) m mb := by
  obtain ⟨V, e, h1, g⟩ := s.tp.pv.setU hk hx
  exact ⟨V, e, s.go h1 g⟩
/-- What a region that draws holds on to. -/
abbrev HY (w W : World) (Z : Nat) (h : Hd) (g o n c : Nat) (q : Pt) (m : Mg) (mb : Nat) : Prop := RvAt W w.heap.size 31 (trc h (.slice (some ⟨g, o, none⟩) n c)) ∧ RvAt W Z 53 q.cs ∧ RvAt W mb 43 m.cs
theorem PY.held {w W : World} {h : Hd} {Z g o n c mb : Nat} {l : List Pt} {q : Pt} {m : Mg} (s : PY w W Z h g o n c l q m mb) : HY w W Z h g o n c q m mb := ⟨s.tp.tre.var, s.tp.pv, s.mv⟩
theorem PY.kept {w W V : World} {h : Hd} {Z g o n c mb : Nat} {l : List Pt} {q : Pt} {m : Mg} (s : PY w W Z h g o n c l q m mb) (k : W.grownBy V (some (w.heap.size + 1))) : HY w V Z h g o n c q m mb :=
  ⟨s.tp.tre.var.keptBut k (by simp), s.tp.pv.keptBut k (by have := s.tp.pv.apart s.tp.tre.out (by decide); simpa using this), s.mv.keptBut k (by have := s.mv.apart s.tp.tre.out (by decide); simpa using this)⟩
set_option maxHeartbeats 16000000 in
theorem rptx_in (h : Hd) (a : Option Addr) (n c : Nat) (l : List Pt) (k : Nat) (w : World) (hs : SlAt w a n c l) (hn : n ≤ 1000) (hk : k < n) :
    Calls Try.prog 9 #[.agg (trc h (.slice a n c)), .int .i64 (k : Int)] w fun r w' => TOs w h n l (ptxO h l k) (ptxU h l k) r w' := by
  obtain ⟨OO, hOO⟩ : ∃ z, ptxO h l k = z := ⟨_, rfl⟩
  obtain ⟨UU, hUU⟩ : ∃ z, ptxU h l k = z := ⟨_, rfl⟩
  rw [hOO, hUU]
  have EO : Hid (ptxO h l k = OO) := hOO
  have EU : Hid (ptxU h l k = UU) := hUU
  clear hOO hUU
  obtain ⟨g, o, rfl⟩ := hs.some' (by omega)
  have HL : Hid (l.length = n ∧ n ≤ 1000 ∧ k < n) := ⟨hs.len, hn, hk⟩
  have hkl : k < l.length := by rw [HL.out.1]; exact hk
  have GL : g < w.heap.size := hs.low (by omega)
  have hin0 : (0 : Int) ≤ (k : Int) := by omega
  have hin1 : (k : Int) < (n : Int) := by omega
  obtain ⟨W, hW, r0, r1, bW, zW⟩ := two_t w h (.slice (some ⟨g, o, none⟩) n c)
  have l0 := r0.tld
  have H : Hid (TS w W w.heap.size (w.heap.size + 1) h (.slice (some ⟨g, o, none⟩) n c) ∧ SlAt W (some ⟨g, o, none⟩) n c l) := ⟨⟨r0, r1, bW, by omega⟩, hs.below bW⟩
  have T : Hid _ := has_in (h := h) (a := some ⟨g, o, none⟩) (c := c) (w := W) hn hk
  obtain ⟨p, hp⟩ : ∃ p, gtP l k = p := ⟨_, rfl⟩
  have HP : Hid (gtP l k = p) := hp
  have HK : Hid (k < l.length) := hkl
  clear hs hn hk r0 r1 bW zW hp hkl
  go_enter Try.func9, Try.ntmps9
  go_wp2_with fail
  refine Calls.mono T.out ?_
  rintro _ V ⟨rfl, bV⟩
  have K : Hid (TS w V w.heap.size (w.heap.size + 1) h (.slice (some ⟨g, o, none⟩) n c) ∧ SlAt V (some ⟨g, o, none⟩) n c l) := ⟨H.out.1.below bV, H.out.2.below bV⟩
  have c16 := K.out.1.var.t16
  have lp := K.out.2.ld (gtP_at HK.out)
  rw [HP.out] at lp
  obtain ⟨W0, s0, q0, b0, z0⟩ := var_p V p
  obtain ⟨Z, hZ⟩ : ∃ Z, V.heap.size = Z := ⟨_, rfl⟩
  have P0 : Hid (TP w W0 w.heap.size (w.heap.size + 1) Z h g o n c l p) := ⟨K.out.1.below b0, K.out.2.below b0, by rw [← hZ]; exact q0, by rw [← hZ]; exact K.out.1.bel.size, GL⟩
  rw [hZ] at s0
  clear bV T l0 hW H q0 b0 z0 GL K
  obtain ⟨N, hN⟩ : ∃ z, p.nm 75 = z := ⟨_, rfl⟩
  obtain ⟨M, hM⟩ : ∃ z, p.nm 66 = z := ⟨_, rfl⟩
  have HN : Hid (p.nm 75 = N) := hN
  have HM : Hid (p.nm 66 = M) := hM
  obtain ⟨b22, h22⟩ : ∃ z, p.bt 22 = z := ⟨_, rfl⟩
  have H22 : Hid (p.bt 22 = b22) := h22
  obtain ⟨b28, h28⟩ : ∃ z, p.bt 28 = z := ⟨_, rfl⟩
  have H28 : Hid (p.bt 28 = b28) := h28
  obtain ⟨b2, h2⟩ : ∃ z, p.bt 2 = z := ⟨_, rfl⟩
  have H2 : Hid (p.bt 2 = b2) := h2
  obtain ⟨b11, h11⟩ : ∃ z, p.bt 11 = z := ⟨_, rfl⟩
  have H11 : Hid (p.bt 11 = b11) := h11
  clear hN hM h22 h28 h2 h11
  have c42 := P0.out.pv.num (j := 42) (k := .u8) rfl
  obtain ⟨WN, hWN⟩ : ∃ z, waiN p = z := ⟨_, rfl⟩
  have HWN : Hid (waiN p = WN) := hWN
  have HW8 : Hid (0 ≤ WN ∧ WN ≤ 255) := by rw [← hWN]; exact wai_in p
  obtain ⟨D, hD⟩ : ∃ z, p.nm 42 = z := ⟨_, rfl⟩
  have hm : (if D < 1 then 1 else D) = WN := by
    have := p.u8 (j := 42) rfl
    rw [← hWN, ← hD]
    unfold waiN
    split <;> split <;> omega
  rw [hD] at c42
  clear hWN hD
  by_cases hN : N = 1
  · subst hN
    cases b22
    · have EC : ptxC h p = 0 := by unfold ptxC; simp [HN.out, HM.out, H22.out, H28.out, H2.out, H11.out]
      have E1 : OO = none := by rw [← EO.out]; exact ptxO_no (by rw [HP.out]; exact EC)
      have E2 : UU = none := by rw [← EU.out]; exact ptxU_no (c := 0) (by rw [HP.out]; exact EC) (by decide)
      subst E1
      subst E2
      clear EC EO EU
      have c75 := P0.out.pv.num (j := 75) (k := .i64) rfl
      rw [HN.out] at c75
      have c22 := P0.out.pv.bit (j := 22) rfl
      rw [H22.out] at c22
      have c28 := P0.out.pv.bit (j := 28) rfl
      rw [H28.out] at c28
      have c66 := P0.out.pv.num (j := 66) (k := .u8) rfl
      rw [HM.out] at c66
      have c2 := P0.out.pv.bit (j := 2) rfl
      rw [H2.out] at c2
      have c11 := P0.out.pv.bit (j := 11) rfl
      rw [H11.out] at c11
      have c64 := P0.out.pv.num (j := 64) (k := .u8) rfl
      have t5 := P0.out.tre.var.tnum (j := 5) (k := .u8) rfl
      clear HN HM H22 H28 H2 H11
      have lt9 := P0.out.tre.var.tld
      obtain ⟨U, sU, h1, h2, gU⟩ := P0.out.tre.tell (y := .slice (some ⟨g, o, none⟩) n c) rfl
      have G : Hid (RvAt U (w.heap.size + 1) 31 (trc h (.slice (some ⟨g, o, none⟩) n c)) ∧ SlAt U (some ⟨g, o, none⟩) n c l ∧ OutAt U (.slice none 0 0) none ∧ Below w.heap.size w U) := ⟨h1, P0.out.sl.keptT P0.out.tre.out gU, rfl, h2⟩
      clear h1 h2 gU
      go_wp2
      refine bodyPost_ret (results_tob Try.results9 _ _ _ _ _ rfl G.out.1) rfl ?_
      exact ⟨some ⟨g, o, none⟩, c, .slice none 0 0, rfl, G.out.2⟩
    · cases b28
      · by_cases hM : M = 0
        · subst hM
          have EC : ptxC h p = 2 := by unfold ptxC; simp [HN.out, HM.out, H22.out, H28.out, H2.out, H11.out]
          have E1 : OO = some (l.set k (waiP (remP p))) := by rw [← EO.out, ptxO_yes (c := 2) (by rw [HP.out]; exact EC) (by decide), HP.out]; rfl
          have E2 : UU = none := by rw [← EU.out]; exact ptxU_no (c := 2) (by rw [HP.out]; exact EC) (by decide)
          subst E1
          subst E2
          clear EC EO EU
          have c75 := P0.out.pv.num (j := 75) (k := .i64) rfl
          rw [HN.out] at c75
          have c22 := P0.out.pv.bit (j := 22) rfl
          rw [H22.out] at c22
          have c28 := P0.out.pv.bit (j := 28) rfl
          rw [H28.out] at c28
          have c66 := P0.out.pv.num (j := 66) (k := .u8) rfl
          rw [HM.out] at c66
          have c2 := P0.out.pv.bit (j := 2) rfl
          rw [H2.out] at c2
          have c11 := P0.out.pv.bit (j := 11) rfl
          rw [H11.out] at c11
          have c64 := P0.out.pv.num (j := 64) (k := .u8) rfl
          have t5 := P0.out.tre.var.tnum (j := 5) (k := .u8) rfl
          have c30 := P0.out.pv.num (j := 30) (k := .i64) rfl
          have c71 := P0.out.pv.num (j := 71) (k := .u8) rfl
          obtain ⟨V1, e1, S1⟩ := P0.out.setB kb11 (remB p)
          obtain ⟨V2, e2, S2⟩ := S1.setU ku66 (x := WN) HW8.out
          have T9 : Hid (TP w V2 w.heap.size (w.heap.size + 1) Z h g o n c l (waiP (remP p))) := by rw [← rem_ref, HWN.out]; exact S2
          clear S1 S2
          obtain ⟨N30, hN30⟩ : ∃ z, p.nm 30 = z := ⟨_, rfl⟩
          obtain ⟨M71, hM71⟩ : ∃ z, p.nm 71 = z := ⟨_, rfl⟩
          have H30 : Hid (p.nm 30 = N30) := hN30
          have H71 : Hid (p.nm 71 = M71) := hM71
          rw [hN30] at c30
          rw [hM71] at c71
          clear hN30 hM71
          go_upto_region 11 with fail
          go_cut [] from 50 to 67 (fun wx => wx = V1)
          case first =>
            cases b11
            · by_cases h4 : N30 = 4
              · subst h4
                have eb : remB p = true := by unfold remB; rw [H11.out, H30.out]; rfl
                rw [eb] at e1
                clear eb
                go_wp2_with fail
                go_meet
                exact rfl
              · have x4 : (N30 == 4) = false := beq_eq_false_iff_ne.2 h4
                by_cases h3 : N30 = 3
                · subst h3
                  by_cases h0 : M71 = 0
                  · subst h0
                    have eb : remB p = false := by unfold remB; rw [H11.out, H30.out, H71.out]; rfl
                    rw [eb] at e1
                    clear eb h4
                    go_wp2_with fail
                    go_meet
                    exact rfl
                  · have x0 : (M71 == 0) = false := beq_eq_false_iff_ne.2 h0
                    have y0 : (M71 != 0) = true := by simp [h0]
                    have eb : remB p = true := by unfold remB; rw [H11.out, H30.out, H71.out, x0]; rfl
                    rw [eb] at e1
                    clear eb h4 h0
                    go_wp2_with fail
                    go_meet
                    exact rfl
                · have x3 : (N30 == 3) = false := beq_eq_false_iff_ne.2 h3
                  have eb : remB p = false := by unfold remB; rw [H11.out, H30.out, H71.out, x4, x3]; rfl
                  rw [eb] at e1
                  clear eb h4 h3
                  go_wp2_with fail
                  go_meet
                  exact rfl
            · have eb : remB p = true := by unfold remB; rw [H11.out]; rfl
              rw [eb] at e1
              clear eb
              go_wp2_with fail
              go_meet
              exact rfl
          case rest =>
            subst hcut
            clear e1 c75 c22 c28 c66 c2 c11 c64 t5 c30 c71 H30 H71
            clear HN HM H22 H28 H2 H11
            have lt9 := T9.out.tre.var.tld
            have lq9 := T9.out.pv.pld
            go_wp2_with fail
            refine (with_any h (some ⟨g, o, none⟩) n c l k (waiP (remP p)) V2 T9.out.sl HL.out.2.1 HL.out.2.2).mono ?_
            rintro _ X2 ⟨g2, c2, rfl, f2, s2, b2⟩
            obtain ⟨U, sU, h1, h2, gU⟩ := (T9.out.tre.below b2).tell (y := .slice (some ⟨g2, 0, none⟩) n c2) rfl
            have G : Hid (RvAt U (w.heap.size + 1) 31 (trc h (.slice (some ⟨g2, 0, none⟩) n c2)) ∧ SlAt U (some ⟨g2, 0, none⟩) n c2 (l.set k (waiP (remP p))) ∧ OutAt U (.slice none 0 0) none ∧ Below w.heap.size w U) := ⟨h1, s2.keptT (T9.out.tre.below b2).out gU, rfl, h2⟩
            clear h1 h2 gU s2 b2 f2
            go_wp2
            refine bodyPost_ret (results_tob Try.results9 _ _ _ _ _ rfl G.out.1) rfl ?_
            exact ⟨some ⟨g2, 0, none⟩, c2, .slice none 0 0, rfl, G.out.2⟩
        · have xM : (M == 0) = false := beq_eq_false_iff_ne.2 hM
          have c75 := P0.out.pv.num (j := 75) (k := .i64) rfl
          rw [HN.out] at c75
          have c22 := P0.out.pv.bit (j := 22) rfl
          rw [H22.out] at c22
          have c28 := P0.out.pv.bit (j := 28) rfl
          rw [H28.out] at c28
          have c66 := P0.out.pv.num (j := 66) (k := .u8) rfl
          rw [HM.out] at c66
          have c2 := P0.out.pv.bit (j := 2) rfl
          rw [H2.out] at c2
          have c11 := P0.out.pv.bit (j := 11) rfl
          rw [H11.out] at c11
          have c64 := P0.out.pv.num (j := 64) (k := .u8) rfl
          have t5 := P0.out.tre.var.tnum (j := 5) (k := .u8) rfl
          obtain ⟨B14, h14⟩ : ∃ z, (b2 && (b11 && (decide (p.nm 64 < h.nm 5) && voiB p))) = z := ⟨_, rfl⟩
          have H14 : Hid ((b2 && (b11 && (decide (p.nm 64 < h.nm 5) && voiB p))) = B14) := h14
          have c30 := P0.out.pv.num (j := 30) (k := .i64) rfl
          have c23 := P0.out.pv.bit (j := 23) rfl
          clear h14
          go_upto_region 14 with fail
          go_cut [74] from 75 to 101 (fun v wx => v = .bool B14 ∧ wx = W0)
          case first =>
            cases b2
            · have e14 : B14 = false := by rw [← H14.out]; simp []
              clear H14
              subst e14
              go_wp2_with fail
              go_meet
              exact ⟨rfl, rfl⟩
            · cases b11
              · have e14 : B14 = false := by rw [← H14.out]; simp []
                clear H14
                subst e14
                go_wp2_with fail
                go_meet
                exact ⟨rfl, rfl⟩
              · by_cases hT : p.nm 64 < h.nm 5
                · cases h23 : p.bt 23
                  · rw [h23] at c23
                    by_cases h3 : p.nm 30 = 3
                    · rw [h3] at c30
                      have hv : voiB p = true := by unfold voiB; rw [h3]; simp
                      have e14 : B14 = true := by rw [← H14.out]; simp [hT, hv]
                      clear H14
                      subst e14
                      clear hv h3 h23
                      go_wp2_with fail
                      go_meet
                      exact ⟨rfl, rfl⟩
                    · have x3 : (p.nm 30 == 3) = false := beq_eq_false_iff_ne.2 h3
                      by_cases h4 : p.nm 30 = 4
                      · rw [h4] at c30
                        have hv : voiB p = true := by unfold voiB; rw [h4]; simp
                        have e14 : B14 = true := by rw [← H14.out]; simp [hT, hv]
                        clear H14
                        subst e14
                        clear hv h3 h23 h4
                        go_wp2_with fail
                        go_meet
                        exact ⟨rfl, rfl⟩
                      · have x4 : (p.nm 30 == 4) = false := beq_eq_false_iff_ne.2 h4
                        have hv : voiB p = false := by unfold voiB; rw [h23, x3, x4]; rfl
                        have e14 : B14 = false := by rw [← H14.out]; simp [hv]
                        clear H14
                        subst e14
                        clear hv h3 h23 h4
                        go_wp2_with fail
                        go_meet
                        exact ⟨rfl, rfl⟩
                  · rw [h23] at c23
                    have hv : voiB p = true := by unfold voiB; rw [h23]; rfl
                    have e14 : B14 = true := by rw [← H14.out]; simp [hT, hv]
                    clear H14
                    subst e14
                    clear hv h23
                    go_wp2_with fail
                    go_meet
                    exact ⟨rfl, rfl⟩
                · have e14 : B14 = false := by rw [← H14.out]; simp [hT]
                  clear H14
                  subst e14
                  go_wp2_with fail
                  go_meet
                  exact ⟨rfl, rfl⟩
          case rest =>
            obtain ⟨rfl, hwc⟩ := hcut
            subst hwc
            cases B14
            · have EC : ptxC h p = 0 := by
                unfold ptxC
                rw [if_pos HN.out, if_pos ⟨H22.out, H28.out⟩, if_neg (by rw [HM.out]; exact hM), if_neg]
                rintro ⟨q1, q2, q3, q4⟩
                have := H14.out
                rw [← H2.out, ← H11.out, q1, q2, q4, decide_eq_true q3] at this
                cases this
              have E1 : OO = none := by rw [← EO.out]; exact ptxO_no (by rw [HP.out]; exact EC)
              have E2 : UU = none := by rw [← EU.out]; exact ptxU_no (c := 0) (by rw [HP.out]; exact EC) (by decide)
              subst E1
              subst E2
              clear EC EO EU H14 hM xM
              clear HN HM H22 H28 H2 H11
              have lt9 := P0.out.tre.var.tld
              obtain ⟨U, sU, h1, h2, gU⟩ := P0.out.tre.tell (y := .slice (some ⟨g, o, none⟩) n c) rfl
              have G : Hid (RvAt U (w.heap.size + 1) 31 (trc h (.slice (some ⟨g, o, none⟩) n c)) ∧ SlAt U (some ⟨g, o, none⟩) n c l ∧ OutAt U (.slice none 0 0) none ∧ Below w.heap.size w U) := ⟨h1, P0.out.sl.keptT P0.out.tre.out gU, rfl, h2⟩
              clear h1 h2 gU
              go_wp2
              refine bodyPost_ret (results_tob Try.results9 _ _ _ _ _ rfl G.out.1) rfl ?_
              exact ⟨some ⟨g, o, none⟩, c, .slice none 0 0, rfl, G.out.2⟩
            · have EC : ptxC h p = 3 := by
                have := H14.out
                simp only [Bool.and_eq_true, decide_eq_true_eq] at this
                unfold ptxC
                rw [if_pos HN.out, if_pos ⟨H22.out, H28.out⟩, if_neg (by rw [HM.out]; exact hM), if_pos ⟨by rw [H2.out]; exact this.1, by rw [H11.out]; exact this.2.1, this.2.2.1, this.2.2.2⟩]
              have H64 : Hid (p.nm 64 < 255) := by
                have q := H14.out
                simp only [Bool.and_eq_true, decide_eq_true_eq] at q
                have := h.u8 (j := 5) rfl
                have := q.2.2.1
                exact (by omega : p.nm 64 < 255)
              have E1 : OO = some (l.set k (waiP (sntP p))) := by rw [← EO.out, ptxO_yes (c := 3) (by rw [HP.out]; exact EC) (by decide), HP.out]; rfl
              have E2 : UU = some (outI (k : Int) (msgP p)) := by rw [← EU.out, ptxU_yes (by rw [HP.out]; exact EC), HP.out]
              subst E1
              subst E2
              clear EC EO EU
              have HWK : Hid ((Lit.int .i64 (k : Int)).wf = true) := wi_k (by have := HL.out; omega)
              have lt1 := P0.out.tre.var.tld
              clear c75 c22 c28 c66 c2 c11 c64 t5 c30 c23 hM xM H14
              clear HN HM H22 H28 H2 H11
              go_wp2_with fail
              refine (rmes_in h (some ⟨g, o, none⟩) n c l k wc P0.out.sl HL.out.2.1 HL.out.2.2).mono ?_
              rintro _ W2 ⟨rfl, b2_⟩
              rw [HP.out]
              obtain ⟨m, hm⟩ : ∃ z, msgP p = z := ⟨_, rfl⟩
              have hmk : m.nm 0 = kinN p := by rw [← hm]; exact msg_kind p
              have HMM : Hid (msgP p = m) := hm
              rw [hm]
              obtain ⟨W3, s3, r3, b3, z3⟩ := var_m W2 m
              obtain ⟨mb, hmb⟩ : ∃ z, W2.heap.size = z := ⟨_, rfl⟩
              rw [hmb] at s3 r3
              have Y1 : PY w W3 Z h g o n c l p m mb := ⟨(P0.out.below b2_).below b3, r3⟩
              obtain ⟨V1, e1, S1⟩ := Y1.setB kb11 false
              obtain ⟨V2, e2, S2⟩ := S1.setU ku66 (x := WN) HW8.out
              have c64 := S2.tp.pv.num (j := 64) (k := .u8) rfl
              rw [Row.setU_nm _ (by decide), setB_nm _ _ _ (by decide)] at c64
              have hu := p.u8 (j := 64) rfl
              have h64 := H64.out
              obtain ⟨V3, e3, S3⟩ := S2.setU ku64 (x := p.nm 64 + 1) ⟨by omega, by omega⟩
              have hw : IntKind.u8.wrap (p.nm 64 + 1) = p.nm 64 + 1 := IntWalk.u8_in _ (by omega)
              have c26 := S3.tp.pv.bit (j := 26) rfl
              rw [setU_bt _ (by decide), setU_bt _ (by decide), setB_bt _ _ _ (by decide)] at c26
              have cm := S3.mv.num (j := 0) (k := .i64) rfl
              rw [hmk] at cm
              obtain ⟨V4, e4, S4⟩ := S3.setB kb26 (ackB p)
              obtain ⟨q, hq⟩ : ∃ z, ((((p.setB 11 kb11 false).setU 66 WN).setU 64 (p.nm 64 + 1)).setB 26 kb26 (ackB p)) = z := ⟨_, rfl⟩
              have S4 : PY w V4 Z h g o n c l (((((p.setB 11 kb11 false).setU 66 WN).setU 64 (p.nm 64 + 1)).setB 26 kb26 (ackB p))) m mb := S4
              rw [hq] at S4
              have HQ : Hid (waiP (sntP p) = q) := by rw [← hq, ← HWN.out]; exact (snt_ref p H64.out).symm
              have YY : Hid (PY w V4 Z h g o n c l q m mb) := S4
              clear S1 S2 S3 S4 Y1 b2_ b3 r3 z3 hq hu h64 lt1 hm P0
              obtain ⟨TT, hTT⟩ : ∃ z, p.nm 64 = z := ⟨_, rfl⟩
              obtain ⟨b26, h26⟩ : ∃ z, p.bt 26 = z := ⟨_, rfl⟩
              obtain ⟨K, hK⟩ : ∃ z, kinN p = z := ⟨_, rfl⟩
              rw [hTT] at c64 e3 hw
              rw [h26] at c26
              rw [hK] at cm
              have H26 : Hid (p.bt 26 = b26) := h26
              have HKK : Hid (kinN p = K) := hK
              clear hTT h26 hK hmk
              go_upto_region 18 with fail
              go_cut [] from 112 to 119 (fun wx => wx = V4)
              case first =>
                cases b26
                · have eb : ackB p = false := by unfold ackB; rw [H26.out]; rfl
                  rw [eb] at e4
                  clear eb
                  go_wp2_with fail
                  go_meet
                  exact rfl
                · by_cases h2 : K = 2
                  · subst h2
                    have eb : ackB p = true := by unfold ackB; rw [H26.out, HKK.out]; rfl
                    rw [eb] at e4
                    clear eb
                    go_wp2_with fail
                    go_meet
                    exact rfl
                  · have x2 : (K == 2) = false := beq_eq_false_iff_ne.2 h2
                    have eb : ackB p = false := by unfold ackB; rw [H26.out, HKK.out, x2]; rfl
                    rw [eb] at e4
                    clear eb h2
                    go_wp2_with fail
                    go_meet
                    exact rfl
              case rest =>
                subst hcut
                clear e1 e2 e3 e4 c64 hw c26 cm H26 HKK s3 hmb
                go_upto_region 19 with fail
                obtain ⟨RO, hRO⟩ : ∃ z, outR (k : Int) HWK.out m = z := ⟨_, rfl⟩
                have HRO : Hid (outR (k : Int) HWK.out m = RO) := hRO
                have HRO2 : Hid (outI (k : Int) (msgP p) = RO) := by rw [← hRO, HMM.out]; exact outI_is HWK.out _
                clear hRO
                have qO : ∀ q : World, (bdO #[(0, .int .i64 (k : Int)), (1, .agg m.cs)]).run Try.prog q = .ok (.agg RO.cs) q := fun q => by rw [← HRO.out]; exact bdO_is _ _ _ q
                obtain ⟨X0, hX0⟩ : ∃ X0, World.drew wc = X0 := ⟨_, rfl⟩
                have PY0 : Hid (PY w X0 Z h g o n c l q m mb) := by rw [← hX0]; exact YY.out.below (Below.refl _ _).drew
                clear YY
                refine wp_region_noPanic ?_
                refine wp_region_held_drew (S := fun w' => HY w w' Z h g o n c q m mb) (by kernel_rfl) (by rw [hX0]; exact PY0.out.held) (fun hHeld => ?_)
                rw [hX0] at hHeld ⊢
                clear hX0
                refine wpAnyH_take (i := 0) (oi := { dst := some 120, op := Op.load 31 (Operand.tmp 2), type := 31, pos := "ref.go:60", after := #[], guard := none }) (v := ?_) rfl (by kernel_rfl) (by kernel_rfl) (by kernel_rfl) (fun _ _ _ h => h) (Or.inl ⟨by rfl, ?_⟩) hHeld ?_
                rotate_left
                · intro W_ hSw_
                  have xt := hSw_.1.tld; have xp := hSw_.2.1.pld; have xm := hSw_.2.2.mld; clear hSw_
                  first | (go_simp; done) | (go_simp; with_reducible rfl)
                rotate_left
                try simp only [Act.put, List.setIfInBounds_toArray, List.set_cons_zero, List.set_cons_succ]
                refine wpAnyH_take (i := 1) (oi := { dst := some 121, op := Op.move (Operand.tmp 1), type := 3, pos := "ref.go:60", after := #[], guard := none }) (v := ?_) rfl (by kernel_rfl) (by kernel_rfl) (by kernel_rfl) (fun _ _ _ h => h) (Or.inl ⟨by rfl, ?_⟩) hHeld ?_
                rotate_left
                · intro W_ hSw_
                  have xt := hSw_.1.tld; have xp := hSw_.2.1.pld; have xm := hSw_.2.2.mld; clear hSw_
                  first | (go_simp; done) | (go_simp; with_reducible rfl)
                rotate_left
                try simp only [Act.put, List.setIfInBounds_toArray, List.set_cons_zero, List.set_cons_succ]
                refine wpAnyH_take (i := 2) (oi := { dst := some 122, op := Op.load 53 (Operand.tmp 7), type := 53, pos := "ref.go:60", after := #[], guard := none }) (v := ?_) rfl (by kernel_rfl) (by kernel_rfl) (by kernel_rfl) (fun _ _ _ h => h) (Or.inl ⟨by rfl, ?_⟩) hHeld ?_
                rotate_left
                · intro W_ hSw_
                  have xt := hSw_.1.tld; have xp := hSw_.2.1.pld; have xm := hSw_.2.2.mld; clear hSw_
                  first | (go_simp; done) | (go_simp; with_reducible rfl)
                rotate_left
                try simp only [Act.put, List.setIfInBounds_toArray, List.set_cons_zero, List.set_cons_succ]
                refine wpAnyH_take (i := 4) (oi := { dst := some 124, op := Op.move (Operand.tmp 1), type := 3, pos := "ref.go:60", after := #[{ on := 8, ground := Ground.gcOnly Departure.lateStores }], guard := none }) (v := ?_) rfl (by kernel_rfl) (by kernel_rfl) (by kernel_rfl) (fun _ _ _ h => h) (Or.inl ⟨by rfl, ?_⟩) hHeld ?_
                rotate_left
                · intro W_ hSw_
                  have xt := hSw_.1.tld; have xp := hSw_.2.1.pld; have xm := hSw_.2.2.mld; clear hSw_
                  first | (go_simp; done) | (go_simp; with_reducible rfl)
                rotate_left
                try simp only [Act.put, List.setIfInBounds_toArray, List.set_cons_zero, List.set_cons_succ]
                refine wpAnyH_take (i := 5) (oi := { dst := some 125, op := Op.load 43 (Operand.tmp 9), type := 43, pos := "ref.go:60", after := #[{ on := 8, ground := Ground.gcOnly Departure.lateStores }], guard := none }) (v := ?_) rfl (by kernel_rfl) (by kernel_rfl) (by kernel_rfl) (fun _ _ _ h => h) (Or.inl ⟨by rfl, ?_⟩) hHeld ?_
                rotate_left
                · intro W_ hSw_
                  have xt := hSw_.1.tld; have xp := hSw_.2.1.pld; have xm := hSw_.2.2.mld; clear hSw_
                  first | (go_simp; done) | (go_simp; with_reducible rfl)
                rotate_left
                try simp only [Act.put, List.setIfInBounds_toArray, List.set_cons_zero, List.set_cons_succ]
                refine wpAnyH_take (i := 6) (oi := { dst := some 126, op := Op.build 48 #[(0, Operand.tmp 124), (1, Operand.tmp 125)], type := 48, pos := "ref.go:60", after := #[{ on := 4, ground := Ground.data }, { on := 5, ground := Ground.data }, { on := 8, ground := Ground.gcOnly Departure.lateStores }], guard := none }) (v := ?_) rfl (by kernel_rfl) (by kernel_rfl) (by kernel_rfl) (fun _ _ _ h => h) (Or.inl ⟨by rfl, ?_⟩) hHeld ?_
                rotate_left
                · intro W_ hSw_
                  have xt := hSw_.1.tld; have xp := hSw_.2.1.pld; have xm := hSw_.2.2.mld; clear hSw_
                  first | (go_simp; done) | (go_simp; with_reducible rfl)
                rotate_left
                try simp only [Act.put, List.setIfInBounds_toArray, List.set_cons_zero, List.set_cons_succ]
                refine wpAnyH_ready (rs := [3, 7]) (by kernel_rfl) (by simp) ?_
                refine AllReadyH.cons (o := { dst := some 123, op := Op.call { callee := Callee.value (Operand.func 19), args := #[Operand.tmp 120, Operand.tmp 121, Operand.tmp 122], argTypes := #[31, 3, 53] }, type := 31, pos := "ref.go:60", after := #[{ on := 0, ground := Ground.data }, { on := 1, ground := Ground.data }, { on := 2, ground := Ground.data }], guard := none }) rfl (fun K hK => ?_) (AllReadyH.cons (o := { dst := some 127, op := Op.buildSlice 33 1 #[(0, Operand.tmp 126)], type := 33, pos := "ref.go:60", after := #[{ on := 6, ground := Ground.data }, { on := 8, ground := Ground.gcOnly Departure.lateStores }], guard := none }) rfl (fun K hK => ?_) AllReadyH.nil)
                · skip
                  go_simp
                  refine (with_any h (some ⟨g, o, none⟩) n c l k q X0 PY0.out.tp.sl HL.out.2.1 HL.out.2.2).mono ?_
                  rintro _ Y1 ⟨g2, c2, rfl, f2, s2, b2⟩
                  have SL1 : Hid (SlAt Y1 (some ⟨g2, 0, none⟩) n c2 (l.set k q)) := s2
                  have PY1 : Hid (PY w Y1 Z h g o n c l q m mb) := PY0.out.below b2
                  clear s2 b2 f2 hHeld
                  refine hK.out _ _ PY1.out.held (fun hHeld => ?_)
                  clear hK K
                  try simp only [Act.put, List.setIfInBounds_toArray, List.set_cons_zero, List.set_cons_succ]
                  refine wpAnyH_ready (rs := [7, 8]) (by kernel_rfl) (by simp) ?_
                  refine AllReadyH.cons (o := { dst := some 127, op := Op.buildSlice 33 1 #[(0, Operand.tmp 126)], type := 33, pos := "ref.go:60", after := #[{ on := 6, ground := Ground.data }, { on := 8, ground := Ground.gcOnly Departure.lateStores }], guard := none }) rfl (fun K hK => ?_) (AllReadyH.cons (o := { dst := none, op := Op.store 31 (Operand.tmp 4) (Operand.tmp 123), type := 0, pos := "ref.go:60", after := #[{ on := 3, ground := Ground.data }, { on := 3, ground := Ground.chain }, { on := 0, ground := Ground.phase }, { on := 1, ground := Ground.phase }, { on := 2, ground := Ground.phase }, { on := 3, ground := Ground.phase }, { on := 4, ground := Ground.textOnly Departure.lateStores }, { on := 5, ground := Ground.textOnly Departure.lateStores }, { on := 6, ground := Ground.textOnly Departure.lateStores }, { on := 7, ground := Ground.textOnly Departure.lateStores }], guard := none }) rfl (fun K hK => ?_) AllReadyH.nil)
                  · skip
                    obtain ⟨Y2, hY, fY, bY⟩ := new_ot Y1 RO.cs
                    have qY := bsO_is (k : Int) HWK.out m Y1
                    rw [HRO.out, hY] at qY
                    have OT2 : Hid (RvAt Y2 Y1.heap.size 48 RO.cs) := fY
                    have PY2 : Hid (PY w Y2 Z h g o n c l q m mb) := PY1.out.below bY
                    have SL1_2 : Hid (SlAt Y2 (some ⟨g2, 0, none⟩) n c2 (l.set k q)) := SL1.out.below bY
                    clear fY bY hY
                    go_simp
                    clear qY hHeld
                    refine hK.out _ _ PY2.out.held (fun hHeld => ?_)
                    clear hK K
                    try simp only [Act.put, List.setIfInBounds_toArray, List.set_cons_zero, List.set_cons_succ]
                    refine wpAnyH_ready (rs := [8]) (by kernel_rfl) (by simp) ?_
                    refine AllReadyH.cons (o := { dst := none, op := Op.store 31 (Operand.tmp 4) (Operand.tmp 123), type := 0, pos := "ref.go:60", after := #[{ on := 3, ground := Ground.data }, { on := 3, ground := Ground.chain }, { on := 0, ground := Ground.phase }, { on := 1, ground := Ground.phase }, { on := 2, ground := Ground.phase }, { on := 3, ground := Ground.phase }, { on := 4, ground := Ground.textOnly Departure.lateStores }, { on := 5, ground := Ground.textOnly Departure.lateStores }, { on := 6, ground := Ground.textOnly Departure.lateStores }, { on := 7, ground := Ground.textOnly Departure.lateStores }], guard := none }) rfl (fun K hK => ?_) AllReadyH.nil
                    obtain ⟨Y3, sU, h1, h2, gU⟩ := PY2.out.tp.tre.tell (y := .slice (some ⟨g2, 0, none⟩) n c2) rfl
                    have SV3 : Hid (RvAt Y3 (w.heap.size + 1) 31 (trc h (.slice (some ⟨g2, 0, none⟩) n c2)) ∧ SlAt Y3 (some ⟨g2, 0, none⟩) n c2 (l.set k q) ∧ Below w.heap.size w Y3) := ⟨h1, SL1_2.out.keptT PY2.out.tp.tre.out gU, h2⟩
                    have HE3 : Hid (HY w Y3 Z h g o n c q m mb) := PY2.out.kept gU
                    have OT2_3 : Hid (RvAt Y3 Y1.heap.size 48 RO.cs) := OT2.out.keptBut gU (by have := OT2.out.apart PY2.out.tp.tre.out (by decide); simpa using this)
                    clear h1 h2 gU
                    go_simp
                    clear sU hHeld
                    refine hK.out _ _ HE3.out (fun hHeld => ?_)
                    clear hK K
                    try simp only [Act.put, List.setIfInBounds_toArray, List.set_cons_zero, List.set_cons_succ]
                    refine wpAnyH_take (i := 9) (oi := { dst := some 5, op := Op.assign (Operand.tmp 127), type := 33, pos := "ref.go:60", after := #[{ on := 7, ground := Ground.data }, { on := 8, ground := Ground.chain }, { on := 0, ground := Ground.phase }, { on := 1, ground := Ground.phase }, { on := 2, ground := Ground.phase }, { on := 3, ground := Ground.phase }, { on := 4, ground := Ground.phase }, { on := 5, ground := Ground.phase }, { on := 6, ground := Ground.phase }, { on := 7, ground := Ground.phase }, { on := 8, ground := Ground.phase }], guard := none }) (v := ?_) rfl (by kernel_rfl) (by kernel_rfl) (by kernel_rfl) (fun _ _ _ h => h) (Or.inl ⟨by rfl, ?_⟩) hHeld ?_
                    rotate_left
                    · intro W_ hSw_
                      have xt := hSw_.1.tld; have xp := hSw_.2.1.pld; have xm := hSw_.2.2.mld; clear hSw_
                      first | (go_simp; done) | (go_simp; with_reducible rfl)
                    rotate_left
                    try simp only [Act.put, List.setIfInBounds_toArray, List.set_cons_zero, List.set_cons_succ]
                    refine wpAnyH_take (i := 10) (oi := { dst := some 6, op := Op.assign (Operand.const (Value.bool true)), type := 4, pos := "ref.go:60", after := #[{ on := 9, ground := Ground.chain }, { on := 0, ground := Ground.phase }, { on := 1, ground := Ground.phase }, { on := 2, ground := Ground.phase }, { on := 3, ground := Ground.phase }, { on := 4, ground := Ground.phase }, { on := 5, ground := Ground.phase }, { on := 6, ground := Ground.phase }, { on := 7, ground := Ground.phase }, { on := 8, ground := Ground.phase }, { on := 9, ground := Ground.phase }], guard := none }) (v := ?_) rfl (by kernel_rfl) (by kernel_rfl) (by kernel_rfl) (fun _ _ _ h => h) (Or.inl ⟨by rfl, ?_⟩) hHeld ?_
                    rotate_left
                    · intro W_ hSw_
                      have xt := hSw_.1.tld; have xp := hSw_.2.1.pld; have xm := hSw_.2.2.mld; clear hSw_
                      first | (go_simp; done) | (go_simp; with_reducible rfl)
                    rotate_left
                    try simp only [Act.put, List.setIfInBounds_toArray, List.set_cons_zero, List.set_cons_succ]
                    refine wpAnyH_done (by kernel_rfl) ?_ _
                    refine NoPanic.normal ?_
                    clear hHeld
                    go_wp2
                    refine bodyPost_ret (results_tob Try.results9 _ _ _ _ _ rfl SV3.out.1) rfl ?_
                    exact ⟨some ⟨g2, 0, none⟩, c2, _, rfl, by rw [← HQ.out] at SV3; exact SV3.out.2.1, ⟨_, rfl, by rw [← HRO2.out] at OT2_3; exact OT2_3.out⟩, SV3.out.2.2⟩
                  · skip
                    obtain ⟨Y2, sU, h1, h2, gU⟩ := PY1.out.tp.tre.tell (y := .slice (some ⟨g2, 0, none⟩) n c2) rfl
                    have SV2 : Hid (RvAt Y2 (w.heap.size + 1) 31 (trc h (.slice (some ⟨g2, 0, none⟩) n c2)) ∧ SlAt Y2 (some ⟨g2, 0, none⟩) n c2 (l.set k q) ∧ Below w.heap.size w Y2) := ⟨h1, SL1.out.keptT PY1.out.tp.tre.out gU, h2⟩
                    have HE2 : Hid (HY w Y2 Z h g o n c q m mb) := PY1.out.kept gU
                    clear h1 h2 gU
                    go_simp
                    clear sU hHeld
                    refine hK.out _ _ HE2.out (fun hHeld => ?_)
                    clear hK K
                    try simp only [Act.put, List.setIfInBounds_toArray, List.set_cons_zero, List.set_cons_succ]
                    refine wpAnyH_ready (rs := [7]) (by kernel_rfl) (by simp) ?_
                    refine AllReadyH.cons (o := { dst := some 127, op := Op.buildSlice 33 1 #[(0, Operand.tmp 126)], type := 33, pos := "ref.go:60", after := #[{ on := 6, ground := Ground.data }, { on := 8, ground := Ground.gcOnly Departure.lateStores }], guard := none }) rfl (fun K hK => ?_) AllReadyH.nil
                    obtain ⟨Y3, hY, fY, bY⟩ := new_ot Y2 RO.cs
                    have qY := bsO_is (k : Int) HWK.out m Y2
                    rw [HRO.out, hY] at qY
                    have OT3 : Hid (RvAt Y3 Y2.heap.size 48 RO.cs) := fY
                    have SV3 : Hid (RvAt Y3 (w.heap.size + 1) 31 (trc h (.slice (some ⟨g2, 0, none⟩) n c2)) ∧ SlAt Y3 (some ⟨g2, 0, none⟩) n c2 (l.set k q) ∧ Below w.heap.size w Y3) := ⟨SV2.out.1.below bY, SV2.out.2.1.below bY, below_over SV2.out.2.2 bY⟩
                    have HE3 : Hid (HY w Y3 Z h g o n c q m mb) := ⟨HE2.out.1.below bY, HE2.out.2.1.below bY, HE2.out.2.2.below bY⟩
                    clear fY bY hY
                    go_simp
                    clear qY hHeld
                    refine hK.out _ _ HE3.out (fun hHeld => ?_)
                    clear hK K
                    try simp only [Act.put, List.setIfInBounds_toArray, List.set_cons_zero, List.set_cons_succ]
                    refine wpAnyH_take (i := 9) (oi := { dst := some 5, op := Op.assign (Operand.tmp 127), type := 33, pos := "ref.go:60", after := #[{ on := 7, ground := Ground.data }, { on := 8, ground := Ground.chain }, { on := 0, ground := Ground.phase }, { on := 1, ground := Ground.phase }, { on := 2, ground := Ground.phase }, { on := 3, ground := Ground.phase }, { on := 4, ground := Ground.phase }, { on := 5, ground := Ground.phase }, { on := 6, ground := Ground.phase }, { on := 7, ground := Ground.phase }, { on := 8, ground := Ground.phase }], guard := none }) (v := ?_) rfl (by kernel_rfl) (by kernel_rfl) (by kernel_rfl) (fun _ _ _ h => h) (Or.inl ⟨by rfl, ?_⟩) hHeld ?_
                    rotate_left
                    · intro W_ hSw_
                      have xt := hSw_.1.tld; have xp := hSw_.2.1.pld; have xm := hSw_.2.2.mld; clear hSw_
                      first | (go_simp; done) | (go_simp; with_reducible rfl)
                    rotate_left
                    try simp only [Act.put, List.setIfInBounds_toArray, List.set_cons_zero, List.set_cons_succ]
                    refine wpAnyH_take (i := 10) (oi := { dst := some 6, op := Op.assign (Operand.const (Value.bool true)), type := 4, pos := "ref.go:60", after := #[{ on := 9, ground := Ground.chain }, { on := 0, ground := Ground.phase }, { on := 1, ground := Ground.phase }, { on := 2, ground := Ground.phase }, { on := 3, ground := Ground.phase }, { on := 4, ground := Ground.phase }, { on := 5, ground := Ground.phase }, { on := 6, ground := Ground.phase }, { on := 7, ground := Ground.phase }, { on := 8, ground := Ground.phase }, { on := 9, ground := Ground.phase }], guard := none }) (v := ?_) rfl (by kernel_rfl) (by kernel_rfl) (by kernel_rfl) (fun _ _ _ h => h) (Or.inl ⟨by rfl, ?_⟩) hHeld ?_
                    rotate_left
                    · intro W_ hSw_
                      have xt := hSw_.1.tld; have xp := hSw_.2.1.pld; have xm := hSw_.2.2.mld; clear hSw_
                      first | (go_simp; done) | (go_simp; with_reducible rfl)
                    rotate_left
                    try simp only [Act.put, List.setIfInBounds_toArray, List.set_cons_zero, List.set_cons_succ]
                    refine wpAnyH_done (by kernel_rfl) ?_ _
                    refine NoPanic.normal ?_
                    clear hHeld
                    go_wp2
                    refine bodyPost_ret (results_tob Try.results9 _ _ _ _ _ rfl SV3.out.1) rfl ?_
                    exact ⟨some ⟨g2, 0, none⟩, c2, _, rfl, by rw [← HQ.out] at SV3; exact SV3.out.2.1, ⟨_, rfl, by rw [← HRO2.out] at OT3; exact OT3.out⟩, SV3.out.2.2⟩
                · skip
                  obtain ⟨Y1, hY, fY, bY⟩ := new_ot X0 RO.cs
                  have qY := bsO_is (k : Int) HWK.out m X0
                  rw [HRO.out, hY] at qY
                  have OT1 : Hid (RvAt Y1 X0.heap.size 48 RO.cs) := fY
                  have PY1 : Hid (PY w Y1 Z h g o n c l q m mb) := PY0.out.below bY
                  clear fY bY hY
                  go_simp
                  clear qY hHeld
                  refine hK.out _ _ PY1.out.held (fun hHeld => ?_)
                  clear hK K
                  try simp only [Act.put, List.setIfInBounds_toArray, List.set_cons_zero, List.set_cons_succ]
                  refine wpAnyH_ready (rs := [3]) (by kernel_rfl) (by simp) ?_
                  refine AllReadyH.cons (o := { dst := some 123, op := Op.call { callee := Callee.value (Operand.func 19), args := #[Operand.tmp 120, Operand.tmp 121, Operand.tmp 122], argTypes := #[31, 3, 53] }, type := 31, pos := "ref.go:60", after := #[{ on := 0, ground := Ground.data }, { on := 1, ground := Ground.data }, { on := 2, ground := Ground.data }], guard := none }) rfl (fun K hK => ?_) AllReadyH.nil
                  go_simp
                  refine (with_any h (some ⟨g, o, none⟩) n c l k q Y1 PY1.out.tp.sl HL.out.2.1 HL.out.2.2).mono ?_
                  rintro _ Y2 ⟨g2, c2, rfl, f2, s2, b2⟩
                  have SL2 : Hid (SlAt Y2 (some ⟨g2, 0, none⟩) n c2 (l.set k q)) := s2
                  have PY2 : Hid (PY w Y2 Z h g o n c l q m mb) := PY1.out.below b2
                  have OT1_2 : Hid (RvAt Y2 X0.heap.size 48 RO.cs) := OT1.out.below b2
                  clear s2 b2 f2 hHeld
                  refine hK.out _ _ PY2.out.held (fun hHeld => ?_)
                  clear hK K
                  try simp only [Act.put, List.setIfInBounds_toArray, List.set_cons_zero, List.set_cons_succ]
                  refine wpAnyH_ready (rs := [8]) (by kernel_rfl) (by simp) ?_
                  refine AllReadyH.cons (o := { dst := none, op := Op.store 31 (Operand.tmp 4) (Operand.tmp 123), type := 0, pos := "ref.go:60", after := #[{ on := 3, ground := Ground.data }, { on := 3, ground := Ground.chain }, { on := 0, ground := Ground.phase }, { on := 1, ground := Ground.phase }, { on := 2, ground := Ground.phase }, { on := 3, ground := Ground.phase }, { on := 4, ground := Ground.textOnly Departure.lateStores }, { on := 5, ground := Ground.textOnly Departure.lateStores }, { on := 6, ground := Ground.textOnly Departure.lateStores }, { on := 7, ground := Ground.textOnly Departure.lateStores }], guard := none }) rfl (fun K hK => ?_) AllReadyH.nil
                  obtain ⟨Y3, sU, h1, h2, gU⟩ := PY2.out.tp.tre.tell (y := .slice (some ⟨g2, 0, none⟩) n c2) rfl
                  have SV3 : Hid (RvAt Y3 (w.heap.size + 1) 31 (trc h (.slice (some ⟨g2, 0, none⟩) n c2)) ∧ SlAt Y3 (some ⟨g2, 0, none⟩) n c2 (l.set k q) ∧ Below w.heap.size w Y3) := ⟨h1, SL2.out.keptT PY2.out.tp.tre.out gU, h2⟩
                  have HE3 : Hid (HY w Y3 Z h g o n c q m mb) := PY2.out.kept gU
                  have OT1_2_3 : Hid (RvAt Y3 X0.heap.size 48 RO.cs) := OT1_2.out.keptBut gU (by have := OT1_2.out.apart PY2.out.tp.tre.out (by decide); simpa using this)
                  clear h1 h2 gU
                  go_simp
                  clear sU hHeld
                  refine hK.out _ _ HE3.out (fun hHeld => ?_)
                  clear hK K
                  try simp only [Act.put, List.setIfInBounds_toArray, List.set_cons_zero, List.set_cons_succ]
                  refine wpAnyH_take (i := 9) (oi := { dst := some 5, op := Op.assign (Operand.tmp 127), type := 33, pos := "ref.go:60", after := #[{ on := 7, ground := Ground.data }, { on := 8, ground := Ground.chain }, { on := 0, ground := Ground.phase }, { on := 1, ground := Ground.phase }, { on := 2, ground := Ground.phase }, { on := 3, ground := Ground.phase }, { on := 4, ground := Ground.phase }, { on := 5, ground := Ground.phase }, { on := 6, ground := Ground.phase }, { on := 7, ground := Ground.phase }, { on := 8, ground := Ground.phase }], guard := none }) (v := ?_) rfl (by kernel_rfl) (by kernel_rfl) (by kernel_rfl) (fun _ _ _ h => h) (Or.inl ⟨by rfl, ?_⟩) hHeld ?_
                  rotate_left
                  · intro W_ hSw_
                    have xt := hSw_.1.tld; have xp := hSw_.2.1.pld; have xm := hSw_.2.2.mld; clear hSw_
                    first | (go_simp; done) | (go_simp; with_reducible rfl)
                  rotate_left
                  try simp only [Act.put, List.setIfInBounds_toArray, List.set_cons_zero, List.set_cons_succ]
                  refine wpAnyH_take (i := 10) (oi := { dst := some 6, op := Op.assign (Operand.const (Value.bool true)), type := 4, pos := "ref.go:60", after := #[{ on := 9, ground := Ground.chain }, { on := 0, ground := Ground.phase }, { on := 1, ground := Ground.phase }, { on := 2, ground := Ground.phase }, { on := 3, ground := Ground.phase }, { on := 4, ground := Ground.phase }, { on := 5, ground := Ground.phase }, { on := 6, ground := Ground.phase }, { on := 7, ground := Ground.phase }, { on := 8, ground := Ground.phase }, { on := 9, ground := Ground.phase }], guard := none }) (v := ?_) rfl (by kernel_rfl) (by kernel_rfl) (by kernel_rfl) (fun _ _ _ h => h) (Or.inl ⟨by rfl, ?_⟩) hHeld ?_
                  rotate_left
                  · intro W_ hSw_
                    have xt := hSw_.1.tld; have xp := hSw_.2.1.pld; have xm := hSw_.2.2.mld; clear hSw_
                    first | (go_simp; done) | (go_simp; with_reducible rfl)
                  rotate_left
                  try simp only [Act.put, List.setIfInBounds_toArray, List.set_cons_zero, List.set_cons_succ]
                  refine wpAnyH_done (by kernel_rfl) ?_ _
                  refine NoPanic.normal ?_
                  clear hHeld
                  go_wp2
                  refine bodyPost_ret (results_tob Try.results9 _ _ _ _ _ rfl SV3.out.1) rfl ?_
                  exact ⟨some ⟨g2, 0, none⟩, c2, _, rfl, by rw [← HQ.out] at SV3; exact SV3.out.2.1, ⟨_, rfl, by rw [← HRO2.out] at OT1_2_3; exact OT1_2_3.out⟩, SV3.out.2.2⟩
      · have EC : ptxC h p = 0 := by unfold ptxC; simp [HN.out, HM.out, H22.out, H28.out, H2.out, H11.out]
        have E1 : OO = none := by rw [← EO.out]; exact ptxO_no (by rw [HP.out]; exact EC)
        have E2 : UU = none := by rw [← EU.out]; exact ptxU_no (c := 0) (by rw [HP.out]; exact EC) (by decide)
        subst E1
        subst E2
        clear EC EO EU
        have c75 := P0.out.pv.num (j := 75) (k := .i64) rfl
        rw [HN.out] at c75
        have c22 := P0.out.pv.bit (j := 22) rfl
        rw [H22.out] at c22
        have c28 := P0.out.pv.bit (j := 28) rfl
        rw [H28.out] at c28
        have c66 := P0.out.pv.num (j := 66) (k := .u8) rfl
        rw [HM.out] at c66
        have c2 := P0.out.pv.bit (j := 2) rfl
        rw [H2.out] at c2
        have c11 := P0.out.pv.bit (j := 11) rfl
        rw [H11.out] at c11
        have c64 := P0.out.pv.num (j := 64) (k := .u8) rfl
        have t5 := P0.out.tre.var.tnum (j := 5) (k := .u8) rfl
        clear HN HM H22 H28 H2 H11
        have lt9 := P0.out.tre.var.tld
        obtain ⟨U, sU, h1, h2, gU⟩ := P0.out.tre.tell (y := .slice (some ⟨g, o, none⟩) n c) rfl
        have G : Hid (RvAt U (w.heap.size + 1) 31 (trc h (.slice (some ⟨g, o, none⟩) n c)) ∧ SlAt U (some ⟨g, o, none⟩) n c l ∧ OutAt U (.slice none 0 0) none ∧ Below w.heap.size w U) := ⟨h1, P0.out.sl.keptT P0.out.tre.out gU, rfl, h2⟩
        clear h1 h2 gU
        go_wp2
        refine bodyPost_ret (results_tob Try.results9 _ _ _ _ _ rfl G.out.1) rfl ?_
        exact ⟨some ⟨g, o, none⟩, c, .slice none 0 0, rfl, G.out.2⟩
  · have xN : (N == 1) = false := beq_eq_false_iff_ne.2 hN
    have yN : (N != 1) = true := by simp [hN]
    have EC : ptxC h p = 1 := by unfold ptxC; simp [HN.out, HM.out, H22.out, H28.out, H2.out, H11.out, hN]
    have E1 : OO = some (l.set k (waiP (begP p))) := by rw [← EO.out, ptxO_yes (c := 1) (by rw [HP.out]; exact EC) (by decide), HP.out]; rfl
    have E2 : UU = none := by rw [← EU.out]; exact ptxU_no (c := 1) (by rw [HP.out]; exact EC) (by decide)
    subst E1
    subst E2
    clear EC EO EU
    have c75 := P0.out.pv.num (j := 75) (k := .i64) rfl
    rw [HN.out] at c75
    have c22 := P0.out.pv.bit (j := 22) rfl
    rw [H22.out] at c22
    have c28 := P0.out.pv.bit (j := 28) rfl
    rw [H28.out] at c28
    have c66 := P0.out.pv.num (j := 66) (k := .u8) rfl
    rw [HM.out] at c66
    have c2 := P0.out.pv.bit (j := 2) rfl
    rw [H2.out] at c2
    have c11 := P0.out.pv.bit (j := 11) rfl
    rw [H11.out] at c11
    have c64 := P0.out.pv.num (j := 64) (k := .u8) rfl
    have t5 := P0.out.tre.var.tnum (j := 5) (k := .u8) rfl
    clear hN
    clear HN HM H22 H28 H2 H11
    obtain ⟨V1, e1, S1⟩ := P0.out.setB kb11 true
    obtain ⟨V2, e2, S2⟩ := S1.setU ku64 u0
    obtain ⟨V3, e3, S3⟩ := S2.setN kn75 wi1
    obtain ⟨V4, e4, S4⟩ := S3.setU ku66 (x := WN) HW8.out
    have T9 : Hid (TP w V4 w.heap.size (w.heap.size + 1) Z h g o n c l (waiP (begP p))) := by rw [← beg_ref, HWN.out]; exact S4
    clear S1 S2 S3 S4
    have lt9 := T9.out.tre.var.tld
    have lq9 := T9.out.pv.pld
    go_wp2_with fail
    refine (with_any h (some ⟨g, o, none⟩) n c l k (waiP (begP p)) V4 T9.out.sl HL.out.2.1 HL.out.2.2).mono ?_
    rintro _ X2 ⟨g2, c2, rfl, f2, s2, b2⟩
    obtain ⟨U, sU, h1, h2, gU⟩ := (T9.out.tre.below b2).tell (y := .slice (some ⟨g2, 0, none⟩) n c2) rfl
    have G : Hid (RvAt U (w.heap.size + 1) 31 (trc h (.slice (some ⟨g2, 0, none⟩) n c2)) ∧ SlAt U (some ⟨g2, 0, none⟩) n c2 (l.set k (waiP (begP p))) ∧ OutAt U (.slice none 0 0) none ∧ Below w.heap.size w U) := ⟨h1, s2.keptT (T9.out.tre.below b2).out gU, rfl, h2⟩
    clear h1 h2 gU s2 b2 f2
    go_wp2
    refine bodyPost_ret (results_tob Try.results9 _ _ _ _ _ rfl G.out.1) rfl ?_
    exact ⟨some ⟨g2, 0, none⟩, c2, .slice none 0 0, rfl, G.out.2⟩
set_option maxHeartbeats 2000000 in
theorem rptx_out (h : Hd) (a : Option Addr) (n c : Nat) (l : List Pt) (i : Int) (w : World) (hs : SlAt w a n c l) (hn : n ≤ 1000) (hi : ¬ (0 ≤ i ∧ i < n)) :
    Calls Try.prog 9 #[.agg (trc h (.slice a n c)), .int .i64 i] w fun r w' => TOs w h n l none none r w' := by
  obtain ⟨W, hW, r0, r1, bW, zW⟩ := two_t w h (.slice a n c)
  have l0 := r0.tld
  have H : Hid (TS w W w.heap.size (w.heap.size + 1) h (.slice a n c) ∧ SlAt W a n c l) := ⟨⟨r0, r1, bW, by omega⟩, hs.below bW⟩
  have T : Hid _ := has_out (h := h) (a := a) (c := c) (w := W) hn hi
  clear hs r0 r1 bW zW hi
  go_enter Try.func9, Try.ntmps9
  go_wp2_with fail
  refine Calls.mono T.out ?_
  rintro _ V ⟨rfl, bV⟩
  have lV := (H.out.1.below bV).var.tld
  obtain ⟨U, sU, h1, h2, gU⟩ := (H.out.1.below bV).tell (y := .slice a n c) rfl
  have G : Hid (RvAt U (w.heap.size + 1) 31 (trc h (.slice a n c)) ∧ SlAt U a n c l ∧ OutAt U (.slice none 0 0) none ∧ Below w.heap.size w U) := ⟨h1, (H.out.2.below bV).keptT (H.out.1.below bV).out gU, rfl, h2⟩
  clear h1 h2 gU bV l0 T
  go_wp2
  refine bodyPost_ret (results_tob Try.results9 _ _ _ _ _ rfl G.out.1) rfl ?_
  exact ⟨a, c, .slice none 0 0, rfl, G.out.2⟩
theorem rptx_any (h : Hd) (a : Option Addr) (n c : Nat) (l : List Pt) (i : Int) (w : World) (hs : SlAt w a n c l) (hn : n ≤ 1000) :
    Calls Try.prog 9 #[.agg (trc h (.slice a n c)), .int .i64 i] w fun r w' => TOs w h n l (ptxI h l i) (ptxV h l i) r w' := by
  by_cases hi : 0 ≤ i ∧ i < (n : Int)
  · obtain ⟨k, rfl⟩ : ∃ k : Nat, i = (k : Int) := ⟨i.toNat, by omega⟩
    rw [ptxI_in (by rw [hs.len]; omega), ptxV_in (by rw [hs.len]; omega)]
    exact rptx_in h a n c l k w hs hn (by omega)
  · rw [ptxI_out (by rw [hs.len]; exact hi), ptxV_out (by rw [hs.len]; exact hi)]
    exact rptx_out h a n c l i w hs hn hi
end Go.Proofs.Ytllmadgonobdnaa
