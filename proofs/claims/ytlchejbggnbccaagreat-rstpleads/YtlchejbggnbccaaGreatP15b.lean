/-
  The definition: a step of a port's transmission: the walk of Ptx, for every tree. And what follows from it here.
-/
import Derived.Test.YtlchejbggnbccaaGreatPbb
import Derived.Test.YtlchejbggnbccaaGreatP15a
import Derived.Deep.Cut
import Derived.Deep.CutRange
namespace Go.Proofs.YtlchejbggnbccaaGreat
set_option linter.unusedVariables false
set_option linter.unusedSimpArgs false
set_option maxRecDepth 4000
section
namespace S15
open Go.RowKit
abbrev z_gn : Oper := { dst := some 120, op := Op.load 39 (Operand.tmp 2), type := 39, pos := "ref.go:60", after := #[], guard := none }
abbrev z_gm : Oper := { dst := some 121, op := Op.move (Operand.tmp 1), type := 3, pos := "ref.go:60", after := #[], guard := none }
abbrev z_gl : Oper := { dst := some 122, op := Op.load 74 (Operand.tmp 7), type := 74, pos := "ref.go:60", after := #[], guard := none }
abbrev z_gk : Oper := { dst := some 124, op := Op.move (Operand.tmp 1), type := 3, pos := "ref.go:60", after := #[{ on := 8, ground := Ground.gcOnly Departure.lateStores }], guard := none }
abbrev z_gj : Oper := { dst := some 125, op := Op.load 46 (Operand.tmp 9), type := 46, pos := "ref.go:60", after := #[{ on := 8, ground := Ground.gcOnly Departure.lateStores }], guard := none }
abbrev z_gi : Oper := { dst := some 126, op := Op.build 91 #[(0, Operand.tmp 124), (1, Operand.tmp 125)], type := 91, pos := "ref.go:60", after := #[{ on := 4, ground := Ground.data }, { on := 5, ground := Ground.data }, { on := 8, ground := Ground.gcOnly Departure.lateStores }], guard := none }
abbrev z_bs : Oper := { dst := some 123, op := Op.call { callee := Callee.value (Operand.func 60), args := #[Operand.tmp 120, Operand.tmp 121, Operand.tmp 122], argTypes := #[39, 3, 74] }, type := 39, pos := "ref.go:60", after := #[{ on := 0, ground := Ground.data }, { on := 1, ground := Ground.data }, { on := 2, ground := Ground.data }], guard := none }
abbrev u_m : Oper := { dst := some 127, op := Op.buildSlice 49 1 #[(0, Operand.tmp 126)], type := 49, pos := "ref.go:60", after := #[{ on := 6, ground := Ground.data }, { on := 8, ground := Ground.gcOnly Departure.lateStores }], guard := none }
abbrev u_l : Oper := { dst := none, op := Op.store 39 (Operand.tmp 4) (Operand.tmp 123), type := 0, pos := "ref.go:60", after := #[{ on := 3, ground := Ground.data }, { on := 3, ground := Ground.chain }, { on := 0, ground := Ground.phase }, { on := 1, ground := Ground.phase }, { on := 2, ground := Ground.phase }, { on := 3, ground := Ground.phase }, { on := 4, ground := Ground.textOnly Departure.lateStores }, { on := 5, ground := Ground.textOnly Departure.lateStores }, { on := 6, ground := Ground.textOnly Departure.lateStores }, { on := 7, ground := Ground.textOnly Departure.lateStores }], guard := none }
abbrev u_k : Oper := { dst := some 5, op := Op.assign (Operand.tmp 127), type := 49, pos := "ref.go:60", after := #[{ on := 7, ground := Ground.data }, { on := 8, ground := Ground.chain }, { on := 0, ground := Ground.phase }, { on := 1, ground := Ground.phase }, { on := 2, ground := Ground.phase }, { on := 3, ground := Ground.phase }, { on := 4, ground := Ground.phase }, { on := 5, ground := Ground.phase }, { on := 6, ground := Ground.phase }, { on := 7, ground := Ground.phase }, { on := 8, ground := Ground.phase }], guard := none }
abbrev v_i : Oper := { dst := some 6, op := Op.assign (Operand.const (Value.bool true)), type := 4, pos := "ref.go:60", after := #[{ on := 9, ground := Ground.chain }, { on := 0, ground := Ground.phase }, { on := 1, ground := Ground.phase }, { on := 2, ground := Ground.phase }, { on := 3, ground := Ground.phase }, { on := 4, ground := Ground.phase }, { on := 5, ground := Ground.phase }, { on := 6, ground := Ground.phase }, { on := 7, ground := Ground.phase }, { on := 8, ground := Ground.phase }, { on := 9, ground := Ground.phase }], guard := none }
attribute [local go_sem ↓] ldP stP stB stU stW ldT stT st32 alP alM ldM stM bdOs bsOs
attribute [local go_sem] z_l z_D
theorem _root_.Go.Proofs.YtlchejbggnbccaaGreat.TP.setN {w W : World} {t d z g o n c j : Nat} {h : Hd} {l : List Pt} {p : Pt} (s : TP w W t d z h g o n c l p) (hk : kdP[j]? = some (some .i64)) {x : Int} (hx : (Lit.int .i64 x).wf = true) : ∃ V, (stS 72 (.pointer (some ⟨z, j, none⟩)) (.int .i64 x)).run Tryz.prog W = .ok () V ∧ TP w V t d z h g o n c l (p.setN j hk x hx) := by
 obtain ⟨V, e, h1, g⟩ := s.pv.rset (v := .int .i64 x) infoS (List.getElem?_eq_some_iff.1 hk).1 rfl (z_z hk hx)
 exact ⟨V, e, s.go h1 g⟩
theorem z_aX (p : Pt) : (((p.setB 11 kb11 true).setU 64 0).setN 75 kn75 1 wi1).setU 66 (waiN p) = waiP (begP p) := by
 unfold waiP
 rw [show waiN (begP p) = waiN p from z_cD (by unfold begP; rw [z_iL _ _ _ (by decide), Row.setU_nm _ (by decide), z_G _ _ _ (by decide)])]
 rfl
theorem z_iX (p : Pt) : (p.setB 11 kb11 (remB p)).setU 66 (waiN p) = waiP (remP p) := by
 unfold waiP
 rw [show waiN (remP p) = waiN p from z_cD (by unfold remP; rw [z_G _ _ _ (by decide)])]
 rfl
theorem z_iH (p : Pt) (h : p.nm 64 < 255) : (((p.setB 11 kb11 false).setU 66 (waiN p)).setU 64 (p.nm 64 + 1)).setB 26 kb26 (ackB p) = waiP (sntP p) := by
 have hw := wf8 (z_cE p)
 have hu := p.u8 (j := 64) rfl
 have hv : (Lit.int .u8 (p.nm 64 + 1)).wf = true := wf8 ⟨by omega, by omega⟩
 unfold waiP
 rw [show waiN (sntP p) = waiN p from z_cD (by unfold sntP; rw [z_G _ _ _ (by decide), Row.setU_nm _ (by decide), z_G _ _ _ (by decide)])]
 refine Row.same fun j hj => ?_
 unfold sntP
 rw [Row.setB_get, Row.setU_get _ ku64 hv, Row.setU_get _ ku66 hw, Row.setB_get, Row.setU_get _ ku66 hw, Row.setB_get, Row.setU_get _ ku64 hv, Row.setB_get]
 by_cases h26 : j = 26
 ·subst h26; simp
 ·by_cases h64 : j = 64
  ·subst h64; simp
  ·by_cases h66 : j = 66
   ·subst h66; simp
   ·simp [h26, h64, h66]
structure PY (w W : World) (Z : Nat) (h : Hd) (g o n c : Nat) (l : List Pt) (q : Pt) (m : Mg) (mb : Nat) : Prop where
 tp : TP w W w.heap.size (w.heap.size + 1) Z h g o n c l q
 mv : RvAt W mb 46 m.cs
theorem PY.below {w W V : World} {h : Hd} {Z g o n c mb : Nat} {l : List Pt} {q : Pt} {m : Mg} (s : PY w W Z h g o n c l q m mb) (k : Below W.heap.size W V) : PY w V Z h g o n c l q m mb := ⟨s.tp.below k, s.mv.below k⟩
theorem PY.go {w W V : World} {h : Hd} {Z g o n c mb : Nat} {l : List Pt} {q r : Pt} {m : Mg} (s : PY w W Z h g o n c l q m mb) (t : RvAt V Z 74 r.cs) (k : W.grownBy V (some Z)) : PY w V Z h g o n c l r m mb :=
 ⟨s.tp.go t k, s.mv.keptBut k (by have := s.mv.apart s.tp.pv (by decide); simpa using this)⟩
theorem PY.setB {w W : World} {h : Hd} {Z g o n c mb j : Nat} {l : List Pt} {q : Pt} {m : Mg} (s : PY w W Z h g o n c l q m mb) (hk : kdP[j]? = some none) (x : Bool) : ∃ V, (stS 4 (.pointer (some ⟨Z, j, none⟩)) (.bool x)).run Tryz.prog W = .ok () V ∧ PY w V Z h g o n c l (q.setB j hk x) m mb := by
 obtain ⟨V, e, h1, g⟩ := s.tp.pv.setB hk x
 exact ⟨V, e, s.go h1 g⟩
theorem PY.setU {w W : World} {h : Hd} {Z g o n c mb j : Nat} {l : List Pt} {q : Pt} {m : Mg} (s : PY w W Z h g o n c l q m mb) (hk : kdP[j]? = some (some .u8)) {x : Int} (hx : 0 ≤ x ∧ x ≤ 255) : ∃ V, (stS 5 (.pointer (some ⟨Z, j, none⟩)) (.int .u8 x)).run Tryz.prog W = .ok () V ∧ PY w V Z h g o n c l (q.setU j x) m mb := by
 obtain ⟨V, e, h1, g⟩ := s.tp.pv.setU hk hx
 exact ⟨V, e, s.go h1 g⟩
abbrev HY (w W : World) (Z : Nat) (h : Hd) (g o n c : Nat) (q : Pt) (m : Mg) (mb : Nat) : Prop := RvAt W w.heap.size 39 (trc h (.slice (some ⟨g, o, none⟩) n c)) ∧ RvAt W Z 74 q.cs ∧ RvAt W mb 46 m.cs
theorem PY.held {w W : World} {h : Hd} {Z g o n c mb : Nat} {l : List Pt} {q : Pt} {m : Mg} (s : PY w W Z h g o n c l q m mb) : HY w W Z h g o n c q m mb := ⟨s.tp.tre.var, s.tp.pv, s.mv⟩
theorem PY.kept {w W V : World} {h : Hd} {Z g o n c mb : Nat} {l : List Pt} {q : Pt} {m : Mg} (s : PY w W Z h g o n c l q m mb) (k : W.grownBy V (some (w.heap.size + 1))) : HY w V Z h g o n c q m mb :=
 ⟨s.tp.tre.var.keptBut k (by simp), s.tp.pv.keptBut k (by have := s.tp.pv.apart s.tp.tre.out (by decide); simpa using this), s.mv.keptBut k (by have := s.mv.apart s.tp.tre.out (by decide); simpa using this)⟩
set_option maxHeartbeats 16000000 in
theorem z_iQ (h : Hd) (a : Option Addr) (n c : Nat) (l : List Pt) (k : Nat) (w : World) (hs : SlAt w a n c l) (hn : n ≤ 1000) (hk : k < n) :
  Calls Tryz.prog 84 #[.agg (trc h (.slice a n c)), .int .i64 (k : Int)] w fun r w' => TOs w h n l (ptxO h l k) (ptxU h l k) r w' := by
 obtain ⟨OO, hOO⟩ : ∃ z, ptxO h l k = z := ⟨_, rfl⟩
 obtain ⟨UU, hUU⟩ : ∃ z, ptxU h l k = z := ⟨_, rfl⟩
 rw [hOO, hUU]
 have EO : Hid (ptxO h l k = OO) := hOO
 have EU : Hid (ptxU h l k = UU) := hUU
 clear hOO hUU
 obtain ⟨g, o, rfl⟩ := hs.some' (by omega)
 have HL : Hid (l.length = n ∧ n ≤ 1000 ∧ k < n) := ⟨hs.len, hn, hk⟩
 have hkl : k < l.length := by rw [HL.out.1]; exact hk
 have GL : g < w.heap.size := hs.low (by omega)
 have hin0 : (0 : Int) ≤ (k : Int) := by omega
 have hin1 : (k : Int) < (n : Int) := by omega
 obtain ⟨W, hW, r0, r1, bW, zW⟩ := z_w w h (.slice (some ⟨g, o, none⟩) n c)
 have l0 := r0.tld
 have H : Hid (TS w W w.heap.size (w.heap.size + 1) h (.slice (some ⟨g, o, none⟩) n c) ∧ SlAt W (some ⟨g, o, none⟩) n c l) := ⟨⟨r0, r1, bW, by omega⟩, hs.below bW⟩
 have T : Hid _ := v_x (h := h) (a := some ⟨g, o, none⟩) (c := c) (w := W) hn hk
 obtain ⟨p, hp⟩ : ∃ p, gtP l k = p := ⟨_, rfl⟩
 have HP : Hid (gtP l k = p) := hp
 have HK : Hid (k < l.length) := hkl
 clear hs hn hk r0 r1 bW zW hp hkl
 go_enter Tryz.func84, Tryz.ntmps84
 go_wp2_with fail
 refine Calls.mono T.out ?_
 rintro _ V ⟨rfl, bV⟩
 have K : Hid (TS w V w.heap.size (w.heap.size + 1) h (.slice (some ⟨g, o, none⟩) n c) ∧ SlAt V (some ⟨g, o, none⟩) n c l) := ⟨H.out.1.below bV, H.out.2.below bV⟩
 have c16 := K.out.1.var.t16
 have lp := K.out.2.ld (z_k HK.out)
 rw [HP.out] at lp
 obtain ⟨W0, s0, q0, b0, z0⟩ := y_b V p
 obtain ⟨Z, hZ⟩ : ∃ Z, V.heap.size = Z := ⟨_, rfl⟩
 have P0 : Hid (TP w W0 w.heap.size (w.heap.size + 1) Z h g o n c l p) := ⟨K.out.1.below b0, K.out.2.below b0, by rw [← hZ]; exact q0, by rw [← hZ]; exact K.out.1.bel.size, GL⟩
 rw [hZ] at s0
 clear bV T l0 hW H q0 b0 z0 GL K
 obtain ⟨N, hN⟩ : ∃ z, p.nm 75 = z := ⟨_, rfl⟩
 obtain ⟨M, hM⟩ : ∃ z, p.nm 66 = z := ⟨_, rfl⟩
 have HN : Hid (p.nm 75 = N) := hN
 have HM : Hid (p.nm 66 = M) := hM
 obtain ⟨b22, h22⟩ : ∃ z, p.bt 22 = z := ⟨_, rfl⟩
 have H22 : Hid (p.bt 22 = b22) := h22
 obtain ⟨b28, h28⟩ : ∃ z, p.bt 28 = z := ⟨_, rfl⟩
 have H28 : Hid (p.bt 28 = b28) := h28
 obtain ⟨b2, h2⟩ : ∃ z, p.bt 2 = z := ⟨_, rfl⟩
 have H2 : Hid (p.bt 2 = b2) := h2
 obtain ⟨b11, h11⟩ : ∃ z, p.bt 11 = z := ⟨_, rfl⟩
 have H11 : Hid (p.bt 11 = b11) := h11
 clear hN hM h22 h28 h2 h11
 have c42 := P0.out.pv.num (j := 42) (k := .u8) rfl
 obtain ⟨WN, hWN⟩ : ∃ z, waiN p = z := ⟨_, rfl⟩
 have HWN : Hid (waiN p = WN) := hWN
 have HW8 : Hid (0 ≤ WN ∧ WN ≤ 255) := by rw [← hWN]; exact z_cE p
 obtain ⟨D, hD⟩ : ∃ z, p.nm 42 = z := ⟨_, rfl⟩
 have hm : (if D < 1 then 1 else D) = WN := by
  have := p.u8 (j := 42) rfl
  rw [← hWN, ← hD]
  unfold waiN
  split <;> split <;> omega
 rw [hD] at c42
 clear hWN hD
 by_cases hN : N = 1
 ·subst hN
  cases b22
  ·have EC : ptxC h p = 0 := by unfold ptxC; simp [HN.out, HM.out, H22.out, H28.out, H2.out, H11.out]
   have E1 : OO = none := by rw [← EO.out]; exact y_R (by rw [HP.out]; exact EC)
   have E2 : UU = none := by rw [← EU.out]; exact z_P (c := 0) (by rw [HP.out]; exact EC) (by decide)
   subst E1
   subst E2
   clear EC EO EU
   have c75 := P0.out.pv.num (j := 75) (k := .i64) rfl
   rw [HN.out] at c75
   have c22 := P0.out.pv.bit (j := 22) rfl
   rw [H22.out] at c22
   have c28 := P0.out.pv.bit (j := 28) rfl
   rw [H28.out] at c28
   have c66 := P0.out.pv.num (j := 66) (k := .u8) rfl
   rw [HM.out] at c66
   have c2 := P0.out.pv.bit (j := 2) rfl
   rw [H2.out] at c2
   have c11 := P0.out.pv.bit (j := 11) rfl
   rw [H11.out] at c11
   have c64 := P0.out.pv.num (j := 64) (k := .u8) rfl
   have t5 := P0.out.tre.var.tnum (j := 5) (k := .u8) rfl
   clear HN HM H22 H28 H2 H11
   have lt9 := P0.out.tre.var.tld
   obtain ⟨U, sU, h1, h2, gU⟩ := P0.out.tre.tell (y := .slice (some ⟨g, o, none⟩) n c) rfl
   have G : Hid (RvAt U (w.heap.size + 1) 39 (trc h (.slice (some ⟨g, o, none⟩) n c)) ∧ SlAt U (some ⟨g, o, none⟩) n c l ∧ OutAt U (.slice none 0 0) none ∧ Below w.heap.size w U) := ⟨h1, P0.out.sl.keptT P0.out.tre.out gU, rfl, h2⟩
   clear h1 h2 gU
   go_wp2
   refine bodyPost_ret (z_p Tryz.results84 _ _ _ _ _ rfl G.out.1) rfl ?_
   exact ⟨some ⟨g, o, none⟩, c, .slice none 0 0, rfl, G.out.2⟩
  ·cases b28
   ·by_cases hM : M = 0
    ·subst hM
     have EC : ptxC h p = 2 := by unfold ptxC; simp [HN.out, HM.out, H22.out, H28.out, H2.out, H11.out]
     have E1 : OO = some (l.set k (waiP (remP p))) := by rw [← EO.out, x_v (c := 2) (by rw [HP.out]; exact EC) (by decide), HP.out]; rfl
     have E2 : UU = none := by rw [← EU.out]; exact z_P (c := 2) (by rw [HP.out]; exact EC) (by decide)
     subst E1
     subst E2
     clear EC EO EU
     have c75 := P0.out.pv.num (j := 75) (k := .i64) rfl
     rw [HN.out] at c75
     have c22 := P0.out.pv.bit (j := 22) rfl
     rw [H22.out] at c22
     have c28 := P0.out.pv.bit (j := 28) rfl
     rw [H28.out] at c28
     have c66 := P0.out.pv.num (j := 66) (k := .u8) rfl
     rw [HM.out] at c66
     have c2 := P0.out.pv.bit (j := 2) rfl
     rw [H2.out] at c2
     have c11 := P0.out.pv.bit (j := 11) rfl
     rw [H11.out] at c11
     have c64 := P0.out.pv.num (j := 64) (k := .u8) rfl
     have t5 := P0.out.tre.var.tnum (j := 5) (k := .u8) rfl
     have c30 := P0.out.pv.num (j := 30) (k := .i64) rfl
     have c71 := P0.out.pv.num (j := 71) (k := .u8) rfl
     obtain ⟨V1, e1, S1⟩ := P0.out.setB kb11 (remB p)
     obtain ⟨V2, e2, S2⟩ := S1.setU ku66 (x := WN) HW8.out
     have T9 : Hid (TP w V2 w.heap.size (w.heap.size + 1) Z h g o n c l (waiP (remP p))) := by rw [← z_iX, HWN.out]; exact S2
     clear S1 S2
     obtain ⟨N30, hN30⟩ : ∃ z, p.nm 30 = z := ⟨_, rfl⟩
     obtain ⟨M71, hM71⟩ : ∃ z, p.nm 71 = z := ⟨_, rfl⟩
     have H30 : Hid (p.nm 30 = N30) := hN30
     have H71 : Hid (p.nm 71 = M71) := hM71
     rw [hN30] at c30
     rw [hM71] at c71
     clear hN30 hM71
     go_upto_region 11 with fail
     go_cut [] from 50 to 67 (fun wx => wx = V1)
     case first =>
      cases b11
      ·by_cases h4 : N30 = 4
       ·subst h4
        have eb : remB p = true := by unfold remB; rw [H11.out, H30.out]; rfl
        rw [eb] at e1
        clear eb
        go_wp2_with fail
        go_meet
        exact rfl
       ·have x4 : (N30 == 4) = false := beq_eq_false_iff_ne.2 h4
        by_cases h3 : N30 = 3
        ·subst h3
         by_cases h0 : M71 = 0
         ·subst h0
          have eb : remB p = false := by unfold remB; rw [H11.out, H30.out, H71.out]; rfl
          rw [eb] at e1
          clear eb h4
          go_wp2_with fail
          go_meet
          exact rfl
         ·have x0 : (M71 == 0) = false := beq_eq_false_iff_ne.2 h0
          have y0 : (M71 != 0) = true := by simp [h0]
          have eb : remB p = true := by unfold remB; rw [H11.out, H30.out, H71.out, x0]; rfl
          rw [eb] at e1
          clear eb h4 h0
          go_wp2_with fail
          go_meet
          exact rfl
        ·have x3 : (N30 == 3) = false := beq_eq_false_iff_ne.2 h3
         have eb : remB p = false := by unfold remB; rw [H11.out, H30.out, H71.out, x4, x3]; rfl
         rw [eb] at e1
         clear eb h4 h3
         go_wp2_with fail
         go_meet
         exact rfl
      ·have eb : remB p = true := by unfold remB; rw [H11.out]; rfl
       rw [eb] at e1
       clear eb
       go_wp2_with fail
       go_meet
       exact rfl
     case rest =>
      subst hcut
      clear e1 c75 c22 c28 c66 c2 c11 c64 t5 c30 c71 H30 H71
      clear HN HM H22 H28 H2 H11
      have lt9 := T9.out.tre.var.tld
      have lq9 := T9.out.pv.pld
      go_wp2_with fail
      refine (z_o h (some ⟨g, o, none⟩) n c l k (waiP (remP p)) V2 T9.out.sl HL.out.2.1 HL.out.2.2).mono ?_
      rintro _ X2 ⟨g2, c2, rfl, f2, s2, b2⟩
      obtain ⟨U, sU, h1, h2, gU⟩ := (T9.out.tre.below b2).tell (y := .slice (some ⟨g2, 0, none⟩) n c2) rfl
      have G : Hid (RvAt U (w.heap.size + 1) 39 (trc h (.slice (some ⟨g2, 0, none⟩) n c2)) ∧ SlAt U (some ⟨g2, 0, none⟩) n c2 (l.set k (waiP (remP p))) ∧ OutAt U (.slice none 0 0) none ∧ Below w.heap.size w U) := ⟨h1, s2.keptT (T9.out.tre.below b2).out gU, rfl, h2⟩
      clear h1 h2 gU s2 b2 f2
      go_wp2
      refine bodyPost_ret (z_p Tryz.results84 _ _ _ _ _ rfl G.out.1) rfl ?_
      exact ⟨some ⟨g2, 0, none⟩, c2, .slice none 0 0, rfl, G.out.2⟩
    ·have xM : (M == 0) = false := beq_eq_false_iff_ne.2 hM
     have c75 := P0.out.pv.num (j := 75) (k := .i64) rfl
     rw [HN.out] at c75
     have c22 := P0.out.pv.bit (j := 22) rfl
     rw [H22.out] at c22
     have c28 := P0.out.pv.bit (j := 28) rfl
     rw [H28.out] at c28
     have c66 := P0.out.pv.num (j := 66) (k := .u8) rfl
     rw [HM.out] at c66
     have c2 := P0.out.pv.bit (j := 2) rfl
     rw [H2.out] at c2
     have c11 := P0.out.pv.bit (j := 11) rfl
     rw [H11.out] at c11
     have c64 := P0.out.pv.num (j := 64) (k := .u8) rfl
     have t5 := P0.out.tre.var.tnum (j := 5) (k := .u8) rfl
     obtain ⟨B14, h14⟩ : ∃ z, (b2 && (b11 && (decide (p.nm 64 < h.nm 5) && voiB p))) = z := ⟨_, rfl⟩
     have H14 : Hid ((b2 && (b11 && (decide (p.nm 64 < h.nm 5) && voiB p))) = B14) := h14
     have c30 := P0.out.pv.num (j := 30) (k := .i64) rfl
     have c23 := P0.out.pv.bit (j := 23) rfl
     clear h14
     go_upto_region 14 with fail
     go_cut [74] from 75 to 101 (fun v wx => v = .bool B14 ∧ wx = W0)
     case first =>
      cases b2
      ·have e14 : B14 = false := by rw [← H14.out]; simp []
       clear H14
       subst e14
       go_wp2_with fail
       go_meet
       exact ⟨rfl, rfl⟩
      ·cases b11
       ·have e14 : B14 = false := by rw [← H14.out]; simp []
        clear H14
        subst e14
        go_wp2_with fail
        go_meet
        exact ⟨rfl, rfl⟩
       ·by_cases hT : p.nm 64 < h.nm 5
        ·cases h23 : p.bt 23
         ·rw [h23] at c23
          by_cases h3 : p.nm 30 = 3
          ·rw [h3] at c30
           have hv : voiB p = true := by unfold voiB; rw [h3]; simp
           have e14 : B14 = true := by rw [← H14.out]; simp [hT, hv]
           clear H14
           subst e14
           clear hv h3 h23
           go_wp2_with fail
           go_meet
           exact ⟨rfl, rfl⟩
          ·have x3 : (p.nm 30 == 3) = false := beq_eq_false_iff_ne.2 h3
           by_cases h4 : p.nm 30 = 4
           ·rw [h4] at c30
            have hv : voiB p = true := by unfold voiB; rw [h4]; simp
            have e14 : B14 = true := by rw [← H14.out]; simp [hT, hv]
            clear H14
            subst e14
            clear hv h3 h23 h4
            go_wp2_with fail
            go_meet
            exact ⟨rfl, rfl⟩
           ·have x4 : (p.nm 30 == 4) = false := beq_eq_false_iff_ne.2 h4
            have hv : voiB p = false := by unfold voiB; rw [h23, x3, x4]; rfl
            have e14 : B14 = false := by rw [← H14.out]; simp [hv]
            clear H14
            subst e14
            clear hv h3 h23 h4
            go_wp2_with fail
            go_meet
            exact ⟨rfl, rfl⟩
         ·rw [h23] at c23
          have hv : voiB p = true := by unfold voiB; rw [h23]; rfl
          have e14 : B14 = true := by rw [← H14.out]; simp [hT, hv]
          clear H14
          subst e14
          clear hv h23
          go_wp2_with fail
          go_meet
          exact ⟨rfl, rfl⟩
        ·have e14 : B14 = false := by rw [← H14.out]; simp [hT]
         clear H14
         subst e14
         go_wp2_with fail
         go_meet
         exact ⟨rfl, rfl⟩
     case rest =>
      obtain ⟨rfl, hwc⟩ := hcut
      subst hwc
      cases B14
      ·have EC : ptxC h p = 0 := by
        unfold ptxC
        rw [if_pos HN.out, if_pos ⟨H22.out, H28.out⟩, if_neg (by rw [HM.out]; exact hM), if_neg]
        rintro ⟨q1, q2, q3, q4⟩
        have := H14.out
        rw [← H2.out, ← H11.out, q1, q2, q4, decide_eq_true q3] at this
        cases this
       have E1 : OO = none := by rw [← EO.out]; exact y_R (by rw [HP.out]; exact EC)
       have E2 : UU = none := by rw [← EU.out]; exact z_P (c := 0) (by rw [HP.out]; exact EC) (by decide)
       subst E1
       subst E2
       clear EC EO EU H14 hM xM
       clear HN HM H22 H28 H2 H11
       have lt9 := P0.out.tre.var.tld
       obtain ⟨U, sU, h1, h2, gU⟩ := P0.out.tre.tell (y := .slice (some ⟨g, o, none⟩) n c) rfl
       have G : Hid (RvAt U (w.heap.size + 1) 39 (trc h (.slice (some ⟨g, o, none⟩) n c)) ∧ SlAt U (some ⟨g, o, none⟩) n c l ∧ OutAt U (.slice none 0 0) none ∧ Below w.heap.size w U) := ⟨h1, P0.out.sl.keptT P0.out.tre.out gU, rfl, h2⟩
       clear h1 h2 gU
       go_wp2
       refine bodyPost_ret (z_p Tryz.results84 _ _ _ _ _ rfl G.out.1) rfl ?_
       exact ⟨some ⟨g, o, none⟩, c, .slice none 0 0, rfl, G.out.2⟩
      ·have EC : ptxC h p = 3 := by
        have := H14.out
        simp only [Bool.and_eq_true, decide_eq_true_eq] at this
        unfold ptxC
        rw [if_pos HN.out, if_pos ⟨H22.out, H28.out⟩, if_neg (by rw [HM.out]; exact hM), if_pos ⟨by rw [H2.out]; exact this.1, by rw [H11.out]; exact this.2.1, this.2.2.1, this.2.2.2⟩]
       have H64 : Hid (p.nm 64 < 255) := by
        have q := H14.out
        simp only [Bool.and_eq_true, decide_eq_true_eq] at q
        have := h.u8 (j := 5) rfl
        have := q.2.2.1
        exact (by omega : p.nm 64 < 255)
       have E1 : OO = some (l.set k (waiP (sntP p))) := by rw [← EO.out, x_v (c := 3) (by rw [HP.out]; exact EC) (by decide), HP.out]; rfl
       have E2 : UU = some (outI (k : Int) (msgP p)) := by rw [← EU.out, z_bv (by rw [HP.out]; exact EC), HP.out]
       subst E1
       subst E2
       clear EC EO EU
       have HWK : Hid ((Lit.int .i64 (k : Int)).wf = true) := wi_k (by have := HL.out; omega)
       have lt1 := P0.out.tre.var.tld
       clear c75 c22 c28 c66 c2 c11 c64 t5 c30 c23 hM xM H14
       clear HN HM H22 H28 H2 H11
       go_wp2_with fail
       refine (z_iU h (some ⟨g, o, none⟩) n c l k wc P0.out.sl HL.out.2.1 HL.out.2.2).mono ?_
       rintro _ W2 ⟨rfl, b2_⟩
       rw [HP.out]
       obtain ⟨m, hm⟩ : ∃ z, msgP p = z := ⟨_, rfl⟩
       have hmk : m.nm 0 = kinN p := by rw [← hm]; exact w_P p
       have HMM : Hid (msgP p = m) := hm
       rw [hm]
       obtain ⟨W3, s3, r3, b3, z3⟩ := x_I W2 m
       obtain ⟨mb, hmb⟩ : ∃ z, W2.heap.size = z := ⟨_, rfl⟩
       rw [hmb] at s3 r3
       have Y1 : PY w W3 Z h g o n c l p m mb := ⟨(P0.out.below b2_).below b3, r3⟩
       obtain ⟨V1, e1, S1⟩ := Y1.setB kb11 false
       obtain ⟨V2, e2, S2⟩ := S1.setU ku66 (x := WN) HW8.out
       have c64 := S2.tp.pv.num (j := 64) (k := .u8) rfl
       rw [Row.setU_nm _ (by decide), z_G _ _ _ (by decide)] at c64
       have hu := p.u8 (j := 64) rfl
       have h64 := H64.out
       obtain ⟨V3, e3, S3⟩ := S2.setU ku64 (x := p.nm 64 + 1) ⟨by omega, by omega⟩
       have hw : IntKind.u8.wrap (p.nm 64 + 1) = p.nm 64 + 1 := IntWalk.u8_in _ (by omega)
       have c26 := S3.tp.pv.bit (j := 26) rfl
       rw [z_ax _ (by decide), z_ax _ (by decide), z_N _ _ _ (by decide)] at c26
       have cm := S3.mv.num (j := 0) (k := .i64) rfl
       rw [hmk] at cm
       obtain ⟨V4, e4, S4⟩ := S3.setB kb26 (ackB p)
       obtain ⟨q, hq⟩ : ∃ z, ((((p.setB 11 kb11 false).setU 66 WN).setU 64 (p.nm 64 + 1)).setB 26 kb26 (ackB p)) = z := ⟨_, rfl⟩
       have S4 : PY w V4 Z h g o n c l (((((p.setB 11 kb11 false).setU 66 WN).setU 64 (p.nm 64 + 1)).setB 26 kb26 (ackB p))) m mb := S4
       rw [hq] at S4
       have HQ : Hid (waiP (sntP p) = q) := by rw [← hq, ← HWN.out]; exact (z_iH p H64.out).symm
       have YY : Hid (PY w V4 Z h g o n c l q m mb) := S4
       clear S1 S2 S3 S4 Y1 b2_ b3 r3 z3 hq hu h64 lt1 hm P0
       obtain ⟨TT, hTT⟩ : ∃ z, p.nm 64 = z := ⟨_, rfl⟩
       obtain ⟨b26, h26⟩ : ∃ z, p.bt 26 = z := ⟨_, rfl⟩
       obtain ⟨K, hK⟩ : ∃ z, kinN p = z := ⟨_, rfl⟩
       rw [hTT] at c64 e3 hw
       rw [h26] at c26
       rw [hK] at cm
       have H26 : Hid (p.bt 26 = b26) := h26
       have HKK : Hid (kinN p = K) := hK
       clear hTT h26 hK hmk
       go_upto_region 18 with fail
       go_cut [] from 112 to 119 (fun wx => wx = V4)
       case first =>
        cases b26
        ·have eb : ackB p = false := by unfold ackB; rw [H26.out]; rfl
         rw [eb] at e4
         clear eb
         go_wp2_with fail
         go_meet
         exact rfl
        ·by_cases h2 : K = 2
         ·subst h2
          have eb : ackB p = true := by unfold ackB; rw [H26.out, HKK.out]; rfl
          rw [eb] at e4
          clear eb
          go_wp2_with fail
          go_meet
          exact rfl
         ·have x2 : (K == 2) = false := beq_eq_false_iff_ne.2 h2
          have eb : ackB p = false := by unfold ackB; rw [H26.out, HKK.out, x2]; rfl
          rw [eb] at e4
          clear eb h2
          go_wp2_with fail
          go_meet
          exact rfl
       case rest =>
        subst hcut
        clear e1 e2 e3 e4 c64 hw c26 cm H26 HKK s3 hmb
        go_upto_region 19 with fail
        obtain ⟨RO, hRO⟩ : ∃ z, outR (k : Int) HWK.out m = z := ⟨_, rfl⟩
        have HRO : Hid (outR (k : Int) HWK.out m = RO) := hRO
        have HRO2 : Hid (outI (k : Int) (msgP p) = RO) := by rw [← hRO, HMM.out]; exact z_em HWK.out _
        clear hRO
        have qO : ∀ q : World, (bdO #[(0, .int .i64 (k : Int)), (1, .agg m.cs)]).run Tryz.prog q = .ok (.agg RO.cs) q := fun q => by rw [← HRO.out]; exact z_is _ _ _ q
        obtain ⟨X0, hX0⟩ : ∃ X0, World.drew wc = X0 := ⟨_, rfl⟩
        have PY0 : Hid (PY w X0 Z h g o n c l q m mb) := by rw [← hX0]; exact YY.out.below (Below.refl _ _).drew
        clear YY
        refine wp_region_noPanic ?_
        refine wp_region_held_drew (S := fun w' => HY w w' Z h g o n c q m mb) (by kernel_rfl) (by rw [hX0]; exact PY0.out.held) (fun hHeld => ?_)
        rw [hX0] at hHeld ⊢
        clear hX0
        refine wpAnyH_take (i := 0) (oi := z_gn) (v := ?_) rfl (by kernel_rfl) (by kernel_rfl) (by kernel_rfl) (fun _ _ _ h => h) (Or.inl ⟨by rfl, ?_⟩) hHeld ?_
        rotate_left
        ·intro W_ hSw_
         have xt := hSw_.1.tld; have xp := hSw_.2.1.pld; have xm := hSw_.2.2.mld; clear hSw_
         go_simp<;>with_reducible rfl
        rotate_left
        refine wpAnyH_take (i := 1) (oi := z_gm) (v := ?_) rfl (by kernel_rfl) (by kernel_rfl) (by kernel_rfl) (fun _ _ _ h => h) (Or.inl ⟨by rfl, ?_⟩) hHeld ?_
        rotate_left
        ·intro W_ hSw_
         have xt := hSw_.1.tld; have xp := hSw_.2.1.pld; have xm := hSw_.2.2.mld; clear hSw_
         go_simp<;>with_reducible rfl
        rotate_left
        refine wpAnyH_take (i := 2) (oi := z_gl) (v := ?_) rfl (by kernel_rfl) (by kernel_rfl) (by kernel_rfl) (fun _ _ _ h => h) (Or.inl ⟨by rfl, ?_⟩) hHeld ?_
        rotate_left
        ·intro W_ hSw_
         have xt := hSw_.1.tld; have xp := hSw_.2.1.pld; have xm := hSw_.2.2.mld; clear hSw_
         go_simp<;>with_reducible rfl
        rotate_left
        refine wpAnyH_take (i := 4) (oi := z_gk) (v := ?_) rfl (by kernel_rfl) (by kernel_rfl) (by kernel_rfl) (fun _ _ _ h => h) (Or.inl ⟨by rfl, ?_⟩) hHeld ?_
        rotate_left
        ·intro W_ hSw_
         have xt := hSw_.1.tld; have xp := hSw_.2.1.pld; have xm := hSw_.2.2.mld; clear hSw_
         go_simp<;>with_reducible rfl
        rotate_left
        refine wpAnyH_take (i := 5) (oi := z_gj) (v := ?_) rfl (by kernel_rfl) (by kernel_rfl) (by kernel_rfl) (fun _ _ _ h => h) (Or.inl ⟨by rfl, ?_⟩) hHeld ?_
        rotate_left
        ·intro W_ hSw_
         have xt := hSw_.1.tld; have xp := hSw_.2.1.pld; have xm := hSw_.2.2.mld; clear hSw_
         go_simp<;>with_reducible rfl
        rotate_left
        refine wpAnyH_take (i := 6) (oi := z_gi) (v := ?_) rfl (by kernel_rfl) (by kernel_rfl) (by kernel_rfl) (fun _ _ _ h => h) (Or.inl ⟨by rfl, ?_⟩) hHeld ?_
        rotate_left
        ·intro W_ hSw_
         have xt := hSw_.1.tld; have xp := hSw_.2.1.pld; have xm := hSw_.2.2.mld; clear hSw_
         go_simp<;>with_reducible rfl
        rotate_left
        try simp only [Act.put, zA, zB, zC]
        refine wpAnyH_ready (rs := [3, 7]) (by kernel_rfl) (by simp) ?_
        refine (AllReadyH.cons (o := z_bs) rfl (fun K hK => ?_) (AllReadyH.cons (o := u_m) rfl (fun K hK => ?_) AllReadyH.nil))
        ·skip
         go_simp
         refine (z_o h (some ⟨g, o, none⟩) n c l k q X0 PY0.out.tp.sl HL.out.2.1 HL.out.2.2).mono ?_
         rintro _ Y1 ⟨g2, c2, rfl, f2, s2, b2⟩
         have SL1 : Hid (SlAt Y1 (some ⟨g2, 0, none⟩) n c2 (l.set k q)) := s2
         have PY1 : Hid (PY w Y1 Z h g o n c l q m mb) := PY0.out.below b2
         clear s2 b2 f2 hHeld
         refine hK.out _ _ PY1.out.held (fun hHeld => ?_)
         clear hK K
         try simp only [Act.put, zA, zB, zC]
         refine wpAnyH_ready (rs := [7, 8]) (by kernel_rfl) (by simp) ?_
         refine (AllReadyH.cons (o := u_m) rfl (fun K hK => ?_) (AllReadyH.cons (o := u_l) rfl (fun K hK => ?_) AllReadyH.nil))
         ·skip
          obtain ⟨Y2, hY, fY, bY⟩ := v_p Y1 RO.cs
          have qY := v_G (k : Int) HWK.out m Y1
          rw [HRO.out, hY] at qY
          have OT2 : Hid (RvAt Y2 Y1.heap.size 91 RO.cs) := fY
          have PY2 : Hid (PY w Y2 Z h g o n c l q m mb) := PY1.out.below bY
          have SL1_2 : Hid (SlAt Y2 (some ⟨g2, 0, none⟩) n c2 (l.set k q)) := SL1.out.below bY
          clear fY bY hY
          go_simp
          clear qY hHeld
          refine hK.out _ _ PY2.out.held (fun hHeld => ?_)
          clear hK K
          try simp only [Act.put, zA, zB, zC]
          refine wpAnyH_ready (rs := [8]) (by kernel_rfl) (by simp) ?_
          refine AllReadyH.cons (o := u_l) rfl (fun K hK => ?_) AllReadyH.nil
          obtain ⟨Y3, sU, h1, h2, gU⟩ := PY2.out.tp.tre.tell (y := .slice (some ⟨g2, 0, none⟩) n c2) rfl
          have SV3 : Hid (RvAt Y3 (w.heap.size + 1) 39 (trc h (.slice (some ⟨g2, 0, none⟩) n c2)) ∧ SlAt Y3 (some ⟨g2, 0, none⟩) n c2 (l.set k q) ∧ Below w.heap.size w Y3) := ⟨h1, SL1_2.out.keptT PY2.out.tp.tre.out gU, h2⟩
          have HE3 : Hid (HY w Y3 Z h g o n c q m mb) := PY2.out.kept gU
          have OT2_3 : Hid (RvAt Y3 Y1.heap.size 91 RO.cs) := OT2.out.keptBut gU (by have := OT2.out.apart PY2.out.tp.tre.out (by decide); simpa using this)
          clear h1 h2 gU
          go_simp
          clear sU hHeld
          refine hK.out _ _ HE3.out (fun hHeld => ?_)
          clear hK K
          refine wpAnyH_take (i := 9) (oi := u_k) (v := ?_) rfl (by kernel_rfl) (by kernel_rfl) (by kernel_rfl) (fun _ _ _ h => h) (Or.inl ⟨by rfl, ?_⟩) hHeld ?_
          rotate_left
          ·intro W_ hSw_
           have xt := hSw_.1.tld; have xp := hSw_.2.1.pld; have xm := hSw_.2.2.mld; clear hSw_
           go_simp<;>with_reducible rfl
          rotate_left
          refine wpAnyH_take (i := 10) (oi := v_i) (v := ?_) rfl (by kernel_rfl) (by kernel_rfl) (by kernel_rfl) (fun _ _ _ h => h) (Or.inl ⟨by rfl, ?_⟩) hHeld ?_
          rotate_left
          ·intro W_ hSw_
           have xt := hSw_.1.tld; have xp := hSw_.2.1.pld; have xm := hSw_.2.2.mld; clear hSw_
           go_simp<;>with_reducible rfl
          rotate_left
          try simp only [Act.put, zA, zB, zC]
          refine wpAnyH_done (by kernel_rfl) ?_ _
          refine NoPanic.normal ?_
          clear hHeld
          go_wp2
          refine bodyPost_ret (z_p Tryz.results84 _ _ _ _ _ rfl SV3.out.1) rfl ?_
          exact ⟨some ⟨g2, 0, none⟩, c2, _, rfl, by rw [← HQ.out] at SV3; exact SV3.out.2.1, ⟨_, rfl, by rw [← HRO2.out] at OT2_3; exact OT2_3.out⟩, SV3.out.2.2⟩
         ·skip
          obtain ⟨Y2, sU, h1, h2, gU⟩ := PY1.out.tp.tre.tell (y := .slice (some ⟨g2, 0, none⟩) n c2) rfl
          have SV2 : Hid (RvAt Y2 (w.heap.size + 1) 39 (trc h (.slice (some ⟨g2, 0, none⟩) n c2)) ∧ SlAt Y2 (some ⟨g2, 0, none⟩) n c2 (l.set k q) ∧ Below w.heap.size w Y2) := ⟨h1, SL1.out.keptT PY1.out.tp.tre.out gU, h2⟩
          have HE2 : Hid (HY w Y2 Z h g o n c q m mb) := PY1.out.kept gU
          clear h1 h2 gU
          go_simp
          clear sU hHeld
          refine hK.out _ _ HE2.out (fun hHeld => ?_)
          clear hK K
          try simp only [Act.put, zA, zB, zC]
          refine wpAnyH_ready (rs := [7]) (by kernel_rfl) (by simp) ?_
          refine AllReadyH.cons (o := u_m) rfl (fun K hK => ?_) AllReadyH.nil
          obtain ⟨Y3, hY, fY, bY⟩ := v_p Y2 RO.cs
          have qY := v_G (k : Int) HWK.out m Y2
          rw [HRO.out, hY] at qY
          have OT3 : Hid (RvAt Y3 Y2.heap.size 91 RO.cs) := fY
          have SV3 : Hid (RvAt Y3 (w.heap.size + 1) 39 (trc h (.slice (some ⟨g2, 0, none⟩) n c2)) ∧ SlAt Y3 (some ⟨g2, 0, none⟩) n c2 (l.set k q) ∧ Below w.heap.size w Y3) := ⟨SV2.out.1.below bY, SV2.out.2.1.below bY, z_a SV2.out.2.2 bY⟩
          have HE3 : Hid (HY w Y3 Z h g o n c q m mb) := ⟨HE2.out.1.below bY, HE2.out.2.1.below bY, HE2.out.2.2.below bY⟩
          clear fY bY hY
          go_simp
          clear qY hHeld
          refine hK.out _ _ HE3.out (fun hHeld => ?_)
          clear hK K
          refine wpAnyH_take (i := 9) (oi := u_k) (v := ?_) rfl (by kernel_rfl) (by kernel_rfl) (by kernel_rfl) (fun _ _ _ h => h) (Or.inl ⟨by rfl, ?_⟩) hHeld ?_
          rotate_left
          ·intro W_ hSw_
           have xt := hSw_.1.tld; have xp := hSw_.2.1.pld; have xm := hSw_.2.2.mld; clear hSw_
           go_simp<;>with_reducible rfl
          rotate_left
          refine wpAnyH_take (i := 10) (oi := v_i) (v := ?_) rfl (by kernel_rfl) (by kernel_rfl) (by kernel_rfl) (fun _ _ _ h => h) (Or.inl ⟨by rfl, ?_⟩) hHeld ?_
          rotate_left
          ·intro W_ hSw_
           have xt := hSw_.1.tld; have xp := hSw_.2.1.pld; have xm := hSw_.2.2.mld; clear hSw_
           go_simp<;>with_reducible rfl
          rotate_left
          try simp only [Act.put, zA, zB, zC]
          refine wpAnyH_done (by kernel_rfl) ?_ _
          refine NoPanic.normal ?_
          clear hHeld
          go_wp2
          refine bodyPost_ret (z_p Tryz.results84 _ _ _ _ _ rfl SV3.out.1) rfl ?_
          exact ⟨some ⟨g2, 0, none⟩, c2, _, rfl, by rw [← HQ.out] at SV3; exact SV3.out.2.1, ⟨_, rfl, by rw [← HRO2.out] at OT3; exact OT3.out⟩, SV3.out.2.2⟩
        ·skip
         obtain ⟨Y1, hY, fY, bY⟩ := v_p X0 RO.cs
         have qY := v_G (k : Int) HWK.out m X0
         rw [HRO.out, hY] at qY
         have OT1 : Hid (RvAt Y1 X0.heap.size 91 RO.cs) := fY
         have PY1 : Hid (PY w Y1 Z h g o n c l q m mb) := PY0.out.below bY
         clear fY bY hY
         go_simp
         clear qY hHeld
         refine hK.out _ _ PY1.out.held (fun hHeld => ?_)
         clear hK K
         try simp only [Act.put, zA, zB, zC]
         refine wpAnyH_ready (rs := [3]) (by kernel_rfl) (by simp) ?_
         refine AllReadyH.cons (o := z_bs) rfl (fun K hK => ?_) AllReadyH.nil
         go_simp
         refine (z_o h (some ⟨g, o, none⟩) n c l k q Y1 PY1.out.tp.sl HL.out.2.1 HL.out.2.2).mono ?_
         rintro _ Y2 ⟨g2, c2, rfl, f2, s2, b2⟩
         have SL2 : Hid (SlAt Y2 (some ⟨g2, 0, none⟩) n c2 (l.set k q)) := s2
         have PY2 : Hid (PY w Y2 Z h g o n c l q m mb) := PY1.out.below b2
         have OT1_2 : Hid (RvAt Y2 X0.heap.size 91 RO.cs) := OT1.out.below b2
         clear s2 b2 f2 hHeld
         refine hK.out _ _ PY2.out.held (fun hHeld => ?_)
         clear hK K
         try simp only [Act.put, zA, zB, zC]
         refine wpAnyH_ready (rs := [8]) (by kernel_rfl) (by simp) ?_
         refine AllReadyH.cons (o := u_l) rfl (fun K hK => ?_) AllReadyH.nil
         obtain ⟨Y3, sU, h1, h2, gU⟩ := PY2.out.tp.tre.tell (y := .slice (some ⟨g2, 0, none⟩) n c2) rfl
         have SV3 : Hid (RvAt Y3 (w.heap.size + 1) 39 (trc h (.slice (some ⟨g2, 0, none⟩) n c2)) ∧ SlAt Y3 (some ⟨g2, 0, none⟩) n c2 (l.set k q) ∧ Below w.heap.size w Y3) := ⟨h1, SL2.out.keptT PY2.out.tp.tre.out gU, h2⟩
         have HE3 : Hid (HY w Y3 Z h g o n c q m mb) := PY2.out.kept gU
         have OT1_2_3 : Hid (RvAt Y3 X0.heap.size 91 RO.cs) := OT1_2.out.keptBut gU (by have := OT1_2.out.apart PY2.out.tp.tre.out (by decide); simpa using this)
         clear h1 h2 gU
         go_simp
         clear sU hHeld
         refine hK.out _ _ HE3.out (fun hHeld => ?_)
         clear hK K
         refine wpAnyH_take (i := 9) (oi := u_k) (v := ?_) rfl (by kernel_rfl) (by kernel_rfl) (by kernel_rfl) (fun _ _ _ h => h) (Or.inl ⟨by rfl, ?_⟩) hHeld ?_
         rotate_left
         ·intro W_ hSw_
          have xt := hSw_.1.tld; have xp := hSw_.2.1.pld; have xm := hSw_.2.2.mld; clear hSw_
          go_simp<;>with_reducible rfl
         rotate_left
         refine wpAnyH_take (i := 10) (oi := v_i) (v := ?_) rfl (by kernel_rfl) (by kernel_rfl) (by kernel_rfl) (fun _ _ _ h => h) (Or.inl ⟨by rfl, ?_⟩) hHeld ?_
         rotate_left
         ·intro W_ hSw_
          have xt := hSw_.1.tld; have xp := hSw_.2.1.pld; have xm := hSw_.2.2.mld; clear hSw_
          go_simp<;>with_reducible rfl
         rotate_left
         try simp only [Act.put, zA, zB, zC]
         refine wpAnyH_done (by kernel_rfl) ?_ _
         refine NoPanic.normal ?_
         clear hHeld
         go_wp2
         refine bodyPost_ret (z_p Tryz.results84 _ _ _ _ _ rfl SV3.out.1) rfl ?_
         exact ⟨some ⟨g2, 0, none⟩, c2, _, rfl, by rw [← HQ.out] at SV3; exact SV3.out.2.1, ⟨_, rfl, by rw [← HRO2.out] at OT1_2_3; exact OT1_2_3.out⟩, SV3.out.2.2⟩
   ·have EC : ptxC h p = 0 := by unfold ptxC; simp [HN.out, HM.out, H22.out, H28.out, H2.out, H11.out]
    have E1 : OO = none := by rw [← EO.out]; exact y_R (by rw [HP.out]; exact EC)
    have E2 : UU = none := by rw [← EU.out]; exact z_P (c := 0) (by rw [HP.out]; exact EC) (by decide)
    subst E1
    subst E2
    clear EC EO EU
    have c75 := P0.out.pv.num (j := 75) (k := .i64) rfl
    rw [HN.out] at c75
    have c22 := P0.out.pv.bit (j := 22) rfl
    rw [H22.out] at c22
    have c28 := P0.out.pv.bit (j := 28) rfl
    rw [H28.out] at c28
    have c66 := P0.out.pv.num (j := 66) (k := .u8) rfl
    rw [HM.out] at c66
    have c2 := P0.out.pv.bit (j := 2) rfl
    rw [H2.out] at c2
    have c11 := P0.out.pv.bit (j := 11) rfl
    rw [H11.out] at c11
    have c64 := P0.out.pv.num (j := 64) (k := .u8) rfl
    have t5 := P0.out.tre.var.tnum (j := 5) (k := .u8) rfl
    clear HN HM H22 H28 H2 H11
    have lt9 := P0.out.tre.var.tld
    obtain ⟨U, sU, h1, h2, gU⟩ := P0.out.tre.tell (y := .slice (some ⟨g, o, none⟩) n c) rfl
    have G : Hid (RvAt U (w.heap.size + 1) 39 (trc h (.slice (some ⟨g, o, none⟩) n c)) ∧ SlAt U (some ⟨g, o, none⟩) n c l ∧ OutAt U (.slice none 0 0) none ∧ Below w.heap.size w U) := ⟨h1, P0.out.sl.keptT P0.out.tre.out gU, rfl, h2⟩
    clear h1 h2 gU
    go_wp2
    refine bodyPost_ret (z_p Tryz.results84 _ _ _ _ _ rfl G.out.1) rfl ?_
    exact ⟨some ⟨g, o, none⟩, c, .slice none 0 0, rfl, G.out.2⟩
 ·have xN : (N == 1) = false := beq_eq_false_iff_ne.2 hN
  have yN : (N != 1) = true := by simp [hN]
  have EC : ptxC h p = 1 := by unfold ptxC; simp [HN.out, HM.out, H22.out, H28.out, H2.out, H11.out, hN]
  have E1 : OO = some (l.set k (waiP (begP p))) := by rw [← EO.out, x_v (c := 1) (by rw [HP.out]; exact EC) (by decide), HP.out]; rfl
  have E2 : UU = none := by rw [← EU.out]; exact z_P (c := 1) (by rw [HP.out]; exact EC) (by decide)
  subst E1
  subst E2
  clear EC EO EU
  have c75 := P0.out.pv.num (j := 75) (k := .i64) rfl
  rw [HN.out] at c75
  have c22 := P0.out.pv.bit (j := 22) rfl
  rw [H22.out] at c22
  have c28 := P0.out.pv.bit (j := 28) rfl
  rw [H28.out] at c28
  have c66 := P0.out.pv.num (j := 66) (k := .u8) rfl
  rw [HM.out] at c66
  have c2 := P0.out.pv.bit (j := 2) rfl
  rw [H2.out] at c2
  have c11 := P0.out.pv.bit (j := 11) rfl
  rw [H11.out] at c11
  have c64 := P0.out.pv.num (j := 64) (k := .u8) rfl
  have t5 := P0.out.tre.var.tnum (j := 5) (k := .u8) rfl
  clear hN
  clear HN HM H22 H28 H2 H11
  obtain ⟨V1, e1, S1⟩ := P0.out.setB kb11 true
  obtain ⟨V2, e2, S2⟩ := S1.setU ku64 u0
  obtain ⟨V3, e3, S3⟩ := S2.setN kn75 wi1
  obtain ⟨V4, e4, S4⟩ := S3.setU ku66 (x := WN) HW8.out
  have T9 : Hid (TP w V4 w.heap.size (w.heap.size + 1) Z h g o n c l (waiP (begP p))) := by rw [← z_aX, HWN.out]; exact S4
  clear S1 S2 S3 S4
  have lt9 := T9.out.tre.var.tld
  have lq9 := T9.out.pv.pld
  go_wp2_with fail
  refine (z_o h (some ⟨g, o, none⟩) n c l k (waiP (begP p)) V4 T9.out.sl HL.out.2.1 HL.out.2.2).mono ?_
  rintro _ X2 ⟨g2, c2, rfl, f2, s2, b2⟩
  obtain ⟨U, sU, h1, h2, gU⟩ := (T9.out.tre.below b2).tell (y := .slice (some ⟨g2, 0, none⟩) n c2) rfl
  have G : Hid (RvAt U (w.heap.size + 1) 39 (trc h (.slice (some ⟨g2, 0, none⟩) n c2)) ∧ SlAt U (some ⟨g2, 0, none⟩) n c2 (l.set k (waiP (begP p))) ∧ OutAt U (.slice none 0 0) none ∧ Below w.heap.size w U) := ⟨h1, s2.keptT (T9.out.tre.below b2).out gU, rfl, h2⟩
  clear h1 h2 gU s2 b2 f2
  go_wp2
  refine bodyPost_ret (z_p Tryz.results84 _ _ _ _ _ rfl G.out.1) rfl ?_
  exact ⟨some ⟨g2, 0, none⟩, c2, .slice none 0 0, rfl, G.out.2⟩
end S15
end
section
namespace S15
open Go.RowKit
attribute [local go_sem ↓] ldP stP stB stU stW ldT stT st32
set_option maxHeartbeats 1000000 in
theorem z_fq : Chg 176 begP := by
 intro W g c i q l p hp hi hq
 have s0 := PQ.start hp hi hq
 obtain ⟨V1, e1, s1⟩ := s0.setB kb11 true
 obtain ⟨V2, e2, s2⟩ := s1.setU ku64 u0
 obtain ⟨V3, e3, s3⟩ := s2.setN infoS kn75 wi1
 have F : Hid (PAt V3 g c (l.set i (begP p)) ∧ W.grownBy V3 (some g)) := ⟨s3.pat, s3.gr⟩
 clear hp hi hq s0 s1 s2 s3
 go_enter Tryz.func176, Tryz.ntmps176
 go_wp2
 go_end0
 exact ⟨rfl, F.out.1, F.out.2⟩
set_option maxHeartbeats 1000000 in
theorem z_fp : Chg 217 chkP := by
 intro W g c i q l p hp hi hq
 have s0 := PQ.start hp hi hq
 obtain ⟨V1, e1, s1⟩ := s0.setB kb23 true
 obtain ⟨V2, e2, s2⟩ := s1.setU ku67 u3
 obtain ⟨V3, e3, s3⟩ := s2.setN infoS kn76 wi1
 have F : Hid (PAt V3 g c (l.set i (chkP p)) ∧ W.grownBy V3 (some g)) := ⟨s3.pat, s3.gr⟩
 clear hp hi hq s0 s1 s2 s3
 go_enter Tryz.func217, Tryz.ntmps217
 go_wp2
 go_end0
 exact ⟨rfl, F.out.1, F.out.2⟩
set_option maxHeartbeats 1000000 in
theorem z_fn : Chg 218 senP := by
 intro W g c i q l p hp hi hq
 have s0 := PQ.start hp hi hq
 obtain ⟨V1, e1, s1⟩ := s0.setB kb15 false
 obtain ⟨V2, e2, s2⟩ := s1.setB kb16 false
 obtain ⟨V3, e3, s3⟩ := s2.setN infoS kn76 wi3
 have F : Hid (PAt V3 g c (l.set i (senP p)) ∧ W.grownBy V3 (some g)) := ⟨s3.pat, s3.gr⟩
 clear hp hi hq s0 s1 s2 s3
 go_enter Tryz.func218, Tryz.ntmps218
 go_wp2
 go_end0
 exact ⟨rfl, F.out.1, F.out.2⟩
set_option maxHeartbeats 1000000 in
theorem z_hD : Chg 219 falP := by
 intro W g c i q l p hp hi hq
 have s0 := PQ.start hp hi hq
 obtain ⟨V1, e1, s1⟩ := s0.setB kb23 false
 obtain ⟨V2, e2, s2⟩ := s1.setU ku67 u3
 obtain ⟨V3, e3, s3⟩ := s2.setN infoS kn76 wi2
 have F : Hid (PAt V3 g c (l.set i (falP p)) ∧ W.grownBy V3 (some g)) := ⟨s3.pat, s3.gr⟩
 clear hp hi hq s0 s1 s2 s3
 go_enter Tryz.func219, Tryz.ntmps219
 go_wp2
 go_end0
 exact ⟨rfl, F.out.1, F.out.2⟩
set_option maxHeartbeats 1000000 in
theorem z_bU : Chg 177 waiP := by
 intro W g c i q l p hp hi hq
 have s0 := PQ.start hp hi hq
 have c42 := s0.num (j := 42) (k := .u8) rfl
 obtain ⟨V, e, s⟩ := s0.setU ku66 (z_cE p)
 have F : Hid (PAt V g c (l.set i (waiP p)) ∧ W.grownBy V (some g)) := ⟨s.pat, s.gr⟩
 have hu := p.u8 (j := 42) rfl
 clear hp hi hq s0 s
 by_cases h0 : p.nm 42 = 0
 ·have e0 : waiN p = 1 := by unfold waiN; rw [if_pos h0]
  rw [e0] at e
  rw [h0] at c42
  clear hu e0 h0
  go_enter Tryz.func177, Tryz.ntmps177
  go_wp2
  go_end0
  exact ⟨rfl, F.out.1, F.out.2⟩
 ·have e0 : waiN p = p.nm 42 := by unfold waiN; rw [if_neg h0]
  rw [e0] at e
  obtain ⟨N, hN⟩ : ∃ z, p.nm 42 = z := ⟨_, rfl⟩
  rw [hN] at e c42 hu h0
  have hm : ¬ N < 1 := by omega
  have hm2 : (if N < 1 then 1 else N) = N := if_neg hm
  have hm3 : 1 ≤ N := by omega
  clear hN e0 h0
  go_enter Tryz.func177, Tryz.ntmps177
  go_wp2
  go_end0
  exact ⟨rfl, F.out.1, F.out.2⟩
set_option maxHeartbeats 2000000 in
theorem z_ct : Chg 178 remP := by
 intro W g c i q l p hp hi hq
 have s0 := PQ.start hp hi hq
 have c11 := s0.bit (j := 11) rfl
 have c30 := s0.num (j := 30) (k := .i64) rfl
 have c71 := s0.num (j := 71) (k := .u8) rfl
 obtain ⟨V, e, s⟩ := s0.setB kb11 (remB p)
 have F : Hid (PAt V g c (l.set i (remP p)) ∧ W.grownBy V (some g)) := ⟨s.pat, s.gr⟩
 clear hp hi hq s0 s
 obtain ⟨b11, h11⟩ : ∃ z, p.bt 11 = z := ⟨_, rfl⟩
 obtain ⟨N, hN⟩ : ∃ z, p.nm 30 = z := ⟨_, rfl⟩
 obtain ⟨M, hM⟩ : ∃ z, p.nm 71 = z := ⟨_, rfl⟩
 have H11 : Hid (p.bt 11 = b11) := h11
 have H30 : Hid (p.nm 30 = N) := hN
 have H71 : Hid (p.nm 71 = M) := hM
 rw [h11] at c11
 rw [hN] at c30
 rw [hM] at c71
 clear h11 hN hM
 cases b11
 ·by_cases h4 : N = 4
  ·subst h4
   have eb : remB p = true := by unfold remB; rw [H11.out, H30.out]; rfl
   rw [eb] at e
   clear eb H11 H30 H71
   go_enter Tryz.func178, Tryz.ntmps178
   go_wp2
   go_end0
   exact ⟨rfl, F.out.1, F.out.2⟩
  ·have x4 : (N == 4) = false := beq_eq_false_iff_ne.2 h4
   by_cases h3 : N = 3
   ·subst h3
    by_cases h0 : M = 0
    ·subst h0
     clear h4
     have eb : remB p = false := by unfold remB; rw [H11.out, H30.out, H71.out]; rfl
     rw [eb] at e
     clear eb H11 H30 H71
     go_enter Tryz.func178, Tryz.ntmps178
     go_wp2
     go_end0
     exact ⟨rfl, F.out.1, F.out.2⟩
    ·have y0 : (M != 0) = true := by simp [h0]
     have x0 : (M == 0) = false := beq_eq_false_iff_ne.2 h0
     clear h4
     have eb : remB p = true := by unfold remB; rw [H11.out, H30.out, H71.out, x0]; rfl
     rw [eb] at e
     clear eb h0 H11 H30 H71
     go_enter Tryz.func178, Tryz.ntmps178
     go_wp2
     go_end0
     exact ⟨rfl, F.out.1, F.out.2⟩
   ·have x3 : (N == 3) = false := beq_eq_false_iff_ne.2 h3
    have eb : remB p = false := by unfold remB; rw [H11.out, H30.out, H71.out, x4, x3]; rfl
    rw [eb] at e
    clear eb h4 h3 H11 H30 H71
    go_enter Tryz.func178, Tryz.ntmps178
    go_wp2
    go_end0
    exact ⟨rfl, F.out.1, F.out.2⟩
 ·have eb : remB p = true := by unfold remB; rw [H11.out]; rfl
  rw [eb] at e
  clear eb H11 H30 H71
  go_enter Tryz.func178, Tryz.ntmps178
  go_wp2
  go_end0
  exact ⟨rfl, F.out.1, F.out.2⟩
set_option maxHeartbeats 2000000 in
theorem z_hz (W : World) (g c i q mb : Nat) (l : List Pt) (p : Pt) (m : Mg) (hp : PAt W g c l) (hi : l[i]? = some p) (hq : q = i * 77) (hm : RvAt W mb 46 m.cs) (hne : mb ≠ g) (hk : m.nm 0 = kinN p) (h64 : p.nm 64 < 255) :
  Calls Tryz.prog 181 #[.pointer (some ⟨g, q, none⟩), .pointer (some ⟨mb, 0, none⟩)] W fun r W' => r = .returned (.tuple #[]) ∧ PAt W' g c (l.set i (sntP p)) ∧ W.grownBy W' (some g) := by
 have s0 := PQ.start hp hi hq
 have hu := p.u8 (j := 64) rfl
 obtain ⟨V1, e1, s1⟩ := s0.setB kb11 false
 have c64 := s1.num (j := 64) (k := .u8) rfl
 rw [z_G _ _ _ (by decide)] at c64
 obtain ⟨V2, e2, s2⟩ := s1.setU ku64 (x := p.nm 64 + 1) ⟨by omega, by omega⟩
 have c26 := s2.bit (j := 26) rfl
 rw [z_ax _ (by decide), z_N _ _ _ (by decide)] at c26
 have cm := ((hm.keptBut (s2.gr) (by simpa using hne))).num (j := 0) (k := .i64) rfl
 rw [hk] at cm
 obtain ⟨V3, e3, s3⟩ := s2.setB kb26 (ackB p)
 have F : Hid (PAt V3 g c (l.set i (sntP p)) ∧ W.grownBy V3 (some g)) := ⟨s3.pat, s3.gr⟩
 have hw : IntKind.u8.wrap (p.nm 64 + 1) = p.nm 64 + 1 := IntWalk.u8_in _ (by omega)
 obtain ⟨T, hT⟩ : ∃ z, p.nm 64 = z := ⟨_, rfl⟩
 obtain ⟨b26, h26⟩ : ∃ z, p.bt 26 = z := ⟨_, rfl⟩
 obtain ⟨K, hK⟩ : ∃ z, kinN p = z := ⟨_, rfl⟩
 rw [hT] at c64 e2 hw
 rw [h26] at c26
 rw [hK] at cm
 have H26 : Hid (p.bt 26 = b26) := h26
 have HK : Hid (kinN p = K) := hK
 clear hp hi hq s0 s1 s2 s3 hm hne hk h64 hu hT h26 hK
 cases b26
 ·have eb : ackB p = false := by unfold ackB; rw [H26.out]; rfl
  rw [eb] at e3
  clear eb H26 HK
  go_enter Tryz.func181, Tryz.ntmps181
  go_wp2
  go_end0
  exact ⟨rfl, F.out.1, F.out.2⟩
 ·by_cases h2 : K = 2
  ·subst h2
   have eb : ackB p = true := by unfold ackB; rw [H26.out, HK.out]; rfl
   rw [eb] at e3
   clear eb H26 HK
   go_enter Tryz.func181, Tryz.ntmps181
   go_wp2
   go_end0
   exact ⟨rfl, F.out.1, F.out.2⟩
  ·have x2 : (K == 2) = false := beq_eq_false_iff_ne.2 h2
   have eb : ackB p = false := by unfold ackB; rw [H26.out, HK.out, x2]; rfl
   rw [eb] at e3
   clear eb H26 HK h2
   go_enter Tryz.func181, Tryz.ntmps181
   go_wp2
   go_end0
   exact ⟨rfl, F.out.1, F.out.2⟩
end S15
end
section
namespace S15
open Go.RowKit
attribute [local go_sem ↓] ldP stP stB stU stW ldT stT st32
theorem z_M (h : Hd) (a : Option Addr) (n c : Nat) (i : Int) (w : World) :
  Calls Tryz.prog 173 #[.agg (trc h (.slice a n c)), .int .i64 i] w fun r w' => r = .returned (.bool (decide (0 ≤ i) && decide (i < n))) ∧ Below w.heap.size w w' := by
 obtain ⟨W, hW, r0, bW, zW⟩ := y_S w h (.slice a n c)
 have c16 := r0.t16
 have F : Hid (Below w.heap.size w W) := bW
 clear r0 bW zW
 go_enter Tryz.func173, Tryz.ntmps173
 by_cases h1 : 0 ≤ i
 ·by_cases h2 : i < (n : Int)
  ·go_wp2
   go_ret
   exact ⟨by simp [h1, h2], F.out⟩
  ·go_wp2
   go_ret
   exact ⟨by simp [h1, h2], F.out⟩
 ·go_wp2
  go_ret
  exact ⟨by simp; omega, F.out⟩
theorem x_n {h : Hd} {a : Option Addr} {n c k : Nat} {w : World} (hk : k < n) :
  Calls Tryz.prog 173 #[.agg (trc h (.slice a n c)), .int .i64 (k : Int)] w fun r w' => r = .returned (.bool true) ∧ Below w.heap.size w w' :=
 (z_M h a n c k w).mono fun r w' ⟨hr, hb⟩ => ⟨by rw [hr]; simp; omega, hb⟩
abbrev fv (F : Nat) : Value := .func (.func F) #[] #[]
theorem z_eW : ∀ (x : Value) (V : World), (callFunc 176 #[x]).run Tryz.prog V = .ok (.enter 176 #[x]) V := fun x V => by go_simp
theorem z_cq : ∀ (x : Value) (V : World), (callFunc 178 #[x]).run Tryz.prog V = .ok (.enter 178 #[x]) V := fun x V => by go_simp
theorem z_eV : ∀ (x : Value) (V : World), (callFunc 217 #[x]).run Tryz.prog V = .ok (.enter 217 #[x]) V := fun x V => by go_simp
theorem z_eT : ∀ (x : Value) (V : World), (callFunc 218 #[x]).run Tryz.prog V = .ok (.enter 218 #[x]) V := fun x V => by go_simp
theorem z_af : ∀ (x : Value) (V : World), (callFunc 219 #[x]).run Tryz.prog V = .ok (.enter 219 #[x]) V := fun x V => by go_simp
abbrev FnAt (w : World) (b : Nat) (cs : Array Value) : Prop := RvAt w b 127 cs
set_option maxHeartbeats 4000000 in
theorem u_o (F : Nat) (f : Pt → Pt) (hF : Chg F f) (hc : ∀ (x : Value) (V : World), (callFunc F #[x]).run Tryz.prog V = .ok (.enter F #[x]) V) (h : Hd) (a : Option Addr) (n c : Nat) (l : List Pt) (k : Nat) (b : Nat) (w : World) (hs : SlAt w a n c l) (hn : n ≤ 1000) (hk : k < n) (hv : FnAt w b #[fv F]) :
  Calls Tryz.prog 175 #[.agg (trc h (.slice a n c)), .int .i64 (k : Int), .slice (some ⟨b, 0, none⟩) 1 1] w fun r w' => ∃ g c', r = .returned (.agg (trc h (.slice (some ⟨g, 0, none⟩) n c'))) ∧ w.heap.size ≤ g ∧ SlAt w' (some ⟨g, 0, none⟩) n c' (l.set k (f (gtP l k))) ∧ Below w.heap.size w w' := by
 obtain ⟨W, hW, r0, r1, bW, zW⟩ := z_w w h (.slice a n c)
 have l0 := r0.tld
 have H : Hid (SlAt W a n c l ∧ n ≤ 1000 ∧ l.length = n ∧ RvAt W w.heap.size 39 (trc h (.slice a n c)) ∧ RvAt W (w.heap.size + 1) 39 (trc zeroH (.slice none 0 0)) ∧ Below w.heap.size w W ∧ W.heap.size = w.heap.size + 2) := ⟨hs.below bW, hn, hs.len, r0, r1, bW, zW⟩
 have HV : Hid (FnAt W b #[fv F] ∧ b < w.heap.size) := ⟨hv.below bW, hv.lt⟩
 clear hs hn r0 r1 bW zW hv
 go_enter Tryz.func175, Tryz.ntmps175
 go_wp2_with fail
 refine (y_Y h a n c l W H.out.1 H.out.2.1).mono ?_
 rintro _ W2 ⟨v, rfl, o2, b2⟩
 have z2 := H.out.2.2.2.2.2.2
 have hl := H.out.2.2.1
 have hb := HV.out.2
 obtain ⟨W3, s3, r3, g3⟩ := (H.out.2.2.2.1.below b2).tst (g := h) (y := v) o2.one
 have o3 := o2.keptBut g3 (o2.apart (by omega))
 have q3 := (H.out.2.2.2.2.1.below b2).keptBut g3 (by simp)
 have v3 := (HV.out.1.below b2).keptBut g3 (by simp; omega)
 have b3 : Below w.heap.size w W3 := gro (z_a H.out.2.2.2.2.2.1 b2) g3 (Nat.le_refl _) (by have := b2.size; omega)
 have hin0 : (0 : Int) ≤ (k : Int) := by omega
 have hin1 : (k : Int) < (n : Int) := by omega
 clear b2 g3 o2 l0 hW
 rcases o3.pat with ⟨hv, hle⟩ | ⟨g, cc, hv, hg, hp⟩
 ·rw [hle] at hl; simp at hl; omega
 ·rw [hl] at hv
  subst hv
  have hkl : k < l.length := by rw [hl]; exact hk
  have K0 : Hid (RvAt W3 w.heap.size 39 (trc h (.slice (some ⟨g, 0, none⟩) n cc)) ∧ RvAt W3 (w.heap.size + 1) 39 (trc zeroH (.slice none 0 0)) ∧ Below w.heap.size w W3 ∧ PAt W3 g cc l ∧ FnAt W3 b #[fv F]) := ⟨r3, q3, b3, hp, v3⟩
  have KK : Hid (w.heap.size + 2 ≤ g ∧ b < w.heap.size ∧ l.length = n ∧ k < l.length) := ⟨by omega, hb, hl, hkl⟩
  clear hp hg r3 q3 b3 o3 hl z2 hk hkl hb v3
  have c16 := K0.out.1.t16
  have f0 := K0.out.2.2.2.2.cell 0 _ rfl
  go_wp2_with fail
  refine wp_loop_rounds 2 ?_
  rw [rounds_succ]
  go_wp2_with fail
  refine (hF W3 g cc k (k * 77) l (gtP l k) K0.out.2.2.2.1 (z_k KK.out.2.2.2) rfl).mono ?_
  rintro _ X0 ⟨rfl, p1, g1⟩
  have hg := KK.out.1
  have hb := KK.out.2.1
  have K1 : Hid (RvAt X0 w.heap.size 39 (trc h (.slice (some ⟨g, 0, none⟩) n cc)) ∧ RvAt X0 (w.heap.size + 1) 39 (trc zeroH (.slice none 0 0)) ∧ Below w.heap.size w X0 ∧ PAt X0 g cc (l.set k (f (gtP l k))) ∧ FnAt X0 b #[fv F]) := ⟨K0.out.1.keptBut g1 (by simp; omega), K0.out.2.1.keptBut g1 (by simp; omega), gro K0.out.2.2.1 g1 (by omega) K0.out.2.2.1.size, p1, K0.out.2.2.2.2.keptBut g1 (by simp; omega)⟩
  clear p1 g1 hg hb c16 f0
  have c16 := K1.out.1.t16
  have f0 := K1.out.2.2.2.2.cell 0 _ rfl
  have l9 := K1.out.1.tld
  have hg := KK.out.1
  obtain ⟨U, s6, r6, g6⟩ := K1.out.2.1.tst (g := h) (y := .slice (some ⟨g, 0, none⟩) n cc) rfl
  have p6 := (K1.out.2.2.2.1.keptBut g6 (by simp; omega)).sl
  rw [List.length_set, KK.out.2.2.1] at p6
  have G : Hid (RvAt U (w.heap.size + 1) 39 (trc h (.slice (some ⟨g, 0, none⟩) n cc)) ∧ SlAt U (some ⟨g, 0, none⟩) n cc (l.set k (f (gtP l k))) ∧ Below w.heap.size w U) := ⟨r6, p6, gro K1.out.2.2.1 g6 (by omega) K1.out.2.2.1.size⟩
  clear r6 p6 g6 hg c16
  go_wp2_with fail
  rw [rounds_succ]
  go_wp2
  refine bodyPost_ret (z_e rtT Tryz.results175 _ _ _ _ rfl G.out.1 (z_c _ _)) rfl ?_
  exact ⟨g, cc, rfl, by have := KK.out.1; omega, G.out.2⟩
set_option maxHeartbeats 4000000 in
theorem z_bu (F : Nat) (f : Pt → Pt) (hF : Chg F f) (hc : ∀ (x : Value) (V : World), (callFunc F #[x]).run Tryz.prog V = .ok (.enter F #[x]) V) (h : Hd) (a : Option Addr) (n c : Nat) (l : List Pt) (k : Nat) (b : Nat) (w : World) (hs : SlAt w a n c l) (hn : n ≤ 1000) (hk : k < n) (hv : FnAt w b #[fv F, fv 177]) :
  Calls Tryz.prog 175 #[.agg (trc h (.slice a n c)), .int .i64 (k : Int), .slice (some ⟨b, 0, none⟩) 2 2] w fun r w' => TRes w h n (l.set k (waiP (f (gtP l k)))) r w' := by
 obtain ⟨W, hW, r0, r1, bW, zW⟩ := z_w w h (.slice a n c)
 have l0 := r0.tld
 have H : Hid (SlAt W a n c l ∧ n ≤ 1000 ∧ l.length = n ∧ RvAt W w.heap.size 39 (trc h (.slice a n c)) ∧ RvAt W (w.heap.size + 1) 39 (trc zeroH (.slice none 0 0)) ∧ Below w.heap.size w W ∧ W.heap.size = w.heap.size + 2) := ⟨hs.below bW, hn, hs.len, r0, r1, bW, zW⟩
 have HV : Hid (FnAt W b #[fv F, fv 177] ∧ b < w.heap.size) := ⟨hv.below bW, hv.lt⟩
 clear hs hn r0 r1 bW zW hv
 go_enter Tryz.func175, Tryz.ntmps175
 go_wp2_with fail
 refine (y_Y h a n c l W H.out.1 H.out.2.1).mono ?_
 rintro _ W2 ⟨v, rfl, o2, b2⟩
 have z2 := H.out.2.2.2.2.2.2
 have hl := H.out.2.2.1
 have hb := HV.out.2
 obtain ⟨W3, s3, r3, g3⟩ := (H.out.2.2.2.1.below b2).tst (g := h) (y := v) o2.one
 have o3 := o2.keptBut g3 (o2.apart (by omega))
 have q3 := (H.out.2.2.2.2.1.below b2).keptBut g3 (by simp)
 have v3 := (HV.out.1.below b2).keptBut g3 (by simp; omega)
 have b3 : Below w.heap.size w W3 := gro (z_a H.out.2.2.2.2.2.1 b2) g3 (Nat.le_refl _) (by have := b2.size; omega)
 have hin0 : (0 : Int) ≤ (k : Int) := by omega
 have hin1 : (k : Int) < (n : Int) := by omega
 clear b2 g3 o2 l0 hW
 rcases o3.pat with ⟨hv, hle⟩ | ⟨g, cc, hv, hg, hp⟩
 ·rw [hle] at hl; simp at hl; omega
 ·rw [hl] at hv
  subst hv
  have hkl : k < l.length := by rw [hl]; exact hk
  have K0 : Hid (RvAt W3 w.heap.size 39 (trc h (.slice (some ⟨g, 0, none⟩) n cc)) ∧ RvAt W3 (w.heap.size + 1) 39 (trc zeroH (.slice none 0 0)) ∧ Below w.heap.size w W3 ∧ PAt W3 g cc l ∧ FnAt W3 b #[fv F, fv 177]) := ⟨r3, q3, b3, hp, v3⟩
  have KK : Hid (w.heap.size + 2 ≤ g ∧ b < w.heap.size ∧ l.length = n ∧ k < l.length) := ⟨by omega, hb, hl, hkl⟩
  clear hp hg r3 q3 b3 o3 hl z2 hk hkl hb v3
  have c16 := K0.out.1.t16
  have f0 := K0.out.2.2.2.2.cell 0 _ rfl
  have f1 := K0.out.2.2.2.2.cell 1 _ rfl
  go_wp2_with fail
  refine wp_loop_rounds 3 ?_
  rw [rounds_succ]
  go_wp2_with fail
  refine (hF W3 g cc k (k * 77) l (gtP l k) K0.out.2.2.2.1 (z_k KK.out.2.2.2) rfl).mono ?_
  rintro _ X0 ⟨rfl, p1, g1⟩
  have hg := KK.out.1
  have hb := KK.out.2.1
  have K1 : Hid (RvAt X0 w.heap.size 39 (trc h (.slice (some ⟨g, 0, none⟩) n cc)) ∧ RvAt X0 (w.heap.size + 1) 39 (trc zeroH (.slice none 0 0)) ∧ Below w.heap.size w X0 ∧ PAt X0 g cc (l.set k (f (gtP l k))) ∧ FnAt X0 b #[fv F, fv 177]) := ⟨K0.out.1.keptBut g1 (by simp; omega), K0.out.2.1.keptBut g1 (by simp; omega), gro K0.out.2.2.1 g1 (by omega) K0.out.2.2.1.size, p1, K0.out.2.2.2.2.keptBut g1 (by simp; omega)⟩
  clear p1 g1 hg hb c16 f0 f1
  have c16 := K1.out.1.t16
  have f0 := K1.out.2.2.2.2.cell 0 _ rfl
  have f1 := K1.out.2.2.2.2.cell 1 _ rfl
  go_wp2_with fail
  rw [rounds_succ]
  go_wp2_with fail
  refine (z_bU X0 g cc k (k * 77) (l.set k (f (gtP l k))) (f (gtP l k)) K1.out.2.2.2.1 (z_eF KK.out.2.2.2) rfl).mono ?_
  rintro _ X1 ⟨rfl, p2, g2⟩
  have hg := KK.out.1
  have hb := KK.out.2.1
  rw [List.set_set] at p2
  have K2 : Hid (RvAt X1 w.heap.size 39 (trc h (.slice (some ⟨g, 0, none⟩) n cc)) ∧ RvAt X1 (w.heap.size + 1) 39 (trc zeroH (.slice none 0 0)) ∧ Below w.heap.size w X1 ∧ PAt X1 g cc (l.set k (waiP (f (gtP l k)))) ∧ FnAt X1 b #[fv F, fv 177]) := ⟨K1.out.1.keptBut g2 (by simp; omega), K1.out.2.1.keptBut g2 (by simp; omega), gro K1.out.2.2.1 g2 (by omega) K1.out.2.2.1.size, p2, K1.out.2.2.2.2.keptBut g2 (by simp; omega)⟩
  clear p2 g2 hg hb c16 f0 f1
  have c16 := K2.out.1.t16
  have f0 := K2.out.2.2.2.2.cell 0 _ rfl
  have f1 := K2.out.2.2.2.2.cell 1 _ rfl
  have l9 := K2.out.1.tld
  have hg := KK.out.1
  obtain ⟨U, s6, r6, g6⟩ := K2.out.2.1.tst (g := h) (y := .slice (some ⟨g, 0, none⟩) n cc) rfl
  have p6 := (K2.out.2.2.2.1.keptBut g6 (by simp; omega)).sl
  rw [List.length_set, KK.out.2.2.1] at p6
  have G : Hid (RvAt U (w.heap.size + 1) 39 (trc h (.slice (some ⟨g, 0, none⟩) n cc)) ∧ SlAt U (some ⟨g, 0, none⟩) n cc (l.set k (waiP (f (gtP l k)))) ∧ Below w.heap.size w U) := ⟨r6, p6, gro K2.out.2.2.1 g6 (by omega) K2.out.2.2.1.size⟩
  clear r6 p6 g6 hg c16
  go_wp2_with fail
  rw [rounds_succ]
  go_wp2
  refine bodyPost_ret (z_e rtT Tryz.results175 _ _ _ _ rfl G.out.1 (z_c _ _)) rfl ?_
  exact ⟨some ⟨g, 0, none⟩, cc, rfl, G.out.2.1, G.out.2.2, Nw.of (by have := KK.out.1; omega)⟩
set_option maxHeartbeats 4000000 in
theorem v_k (h : Hd) (a : Option Addr) (n c : Nat) (l : List Pt) (k : Nat) (b : Nat) (w : World) (hs : SlAt w a n c l) (hn : n ≤ 1000) (hk : k < n) (mb : Nat) (hv : FnAt w b #[.func (.func 181) #[] #[.pointer (some ⟨mb, 0, none⟩)], fv 177]) (m : Mg) (hm : RvAt w mb 46 m.cs) (hmk : m.nm 0 = kinN (gtP l k)) (h64 : (gtP l k).nm 64 < 255) :
  Calls Tryz.prog 175 #[.agg (trc h (.slice a n c)), .int .i64 (k : Int), .slice (some ⟨b, 0, none⟩) 2 2] w fun r w' => TRes w h n (l.set k (waiP (sntP (gtP l k)))) r w' := by
 obtain ⟨W, hW, r0, r1, bW, zW⟩ := z_w w h (.slice a n c)
 have l0 := r0.tld
 have H : Hid (SlAt W a n c l ∧ n ≤ 1000 ∧ l.length = n ∧ RvAt W w.heap.size 39 (trc h (.slice a n c)) ∧ RvAt W (w.heap.size + 1) 39 (trc zeroH (.slice none 0 0)) ∧ Below w.heap.size w W ∧ W.heap.size = w.heap.size + 2) := ⟨hs.below bW, hn, hs.len, r0, r1, bW, zW⟩
 have HV : Hid (FnAt W b #[.func (.func 181) #[] #[.pointer (some ⟨mb, 0, none⟩)], fv 177] ∧ b < w.heap.size) := ⟨hv.below bW, hv.lt⟩
 have HM : Hid (RvAt W mb 46 m.cs ∧ mb < w.heap.size ∧ m.nm 0 = kinN (gtP l k) ∧ (gtP l k).nm 64 < 255) := ⟨hm.below bW, hm.lt, hmk, h64⟩
 clear hs hn r0 r1 bW zW hv hm hmk h64
 go_enter Tryz.func175, Tryz.ntmps175
 go_wp2_with fail
 refine (y_Y h a n c l W H.out.1 H.out.2.1).mono ?_
 rintro _ W2 ⟨v, rfl, o2, b2⟩
 have z2 := H.out.2.2.2.2.2.2
 have hl := H.out.2.2.1
 have hb := HV.out.2
 have hb2 := HM.out.2.1
 obtain ⟨W3, s3, r3, g3⟩ := (H.out.2.2.2.1.below b2).tst (g := h) (y := v) o2.one
 have o3 := o2.keptBut g3 (o2.apart (by omega))
 have q3 := (H.out.2.2.2.2.1.below b2).keptBut g3 (by simp)
 have v3 := (HV.out.1.below b2).keptBut g3 (by simp; omega)
 have m3 := (HM.out.1.below b2).keptBut g3 (by simp; omega)
 have b3 : Below w.heap.size w W3 := gro (z_a H.out.2.2.2.2.2.1 b2) g3 (Nat.le_refl _) (by have := b2.size; omega)
 have hin0 : (0 : Int) ≤ (k : Int) := by omega
 have hin1 : (k : Int) < (n : Int) := by omega
 clear b2 g3 o2 l0 hW
 rcases o3.pat with ⟨hv, hle⟩ | ⟨g, cc, hv, hg, hp⟩
 ·rw [hle] at hl; simp at hl; omega
 ·rw [hl] at hv
  subst hv
  have hkl : k < l.length := by rw [hl]; exact hk
  have K0 : Hid (RvAt W3 w.heap.size 39 (trc h (.slice (some ⟨g, 0, none⟩) n cc)) ∧ RvAt W3 (w.heap.size + 1) 39 (trc zeroH (.slice none 0 0)) ∧ Below w.heap.size w W3 ∧ PAt W3 g cc l ∧ FnAt W3 b #[.func (.func 181) #[] #[.pointer (some ⟨mb, 0, none⟩)], fv 177]) := ⟨r3, q3, b3, hp, v3⟩
  have KK : Hid (w.heap.size + 2 ≤ g ∧ b < w.heap.size ∧ l.length = n ∧ k < l.length ∧ mb < w.heap.size) := ⟨by omega, hb, hl, hkl, hb2⟩
  have M0 : Hid (RvAt W3 mb 46 m.cs) := m3
  clear hp hg r3 q3 b3 o3 hl z2 hk hkl hb v3 hb2 m3
  have c16 := K0.out.1.t16
  have f0 := K0.out.2.2.2.2.cell 0 _ rfl
  have f1 := K0.out.2.2.2.2.cell 1 _ rfl
  go_wp2_with fail
  refine wp_loop_rounds 3 ?_
  rw [rounds_succ]
  go_wp2_with fail
  refine (z_hz W3 g cc k (k * 77) mb l (gtP l k) m K0.out.2.2.2.1 (z_k KK.out.2.2.2.1) rfl M0.out (by have := KK.out.1; have := KK.out.2.2.2.2; omega) HM.out.2.2.1 HM.out.2.2.2).mono ?_
  rintro _ X0 ⟨rfl, p1, g1⟩
  have hg := KK.out.1
  have hb := KK.out.2.1
  have K1 : Hid (RvAt X0 w.heap.size 39 (trc h (.slice (some ⟨g, 0, none⟩) n cc)) ∧ RvAt X0 (w.heap.size + 1) 39 (trc zeroH (.slice none 0 0)) ∧ Below w.heap.size w X0 ∧ PAt X0 g cc (l.set k (sntP (gtP l k))) ∧ FnAt X0 b #[.func (.func 181) #[] #[.pointer (some ⟨mb, 0, none⟩)], fv 177]) := ⟨K0.out.1.keptBut g1 (by simp; omega), K0.out.2.1.keptBut g1 (by simp; omega), gro K0.out.2.2.1 g1 (by omega) K0.out.2.2.1.size, p1, K0.out.2.2.2.2.keptBut g1 (by simp; omega)⟩
  clear p1 g1 hg hb c16 f0 f1
  have c16 := K1.out.1.t16
  have f0 := K1.out.2.2.2.2.cell 0 _ rfl
  have f1 := K1.out.2.2.2.2.cell 1 _ rfl
  go_wp2_with fail
  rw [rounds_succ]
  go_wp2_with fail
  refine (z_bU X0 g cc k (k * 77) (l.set k (sntP (gtP l k))) (sntP (gtP l k)) K1.out.2.2.2.1 (z_eF KK.out.2.2.2.1) rfl).mono ?_
  rintro _ X1 ⟨rfl, p2, g2⟩
  have hg := KK.out.1
  have hb := KK.out.2.1
  rw [List.set_set] at p2
  have K2 : Hid (RvAt X1 w.heap.size 39 (trc h (.slice (some ⟨g, 0, none⟩) n cc)) ∧ RvAt X1 (w.heap.size + 1) 39 (trc zeroH (.slice none 0 0)) ∧ Below w.heap.size w X1 ∧ PAt X1 g cc (l.set k (waiP (sntP (gtP l k)))) ∧ FnAt X1 b #[.func (.func 181) #[] #[.pointer (some ⟨mb, 0, none⟩)], fv 177]) := ⟨K1.out.1.keptBut g2 (by simp; omega), K1.out.2.1.keptBut g2 (by simp; omega), gro K1.out.2.2.1 g2 (by omega) K1.out.2.2.1.size, p2, K1.out.2.2.2.2.keptBut g2 (by simp; omega)⟩
  clear p2 g2 hg hb c16 f0 f1
  have c16 := K2.out.1.t16
  have f0 := K2.out.2.2.2.2.cell 0 _ rfl
  have f1 := K2.out.2.2.2.2.cell 1 _ rfl
  have l9 := K2.out.1.tld
  have hg := KK.out.1
  obtain ⟨U, s6, r6, g6⟩ := K2.out.2.1.tst (g := h) (y := .slice (some ⟨g, 0, none⟩) n cc) rfl
  have p6 := (K2.out.2.2.2.1.keptBut g6 (by simp; omega)).sl
  rw [List.length_set, KK.out.2.2.1] at p6
  have G : Hid (RvAt U (w.heap.size + 1) 39 (trc h (.slice (some ⟨g, 0, none⟩) n cc)) ∧ SlAt U (some ⟨g, 0, none⟩) n cc (l.set k (waiP (sntP (gtP l k)))) ∧ Below w.heap.size w U) := ⟨r6, p6, gro K2.out.2.2.1 g6 (by omega) K2.out.2.2.1.size⟩
  clear r6 p6 g6 hg c16
  go_wp2_with fail
  rw [rounds_succ]
  go_wp2
  refine bodyPost_ret (z_e rtT Tryz.results175 _ _ _ _ rfl G.out.1 (z_c _ _)) rfl ?_
  exact ⟨some ⟨g, 0, none⟩, cc, rfl, G.out.2.1, G.out.2.2, Nw.of (by have := KK.out.1; omega)⟩
end S15
end
end Go.Proofs.YtlchejbggnbccaaGreat
