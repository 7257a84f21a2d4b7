/-
  The steps of a port that hears nothing, one state after another. Plain laws. And what follows from it here.
-/
import Derived.Test.YtlchejbggnbccaaGreatA17a
namespace Go.Proofs.YtlchejbggnbccaaGreat
set_option linter.unusedVariables false
set_option linter.unusedSimpArgs false
set_option maxRecDepth 4000
section
namespace S17
open Go.RowKit
open S14 (gtP gtP_at set_self)

theorem gU65 (r : Pt) {n : Int} (h0 : 0 ≤ n) (h1 : n ≤ 255) : (r.setU 65 n).nm 65 = n := gUn r rfl ⟨h0, h1⟩
theorem gU70 (r : Pt) {n : Int} (h0 : 0 ≤ n) (h1 : n ≤ 255) : (r.setU 70 n).nm 70 = n := gUn r rfl ⟨h0, h1⟩
theorem own_at {h : Hd} {i : Nat} {s s1 s2 s3 s4 s5 s6 s7 : Ps} (h1 : s1 = stK h i s 0) (h2 : s2 = stK h i s1 1) (h3 : s3 = stK h i s2 2) (h4 : s4 = stK h i s3 3) (h5 : s5 = stK h i s4 4) (h6 : s6 = stK h i s5 5) (h7 : s7 = stK h i s6 6)
    (hi : i < s.l.length) {q1 q2 q3 : Pt} (e1 : (S11.stepO (gtP s.l i)).getD (gtP s.l i) = q1) (e2 : ∀ l : List Pt, i < l.length → gtP l i = q1 → (S13.stepO l i).getD l = l.set i q2) (e3 : (S14.pstO q2).getD q2 = q3) (pm : Pm q3 ∨ (q3.nm 76 = 0 ∧ q3.bt 16 = false)) :
    Ot' i s.l s7.l ∧ Vq q3 (gtP s7.l i) ∧ Pm (gtP s7.l i) := by
  have a1 : s1.l = s.l.set i q1 := by
    rw [h1]
    show S11.stepL s.l (i : Int) = _
    unfold S11.stepL S11.tellO
    rw [if_pos ⟨by omega, by omega⟩, Int.toNat_natCast]
    exact congrArg _ e1
  have i1 : i < s1.l.length := by rw [a1, List.length_set]; exact hi
  have g1 : gtP s1.l i = q1 := by rw [a1, gt_set hi, if_pos rfl]
  have o1 : Ot' i s.l s1.l := by rw [a1]; exact Ot'.set hi _
  have a2 : s2.l = s1.l.set i q2 := by
    rw [h2]
    show S13.stepL s1.l (i : Int) = _
    unfold S13.stepL
    rw [if_pos ⟨by omega, by omega⟩, Int.toNat_natCast]
    exact e2 _ i1 g1
  have i2 : i < s2.l.length := by rw [a2, List.length_set]; exact i1
  have g2 : gtP s2.l i = q2 := by rw [a2, gt_set i1, if_pos rfl]
  have o2 : Ot' i s.l s2.l := o1.trans (by rw [a2]; exact Ot'.set i1 _)
  have a3 : s3.l = s2.l.set i q3 := by
    rw [h3]
    show s2.l.set i ((S14.pstO (gtP s2.l i)).getD (gtP s2.l i)) = _
    rw [g2, e3]
  have i3 : i < s3.l.length := by rw [a3, List.length_set]; exact i2
  have g3 : gtP s3.l i = q3 := by rw [a3, gt_set i2, if_pos rfl]
  have o3 : Ot' i s.l s3.l := o2.trans (by rw [a3]; exact Ot'.set i2 _)
  have t4 : Lt i s3.l s4.l := by rw [h4]; exact lt_tcm h i3
  have i4 : i < s4.l.length := by rw [t4.o.len]; exact i3
  have t5 : Lt i s4.l s5.l := by rw [h5]; exact lt_flu h i4
  have i5 : i < s5.l.length := by rw [t5.o.len]; exact i4
  have v5 : Vp q3 (gtP s5.l i) := by rw [← g3]; exact (t4.trans t5).i
  have m5 : Pm (gtP s5.l i) ∨ ((gtP s5.l i).nm 76 = 0 ∧ (gtP s5.l i).bt 16 = false) := pm.imp v5.m v5.z
  have k6 := m_ppm _ m5
  have a6 : s6.l = s5.l.set i (S15.ppmQ (gtP s5.l i) (S15.ppmC (gtP s5.l i))) := by
    rw [h6]
    show (S15.ppmO s5.l i).getD s5.l = _
    unfold S15.ppmO
    split
    · rename_i c
      have c : S15.ppmC (gtP s5.l i) = 0 := c
      rw [c]
      exact (set_self i5).symm
    · rfl
  have i6 : i < s6.l.length := by rw [a6, List.length_set]; exact i5
  have g6 : gtP s6.l i = S15.ppmQ (gtP s5.l i) (S15.ppmC (gtP s5.l i)) := by rw [a6, gt_set i5, if_pos rfl]
  have t7 : Lt i s6.l s7.l := by rw [h7]; exact lt_ptx h i6
  refine ⟨((o3.trans (t4.trans t5).o).trans (by rw [a6]; exact Ot'.set i5 _)).trans t7.o, ?_, ?_⟩
  · refine Vq.trans (v5.v.trans (v_ppm (gtP s5.l i) (S15.ppmC (gtP s5.l i)))) ?_
    rw [← g6]
    exact t7.i.v
  · refine t7.i.m ?_
    rw [g6]
    exact k6
theorem ptF_is (h : Hd) (i : Nat) (s : Ps) : ptF h i s = stK h i (stK h i (stK h i (stK h i (stK h i (stK h i (stK h i s 0) 1) 2) 3) 4) 5) 6 := by simp only [ptF, ptN]
theorem own_of {h : Hd} {i : Nat} {s : Ps} (hi : i < s.l.length) {q1 q2 q3 : Pt} (e1 : (S11.stepO (gtP s.l i)).getD (gtP s.l i) = q1) (e2 : ∀ l : List Pt, i < l.length → gtP l i = q1 → (S13.stepO l i).getD l = l.set i q2) (e3 : (S14.pstO q2).getD q2 = q3) (pm : Pm q3 ∨ (q3.nm 76 = 0 ∧ q3.bt 16 = false)) :
    Ot' i s.l (ptF h i s).l ∧ Vq q3 (gtP (ptF h i s).l i) ∧ Pm (gtP (ptF h i s).l i) := by
  rw [ptF_is]
  exact own_at rfl rfl rfl rfl rfl rfl rfl hi e1 e2 e3 pm
theorem self_set {l : List Pt} {i : Nat} {p : Pt} (hi : i < l.length) (e : gtP l i = p) : l = l.set i p := by rw [← e]; exact (set_self hi).symm
theorem Pm.by {p q : Pt} (h : Pm p) (h1 : q.bt 23 = p.bt 23) (h2 : q.bt 16 = p.bt 16) (h3 : q.nm 76 = p.nm 76) : Pm q := h.of h1 h2 h3
theorem pi_z {h : Hd} {fd : Int} {p : Pt} (s : Zs h fd p) : (S11.stepO p).getD p = S11.disP p := by
  simp [S11.stepO, S11.fdsO, S11.fagO, S11.fcuO, s.b2, s.b4, s.b5, s.b7, s.b8, s.b9, s.b10, s.b13, s.b14, s.b20, s.b21, s.b22, s.b24, s.b25, s.b28, s.n29, s.n30, s.n31, s.n65, s.n70, s.n72, s.n73, s.n41, s.n42]
theorem ps_z {h : Hd} {fd : Int} {p : Pt} (s : Zs h fd p) (l : List Pt) (i : Nat) (hi : i < l.length) (e : gtP l i = S11.disP p) : (S13.stepO l i).getD l = l.set i (S13.begP (S11.disP p)) := by
  have e' : S13.gtP l i = S11.disP p := e
  have r41 := p.u8 (j := 41) rfl
  have r42 := p.u8 (j := 42) rfl
  have r13 := h.u8 (j := 13) rfl
  have r3 := h.u8 (j := 3) rfl
  have r65 := p.u8 (j := 65) rfl
  have f : S13.firstF (S13.rulL l i) = some 205 := by
    simp [S13.rulL, S13.stR, S13.dsgR, S13.begB, S13.stopB, S13.looB, S13.askP, S13.mayP, S13.mustB, S13.firstF, e', S11.disP, S11.rslP, S11.disQ, S13.begP, S13.begA, gBb, gBn, gNb, gNn, gUb, gUe, gU65, gU70, r41.1, r41.2, r42.1, r42.2, r13.1, r13.2, r3.1, r3.2, s.b2, s.b4, s.b5, s.b7, s.b8, s.b9, s.b10, s.b13, s.b14, s.b20, s.b21, s.b22, s.b24, s.b25, s.b28, s.n29, s.n30, s.n31, s.n65, s.n70, s.n72, s.n73, s.n41, s.n42]
  unfold S13.stepO
  rw [f]
  show S13.fnOf 205 i l = _
  have z : S13.fnOf 205 i l = l.set i (S13.begP (S13.gtP l i)) := by unfold S13.fnOf; rfl
  rw [z, e']
theorem pt_z {h : Hd} {fd : Int} {p : Pt} (s : Zs h fd p) : (S14.pstO (S13.begP (S11.disP p))).getD (S13.begP (S11.disP p)) = S13.begP (S11.disP p) := by
  have r41 := p.u8 (j := 41) rfl
  have r42 := p.u8 (j := 42) rfl
  have r13 := h.u8 (j := 13) rfl
  have r3 := h.u8 (j := 3) rfl
  simp [S14.pstO, S11.disP, S11.rslP, S11.disQ, S13.begP, S13.begA, gBb, gBn, gNb, gNn, gUb, gUe, gU65, gU70, r41.1, r41.2, r42.1, r42.2, r13.1, r13.2, r3.1, r3.2, s.b2, s.b4, s.b5, s.b7, s.b8, s.b9, s.b10, s.b13, s.b14, s.b20, s.b21, s.b22, s.b24, s.b25, s.b28, s.n29, s.n30, s.n31, s.n65, s.n70, s.n72, s.n73, s.n41, s.n42]
theorem po_z {h : Hd} {fd : Int} {p : Pt} (s : Zs h fd p) : Na h (h.nm 13) (S13.begP (S11.disP p)) := by
  have r41 := p.u8 (j := 41) rfl
  have r42 := p.u8 (j := 42) rfl
  have r13 := h.u8 (j := 13) rfl
  have r3 := h.u8 (j := 3) rfl
  refine ⟨?_, ?_, ?_, ?_, ?_, ?_, ?_, ?_, ?_, ?_, ?_, ?_, ?_, ?_, ?_, ?_, ?_, ?_, ?_, ?_, ?_, ?_, ?_⟩
  all_goals simp [S11.disP, S11.rslP, S11.disQ, S13.begP, S13.begA, gBb, gBn, gNb, gNn, gUb, gUe, gU65, gU70, r41.1, r41.2, r42.1, r42.2, r13.1, r13.2, r3.1, r3.2, s.b2, s.b4, s.b5, s.b7, s.b8, s.b9, s.b10, s.b13, s.b14, s.b20, s.b21, s.b22, s.b24, s.b25, s.b28, s.n29, s.n30, s.n31, s.n65, s.n70, s.n72, s.n73, s.n41, s.n42]
theorem ow_z {h : Hd} {fd : Int} {i : Nat} {s : Ps} (hi : i < s.l.length) (a : Zs h fd (gtP s.l i)) (z : (gtP s.l i).nm 76 = 0 ∧ (gtP s.l i).bt 16 = false) : Ot' i s.l (ptF h i s).l ∧ Na h (h.nm 13) (gtP (ptF h i s).l i) ∧ Pm (gtP (ptF h i s).l i) := by
  have k := own_of (h := h) hi (pi_z a) (fun l hl e => ps_z a l i hl e) (pt_z a) (Or.inr ⟨by simp [S11.disP, S11.rslP, S11.disQ, S13.begP, S13.begA, gBb, gBn, gNb, gNn, gUb, gUe, gU65, gU70, z.1], by simp [S11.disP, S11.rslP, S11.disQ, S13.begP, S13.begA, gBb, gBn, gNb, gNn, gUb, gUe, gU65, gU70, z.2]⟩)
  exact ⟨k.1, (po_z a).to k.2.1, k.2.2⟩
theorem pi_n {h : Hd} {fd : Int} {p : Pt} (s : Nb h fd p) : (S11.stepO p).getD p = p := by
  simp [S11.stepO, S11.fdsO, S11.fagO, S11.fcuO, s.b2, s.b4, s.b5, s.b7, s.b8, s.b9, s.b10, s.b13, s.b14, s.b20, s.b21, s.b22, s.b24, s.b25, s.b28, s.n29, s.n30, s.n31, s.n65, s.n72, s.n73, s.n41, s.n42]
theorem ps_n {h : Hd} {fd : Int} {p : Pt} (s : Nb h fd p) (l : List Pt) (i : Nat) (hi : i < l.length) (e : gtP l i = p) : (S13.stepO l i).getD l = l.set i (S13.disP (p)) := by
  have e' : S13.gtP l i = p := e
  have r41 := p.u8 (j := 41) rfl
  have r42 := p.u8 (j := 42) rfl
  have r13 := h.u8 (j := 13) rfl
  have r3 := h.u8 (j := 3) rfl
  have r65 := p.u8 (j := 65) rfl
  have f : S13.firstF (S13.rulL l i) = some 241 := by
    simp [S13.rulL, S13.stR, S13.dsgR, S13.begB, S13.stopB, S13.looB, S13.askP, S13.mayP, S13.mustB, S13.firstF, e', S13.disP, S13.restP, gBb, gBn, gNb, gNn, gUb, gUe, gU65, gU70, r41.1, r41.2, r42.1, r42.2, r13.1, r13.2, r3.1, r3.2, s.b2, s.b4, s.b5, s.b7, s.b8, s.b9, s.b10, s.b13, s.b14, s.b20, s.b21, s.b22, s.b24, s.b25, s.b28, s.n29, s.n30, s.n31, s.n65, s.n72, s.n73, s.n41, s.n42]
  unfold S13.stepO
  rw [f]
  show S13.fnOf 241 i l = _
  have z : S13.fnOf 241 i l = l.set i (S13.disP (S13.gtP l i)) := by unfold S13.fnOf; rfl
  rw [z, e']
theorem pt_n {h : Hd} {fd : Int} {p : Pt} (s : Nb h fd p) : (S14.pstO (S13.disP (p))).getD (S13.disP (p)) = S13.disP (p) := by
  have r41 := p.u8 (j := 41) rfl
  have r42 := p.u8 (j := 42) rfl
  have r13 := h.u8 (j := 13) rfl
  have r3 := h.u8 (j := 3) rfl
  simp [S14.pstO, S13.disP, S13.restP, gBb, gBn, gNb, gNn, gUb, gUe, gU65, gU70, r41.1, r41.2, r42.1, r42.2, r13.1, r13.2, r3.1, r3.2, s.b2, s.b4, s.b5, s.b7, s.b8, s.b9, s.b10, s.b13, s.b14, s.b20, s.b21, s.b22, s.b24, s.b25, s.b28, s.n29, s.n30, s.n31, s.n65, s.n72, s.n73, s.n41, s.n42]
theorem po_n {h : Hd} {fd : Int} {p : Pt} (s : Nb h fd p) (pm : Pm p) : Dn h (h.nm 13) (S13.disP (p)) := by
  have r41 := p.u8 (j := 41) rfl
  have r42 := p.u8 (j := 42) rfl
  have r13 := h.u8 (j := 13) rfl
  have r3 := h.u8 (j := 3) rfl
  refine ⟨?_, ?_, ?_, ?_, ?_, ?_, ?_, ?_, ?_, ?_, ?_, ?_, ?_, ?_, ?_, ?_, ?_, ?_, ?_, ?_, ?_, ?_, ?_, ?_⟩
  all_goals simp [S13.disP, S13.restP, gBb, gBn, gNb, gNn, gUb, gUe, gU65, gU70, r41.1, r41.2, r42.1, r42.2, r13.1, r13.2, r3.1, r3.2, s.b2, s.b4, s.b5, s.b7, s.b8, s.b9, s.b10, s.b13, s.b14, s.b20, s.b21, s.b22, s.b24, s.b25, s.b28, s.n29, s.n30, s.n31, s.n65, s.n72, s.n73, s.n41, s.n42, S13.delayP, pm.a]
theorem ow_n {h : Hd} {fd : Int} {i : Nat} {s : Ps} (hi : i < s.l.length) (a : Nb h fd (gtP s.l i)) (pm : Pm (gtP s.l i)) : Ot' i s.l (ptF h i s).l ∧ Dn h (h.nm 13) (gtP (ptF h i s).l i) ∧ Pm (gtP (ptF h i s).l i) := by
  have k := own_of (h := h) hi (pi_n a) (fun l hl e => ps_n a l i hl e) (pt_n a) (Or.inl (Pm.by pm (by simp [S13.disP, S13.restP, gBb, gBn, gNb, gNn, gUb, gUe, gU65, gU70]) (by simp [S13.disP, S13.restP, gBb, gBn, gNb, gNn, gUb, gUe, gU65, gU70]) (by simp [S13.disP, S13.restP, gBb, gBn, gNb, gNn, gUb, gUe, gU65, gU70])))
  exact ⟨k.1, (po_n a pm).to k.2.1, k.2.2⟩
theorem pi_d {h : Hd} {fd : Int} {p : Pt} (s : Dn h fd p) (hf : fd = h.nm 13) : (S11.stepO p).getD p = p := by
  simp [S11.stepO, S11.fdsO, S11.fagO, S11.fcuO, s.b2, s.b4, s.b5, s.b7, s.b8, s.b9, s.b10, s.b13, s.b14, s.b20, s.b21, s.b22, s.b24, s.b25, s.b28, s.n29, s.n30, s.n31, s.n65, s.n70, s.n72, s.n73, s.n41, s.n42]
theorem ps_d {h : Hd} {fd : Int} {p : Pt} (s : Dn h fd p) (hf : fd = h.nm 13) (l : List Pt) (i : Nat) (hi : i < l.length) (e : gtP l i = p) : (S13.stepO l i).getD l = l.set i (p) := by
  have e' : S13.gtP l i = p := e
  have r41 := p.u8 (j := 41) rfl
  have r42 := p.u8 (j := 42) rfl
  have r13 := h.u8 (j := 13) rfl
  have r3 := h.u8 (j := 3) rfl
  have r65 := p.u8 (j := 65) rfl
  have f : S13.firstF (S13.rulL l i) = none := by
    simp [S13.rulL, S13.stR, S13.dsgR, S13.begB, S13.stopB, S13.looB, S13.askP, S13.mayP, S13.mustB, S13.firstF, e', gBb, gBn, gNb, gNn, gUb, gUe, gU65, gU70, r41.1, r41.2, r42.1, r42.2, r13.1, r13.2, r3.1, r3.2, s.b2, s.b4, s.b5, s.b7, s.b8, s.b9, s.b10, s.b13, s.b14, s.b20, s.b21, s.b22, s.b24, s.b25, s.b28, s.n29, s.n30, s.n31, s.n65, s.n70, s.n72, s.n73, s.n41, s.n42, hf]
  unfold S13.stepO
  rw [f]
  exact self_set hi e
theorem pt_d {h : Hd} {fd : Int} {p : Pt} (s : Dn h fd p) (hf : fd = h.nm 13) : (S14.pstO (p)).getD (p) = p := by
  have r41 := p.u8 (j := 41) rfl
  have r42 := p.u8 (j := 42) rfl
  have r13 := h.u8 (j := 13) rfl
  have r3 := h.u8 (j := 3) rfl
  simp [S14.pstO, gBb, gBn, gNb, gNn, gUb, gUe, gU65, gU70, r41.1, r41.2, r42.1, r42.2, r13.1, r13.2, r3.1, r3.2, s.b2, s.b4, s.b5, s.b7, s.b8, s.b9, s.b10, s.b13, s.b14, s.b20, s.b21, s.b22, s.b24, s.b25, s.b28, s.n29, s.n30, s.n31, s.n65, s.n70, s.n72, s.n73, s.n41, s.n42, hf]
theorem po_d {h : Hd} {fd : Int} {p : Pt} (s : Dn h fd p) (hf : fd = h.nm 13) (pm : Pm p) : Dn h (fd) (p) := by
  have r41 := p.u8 (j := 41) rfl
  have r42 := p.u8 (j := 42) rfl
  have r13 := h.u8 (j := 13) rfl
  have r3 := h.u8 (j := 3) rfl
  refine ⟨?_, ?_, ?_, ?_, ?_, ?_, ?_, ?_, ?_, ?_, ?_, ?_, ?_, ?_, ?_, ?_, ?_, ?_, ?_, ?_, ?_, ?_, ?_, ?_⟩
  all_goals simp [gBb, gBn, gNb, gNn, gUb, gUe, gU65, gU70, r41.1, r41.2, r42.1, r42.2, r13.1, r13.2, r3.1, r3.2, s.b2, s.b4, s.b5, s.b7, s.b8, s.b9, s.b10, s.b13, s.b14, s.b20, s.b21, s.b22, s.b24, s.b25, s.b28, s.n29, s.n30, s.n31, s.n65, s.n70, s.n72, s.n73, s.n41, s.n42, hf, S13.delayP, pm.a]
theorem ow_d {h : Hd} {fd : Int} {i : Nat} {s : Ps} (hi : i < s.l.length) (a : Dn h fd (gtP s.l i)) (hf : fd = h.nm 13) (pm : Pm (gtP s.l i)) : Ot' i s.l (ptF h i s).l ∧ Dn h (fd) (gtP (ptF h i s).l i) ∧ Pm (gtP (ptF h i s).l i) := by
  have k := own_of (h := h) hi (pi_d a hf) (fun l hl e => ps_d a hf l i hl e) (pt_d a hf) (Or.inl (Pm.by pm (by simp [gBb, gBn, gNb, gNn, gUb, gUe, gU65, gU70]) (by simp [gBb, gBn, gNb, gNn, gUb, gUe, gU65, gU70]) (by simp [gBb, gBn, gNb, gNn, gUb, gUe, gU65, gU70])))
  exact ⟨k.1, (po_d a hf pm).to k.2.1, k.2.2⟩
theorem pi_e {h : Hd} {fd : Int} {p : Pt} (s : Dn h fd p) (hf : fd ≠ h.nm 13) : (S11.stepO p).getD p = p := by
  simp [S11.stepO, S11.fdsO, S11.fagO, S11.fcuO, s.b2, s.b4, s.b5, s.b7, s.b8, s.b9, s.b10, s.b13, s.b14, s.b20, s.b21, s.b22, s.b24, s.b25, s.b28, s.n29, s.n30, s.n31, s.n65, s.n70, s.n72, s.n73, s.n41, s.n42]
theorem ps_e {h : Hd} {fd : Int} {p : Pt} (s : Dn h fd p) (hf : fd ≠ h.nm 13) (l : List Pt) (i : Nat) (hi : i < l.length) (e : gtP l i = p) : (S13.stepO l i).getD l = l.set i (S13.disP (p)) := by
  have e' : S13.gtP l i = p := e
  have r41 := p.u8 (j := 41) rfl
  have r42 := p.u8 (j := 42) rfl
  have r13 := h.u8 (j := 13) rfl
  have r3 := h.u8 (j := 3) rfl
  have r65 := p.u8 (j := 65) rfl
  have hb : (fd == h.nm 13) = false := by simpa using hf
  have hc : (fd != h.nm 13) = true := by simpa using hf
  have f : S13.firstF (S13.rulL l i) = some 241 := by
    simp [S13.rulL, S13.stR, S13.dsgR, S13.begB, S13.stopB, S13.looB, S13.askP, S13.mayP, S13.mustB, S13.firstF, e', S13.disP, S13.restP, gBb, gBn, gNb, gNn, gUb, gUe, gU65, gU70, r41.1, r41.2, r42.1, r42.2, r13.1, r13.2, r3.1, r3.2, s.b2, s.b4, s.b5, s.b7, s.b8, s.b9, s.b10, s.b13, s.b14, s.b20, s.b21, s.b22, s.b24, s.b25, s.b28, s.n29, s.n30, s.n31, s.n65, s.n70, s.n72, s.n73, s.n41, s.n42, hf, hb, hc]
  unfold S13.stepO
  rw [f]
  show S13.fnOf 241 i l = _
  have z : S13.fnOf 241 i l = l.set i (S13.disP (S13.gtP l i)) := by unfold S13.fnOf; rfl
  rw [z, e']
theorem pt_e {h : Hd} {fd : Int} {p : Pt} (s : Dn h fd p) (hf : fd ≠ h.nm 13) : (S14.pstO (S13.disP (p))).getD (S13.disP (p)) = S13.disP (p) := by
  have r41 := p.u8 (j := 41) rfl
  have r42 := p.u8 (j := 42) rfl
  have r13 := h.u8 (j := 13) rfl
  have r3 := h.u8 (j := 3) rfl
  have hb : (fd == h.nm 13) = false := by simpa using hf
  have hc : (fd != h.nm 13) = true := by simpa using hf
  simp [S14.pstO, S13.disP, S13.restP, gBb, gBn, gNb, gNn, gUb, gUe, gU65, gU70, r41.1, r41.2, r42.1, r42.2, r13.1, r13.2, r3.1, r3.2, s.b2, s.b4, s.b5, s.b7, s.b8, s.b9, s.b10, s.b13, s.b14, s.b20, s.b21, s.b22, s.b24, s.b25, s.b28, s.n29, s.n30, s.n31, s.n65, s.n70, s.n72, s.n73, s.n41, s.n42, hf, hb, hc]
theorem po_e {h : Hd} {fd : Int} {p : Pt} (s : Dn h fd p) (hf : fd ≠ h.nm 13) (pm : Pm p) : Dn h (h.nm 13) (S13.disP (p)) := by
  have r41 := p.u8 (j := 41) rfl
  have r42 := p.u8 (j := 42) rfl
  have r13 := h.u8 (j := 13) rfl
  have r3 := h.u8 (j := 3) rfl
  have hb : (fd == h.nm 13) = false := by simpa using hf
  have hc : (fd != h.nm 13) = true := by simpa using hf
  refine ⟨?_, ?_, ?_, ?_, ?_, ?_, ?_, ?_, ?_, ?_, ?_, ?_, ?_, ?_, ?_, ?_, ?_, ?_, ?_, ?_, ?_, ?_, ?_, ?_⟩
  all_goals simp [S13.disP, S13.restP, gBb, gBn, gNb, gNn, gUb, gUe, gU65, gU70, r41.1, r41.2, r42.1, r42.2, r13.1, r13.2, r3.1, r3.2, s.b2, s.b4, s.b5, s.b7, s.b8, s.b9, s.b10, s.b13, s.b14, s.b20, s.b21, s.b22, s.b24, s.b25, s.b28, s.n29, s.n30, s.n31, s.n65, s.n70, s.n72, s.n73, s.n41, s.n42, hf, hb, hc, S13.delayP, pm.a]
theorem ow_e {h : Hd} {fd : Int} {i : Nat} {s : Ps} (hi : i < s.l.length) (a : Dn h fd (gtP s.l i)) (hf : fd ≠ h.nm 13) (pm : Pm (gtP s.l i)) : Ot' i s.l (ptF h i s).l ∧ Dn h (h.nm 13) (gtP (ptF h i s).l i) ∧ Pm (gtP (ptF h i s).l i) := by
  have k := own_of (h := h) hi (pi_e a hf) (fun l hl e => ps_e a hf l i hl e) (pt_e a hf) (Or.inl (Pm.by pm (by simp [S13.disP, S13.restP, gBb, gBn, gNb, gNn, gUb, gUe, gU65, gU70]) (by simp [S13.disP, S13.restP, gBb, gBn, gNb, gNn, gUb, gUe, gU65, gU70]) (by simp [S13.disP, S13.restP, gBb, gBn, gNb, gNn, gUb, gUe, gU65, gU70])))
  exact ⟨k.1, (po_e a hf pm).to k.2.1, k.2.2⟩
theorem pi_a {h : Hd} {fd : Int} {p : Pt} (s : Ua h fd p) : (S11.stepO p).getD p = S11.agdP p := by
  simp [S11.stepO, S11.fdsO, S11.fagO, S11.fcuO, s.b2, s.b4, s.b5, s.b7, s.b8, s.b9, s.b10, s.b13, s.b14, s.b20, s.b21, s.b22, s.b24, s.b25, s.b28, s.n29, s.n30, s.n31, s.n65, s.n70, s.n72, s.n73, s.n41, s.n42]
theorem ps_a {h : Hd} {fd : Int} {p : Pt} (s : Ua h fd p) (l : List Pt) (i : Nat) (hi : i < l.length) (e : gtP l i = S11.agdP p) : (S13.stepO l i).getD l = l.set i (S11.agdP p) := by
  have e' : S13.gtP l i = S11.agdP p := e
  have r41 := p.u8 (j := 41) rfl
  have r42 := p.u8 (j := 42) rfl
  have r13 := h.u8 (j := 13) rfl
  have r3 := h.u8 (j := 3) rfl
  have r65 := p.u8 (j := 65) rfl
  have f : S13.firstF (S13.rulL l i) = none := by
    simp [S13.rulL, S13.stR, S13.dsgR, S13.begB, S13.stopB, S13.looB, S13.askP, S13.mayP, S13.mustB, S13.firstF, e', S11.agdP, S11.rslP, S11.agdQ, gBb, gBn, gNb, gNn, gUb, gUe, gU65, gU70, r41.1, r41.2, r42.1, r42.2, r13.1, r13.2, r3.1, r3.2, s.b2, s.b4, s.b5, s.b7, s.b8, s.b9, s.b10, s.b13, s.b14, s.b20, s.b21, s.b22, s.b24, s.b25, s.b28, s.n29, s.n30, s.n31, s.n65, s.n70, s.n72, s.n73, s.n41, s.n42]
  unfold S13.stepO
  rw [f]
  exact self_set hi e
theorem pt_a {h : Hd} {fd : Int} {p : Pt} (s : Ua h fd p) : (S14.pstO (S11.agdP p)).getD (S11.agdP p) = S11.agdP p := by
  have r41 := p.u8 (j := 41) rfl
  have r42 := p.u8 (j := 42) rfl
  have r13 := h.u8 (j := 13) rfl
  have r3 := h.u8 (j := 3) rfl
  simp [S14.pstO, S11.agdP, S11.rslP, S11.agdQ, gBb, gBn, gNb, gNn, gUb, gUe, gU65, gU70, r41.1, r41.2, r42.1, r42.2, r13.1, r13.2, r3.1, r3.2, s.b2, s.b4, s.b5, s.b7, s.b8, s.b9, s.b10, s.b13, s.b14, s.b20, s.b21, s.b22, s.b24, s.b25, s.b28, s.n29, s.n30, s.n31, s.n65, s.n70, s.n72, s.n73, s.n41, s.n42]
theorem po_a {h : Hd} {fd : Int} {p : Pt} (s : Ua h fd p) (pm : Pm p) : Ub h (fd) (S11.agdP p) := by
  have r41 := p.u8 (j := 41) rfl
  have r42 := p.u8 (j := 42) rfl
  have r13 := h.u8 (j := 13) rfl
  have r3 := h.u8 (j := 3) rfl
  refine ⟨?_, ?_, ?_, ?_, ?_, ?_, ?_, ?_, ?_, ?_, ?_, ?_, ?_, ?_, ?_, ?_, ?_, ?_, ?_, ?_, ?_, ?_, ?_, ?_⟩
  all_goals simp [S11.agdP, S11.rslP, S11.agdQ, gBb, gBn, gNb, gNn, gUb, gUe, gU65, gU70, r41.1, r41.2, r42.1, r42.2, r13.1, r13.2, r3.1, r3.2, s.b2, s.b4, s.b5, s.b7, s.b8, s.b9, s.b10, s.b13, s.b14, s.b20, s.b21, s.b22, s.b24, s.b25, s.b28, s.n29, s.n30, s.n31, s.n65, s.n70, s.n72, s.n73, s.n41, s.n42, S13.delayP, pm.a]
theorem ow_a {h : Hd} {fd : Int} {i : Nat} {s : Ps} (hi : i < s.l.length) (a : Ua h fd (gtP s.l i)) (pm : Pm (gtP s.l i)) : Ot' i s.l (ptF h i s).l ∧ Ub h (fd) (gtP (ptF h i s).l i) ∧ Pm (gtP (ptF h i s).l i) := by
  have k := own_of (h := h) hi (pi_a a) (fun l hl e => ps_a a l i hl e) (pt_a a) (Or.inl (Pm.by pm (by simp [S11.agdP, S11.rslP, S11.agdQ, gBb, gBn, gNb, gNn, gUb, gUe, gU65, gU70]) (by simp [S11.agdP, S11.rslP, S11.agdQ, gBb, gBn, gNb, gNn, gUb, gUe, gU65, gU70]) (by simp [S11.agdP, S11.rslP, S11.agdQ, gBb, gBn, gNb, gNn, gUb, gUe, gU65, gU70])))
  exact ⟨k.1, (po_a a pm).to k.2.1, k.2.2⟩
theorem pi_g {h : Hd} {fd : Int} {p : Pt} (s : Ud h fd p) : (S11.stepO p).getD p = p := by
  simp [S11.stepO, S11.fdsO, S11.fagO, S11.fcuO, s.b2, s.b4, s.b5, s.b7, s.b8, s.b9, s.b10, s.b13, s.b14, s.b20, s.b21, s.b22, s.b24, s.b25, s.b28, s.n29, s.n30, s.n31, s.n65, s.n70, s.n72, s.n73, s.n41, s.n42]
theorem ps_g {h : Hd} {fd : Int} {p : Pt} (s : Ud h fd p) (l : List Pt) (i : Nat) (hi : i < l.length) (e : gtP l i = p) : (S13.stepO l i).getD l = l.set i (S13.prsP (p)) := by
  have e' : S13.gtP l i = p := e
  have r41 := p.u8 (j := 41) rfl
  have r42 := p.u8 (j := 42) rfl
  have r13 := h.u8 (j := 13) rfl
  have r3 := h.u8 (j := 3) rfl
  have r65 := p.u8 (j := 65) rfl
  have f : S13.firstF (S13.rulL l i) = some 272 := by
    simp [S13.rulL, S13.stR, S13.dsgR, S13.begB, S13.stopB, S13.looB, S13.askP, S13.mayP, S13.mustB, S13.firstF, e', S13.prsP, gBb, gBn, gNb, gNn, gUb, gUe, gU65, gU70, r41.1, r41.2, r42.1, r42.2, r13.1, r13.2, r3.1, r3.2, s.b2, s.b4, s.b5, s.b7, s.b8, s.b9, s.b10, s.b13, s.b14, s.b20, s.b21, s.b22, s.b24, s.b25, s.b28, s.n29, s.n30, s.n31, s.n65, s.n70, s.n72, s.n73, s.n41, s.n42]
  unfold S13.stepO
  rw [f]
  show S13.fnOf 272 i l = _
  have z : S13.fnOf 272 i l = l.set i (S13.prsP (S13.gtP l i)) := by unfold S13.fnOf; rfl
  rw [z, e']
theorem pt_g {h : Hd} {fd : Int} {p : Pt} (s : Ud h fd p) : (S14.pstO (S13.prsP (p))).getD (S13.prsP (p)) = S13.prsP (p) := by
  have r41 := p.u8 (j := 41) rfl
  have r42 := p.u8 (j := 42) rfl
  have r13 := h.u8 (j := 13) rfl
  have r3 := h.u8 (j := 3) rfl
  simp [S14.pstO, S13.prsP, gBb, gBn, gNb, gNn, gUb, gUe, gU65, gU70, r41.1, r41.2, r42.1, r42.2, r13.1, r13.2, r3.1, r3.2, s.b2, s.b4, s.b5, s.b7, s.b8, s.b9, s.b10, s.b13, s.b14, s.b20, s.b21, s.b22, s.b24, s.b25, s.b28, s.n29, s.n30, s.n31, s.n65, s.n70, s.n72, s.n73, s.n41, s.n42]
theorem po_g {h : Hd} {fd : Int} {p : Pt} (s : Ud h fd p) (pm : Pm p) : Ue h (fd) (S13.prsP (p)) := by
  have r41 := p.u8 (j := 41) rfl
  have r42 := p.u8 (j := 42) rfl
  have r13 := h.u8 (j := 13) rfl
  have r3 := h.u8 (j := 3) rfl
  have TV : pri (S13.prsP p) = S12.desV h (rOf h) (S13.prsP p) := by
    have e1 : pri (S13.prsP p) = pri p := S12.pri_of fun j hj => by
      have c7 : 36 + j ≠ 4 ∧ 36 + j ≠ 7 ∧ 36 + j ≠ 8 ∧ 36 + j ≠ 9 ∧ 36 + j ≠ 10 ∧ 36 + j ≠ 11 ∧ 36 + j ≠ 13 ∧ 36 + j ≠ 24 ∧ 36 + j ≠ 25 := by omega
      have c8 : 65 ≠ 36 + j ∧ 70 ≠ 36 + j := by omega
      simp [S13.prsP, Row.setB_get, Row.setU_ne, c7, c8]
    rw [e1, s.tv]
    exact des_of (by simp [S13.prsP, gBb, gBn, gNb, gNn, gUb, gUe, gU65, gU70])
  have TT : priT (S13.prsP p) = S12.desT h (uOf h) := by
    rw [← s.tt]
    exact S12.priT_of fun j hj => by
      have c7 : 44 + j ≠ 4 ∧ 44 + j ≠ 7 ∧ 44 + j ≠ 8 ∧ 44 + j ≠ 9 ∧ 44 + j ≠ 10 ∧ 44 + j ≠ 11 ∧ 44 + j ≠ 13 ∧ 44 + j ≠ 24 ∧ 44 + j ≠ 25 := by omega
      have c8 : 65 ≠ 44 + j ∧ 70 ≠ 44 + j := by omega
      simp [S13.prsP, Row.setB_get, Row.setU_ne, c7, c8]
  refine ⟨?_, ?_, ?_, ?_, ?_, ?_, ?_, ?_, ?_, ?_, ?_, ?_, ?_, ?_, ?_, ?_, ?_, ?_, ?_, ?_, ?_, ?_, ?_, ?_, TV, TT⟩
  all_goals simp [S13.prsP, gBb, gBn, gNb, gNn, gUb, gUe, gU65, gU70, r41.1, r41.2, r42.1, r42.2, r13.1, r13.2, r3.1, r3.2, s.b2, s.b4, s.b5, s.b7, s.b8, s.b9, s.b10, s.b13, s.b14, s.b20, s.b21, s.b22, s.b24, s.b25, s.b28, s.n29, s.n30, s.n31, s.n65, s.n70, s.n72, s.n73, s.n41, s.n42, S13.delayP, pm.a]
theorem ow_g {h : Hd} {fd : Int} {i : Nat} {s : Ps} (hi : i < s.l.length) (a : Ud h fd (gtP s.l i)) (pm : Pm (gtP s.l i)) : Ot' i s.l (ptF h i s).l ∧ Ue h (fd) (gtP (ptF h i s).l i) ∧ Pm (gtP (ptF h i s).l i) := by
  have k := own_of (h := h) hi (pi_g a) (fun l hl e => ps_g a l i hl e) (pt_g a) (Or.inl (Pm.by pm (by simp [S13.prsP, gBb, gBn, gNb, gNn, gUb, gUe, gU65, gU70]) (by simp [S13.prsP, gBb, gBn, gNb, gNn, gUb, gUe, gU65, gU70]) (by simp [S13.prsP, gBb, gBn, gNb, gNn, gUb, gUe, gU65, gU70])))
  exact ⟨k.1, (po_g a pm).to k.2.1, k.2.2⟩
theorem pi_h {h : Hd} {fd : Int} {p : Pt} (s : Ue h fd p) : (S11.stepO p).getD p = p := by
  simp [S11.stepO, S11.fdsO, S11.fagO, S11.fcuO, s.b2, s.b4, s.b5, s.b7, s.b8, s.b9, s.b10, s.b13, s.b14, s.b20, s.b21, s.b22, s.b24, s.b25, s.b28, s.n29, s.n30, s.n31, s.n65, s.n70, s.n72, s.n73, s.n41, s.n42]
theorem ps_h {h : Hd} {fd : Int} {p : Pt} (s : Ue h fd p) (l : List Pt) (i : Nat) (hi : i < l.length) (e : gtP l i = p) : (S13.stepO l i).getD l = l.set i (S13.synP (p)) := by
  have e' : S13.gtP l i = p := e
  have r41 := p.u8 (j := 41) rfl
  have r42 := p.u8 (j := 42) rfl
  have r13 := h.u8 (j := 13) rfl
  have r3 := h.u8 (j := 3) rfl
  have r65 := p.u8 (j := 65) rfl
  have f : S13.firstF (S13.rulL l i) = some 273 := by
    simp [S13.rulL, S13.stR, S13.dsgR, S13.begB, S13.stopB, S13.looB, S13.askP, S13.mayP, S13.mustB, S13.firstF, e', S13.synP, gBb, gBn, gNb, gNn, gUb, gUe, gU65, gU70, r41.1, r41.2, r42.1, r42.2, r13.1, r13.2, r3.1, r3.2, s.b2, s.b4, s.b5, s.b7, s.b8, s.b9, s.b10, s.b13, s.b14, s.b20, s.b21, s.b22, s.b24, s.b25, s.b28, s.n29, s.n30, s.n31, s.n65, s.n70, s.n72, s.n73, s.n41, s.n42]
  unfold S13.stepO
  rw [f]
  show S13.fnOf 273 i l = _
  have z : S13.fnOf 273 i l = l.set i (S13.synP (S13.gtP l i)) := by unfold S13.fnOf; rfl
  rw [z, e']
theorem pt_h {h : Hd} {fd : Int} {p : Pt} (s : Ue h fd p) : (S14.pstO (S13.synP (p))).getD (S13.synP (p)) = S13.synP (p) := by
  have r41 := p.u8 (j := 41) rfl
  have r42 := p.u8 (j := 42) rfl
  have r13 := h.u8 (j := 13) rfl
  have r3 := h.u8 (j := 3) rfl
  simp [S14.pstO, S13.synP, gBb, gBn, gNb, gNn, gUb, gUe, gU65, gU70, r41.1, r41.2, r42.1, r42.2, r13.1, r13.2, r3.1, r3.2, s.b2, s.b4, s.b5, s.b7, s.b8, s.b9, s.b10, s.b13, s.b14, s.b20, s.b21, s.b22, s.b24, s.b25, s.b28, s.n29, s.n30, s.n31, s.n65, s.n70, s.n72, s.n73, s.n41, s.n42]
theorem po_h {h : Hd} {fd : Int} {p : Pt} (s : Ue h fd p) (pm : Pm p) : Uf h (fd) (S13.synP (p)) := by
  have r41 := p.u8 (j := 41) rfl
  have r42 := p.u8 (j := 42) rfl
  have r13 := h.u8 (j := 13) rfl
  have r3 := h.u8 (j := 3) rfl
  have TV : pri (S13.synP p) = S12.desV h (rOf h) (S13.synP p) := by
    have e1 : pri (S13.synP p) = pri p := S12.pri_of fun j hj => by
      have c7 : 36 + j ≠ 4 ∧ 36 + j ≠ 7 ∧ 36 + j ≠ 8 ∧ 36 + j ≠ 9 ∧ 36 + j ≠ 10 ∧ 36 + j ≠ 11 ∧ 36 + j ≠ 13 ∧ 36 + j ≠ 24 ∧ 36 + j ≠ 25 := by omega
      have c8 : 65 ≠ 36 + j ∧ 70 ≠ 36 + j := by omega
      simp [S13.synP, Row.setB_get, Row.setU_ne, c7, c8]
    rw [e1, s.tv]
    exact des_of (by simp [S13.synP, gBb, gBn, gNb, gNn, gUb, gUe, gU65, gU70])
  have TT : priT (S13.synP p) = S12.desT h (uOf h) := by
    rw [← s.tt]
    exact S12.priT_of fun j hj => by
      have c7 : 44 + j ≠ 4 ∧ 44 + j ≠ 7 ∧ 44 + j ≠ 8 ∧ 44 + j ≠ 9 ∧ 44 + j ≠ 10 ∧ 44 + j ≠ 11 ∧ 44 + j ≠ 13 ∧ 44 + j ≠ 24 ∧ 44 + j ≠ 25 := by omega
      have c8 : 65 ≠ 44 + j ∧ 70 ≠ 44 + j := by omega
      simp [S13.synP, Row.setB_get, Row.setU_ne, c7, c8]
  refine ⟨?_, ?_, ?_, ?_, ?_, ?_, ?_, ?_, ?_, ?_, ?_, ?_, ?_, ?_, ?_, ?_, ?_, ?_, ?_, ?_, ?_, ?_, ?_, ?_, TV, TT⟩
  all_goals simp [S13.synP, gBb, gBn, gNb, gNn, gUb, gUe, gU65, gU70, r41.1, r41.2, r42.1, r42.2, r13.1, r13.2, r3.1, r3.2, s.b2, s.b4, s.b5, s.b7, s.b8, s.b9, s.b10, s.b13, s.b14, s.b20, s.b21, s.b22, s.b24, s.b25, s.b28, s.n29, s.n30, s.n31, s.n65, s.n70, s.n72, s.n73, s.n41, s.n42, S13.delayP, pm.a]
theorem ow_h {h : Hd} {fd : Int} {i : Nat} {s : Ps} (hi : i < s.l.length) (a : Ue h fd (gtP s.l i)) (pm : Pm (gtP s.l i)) : Ot' i s.l (ptF h i s).l ∧ Uf h (fd) (gtP (ptF h i s).l i) ∧ Pm (gtP (ptF h i s).l i) := by
  have k := own_of (h := h) hi (pi_h a) (fun l hl e => ps_h a l i hl e) (pt_h a) (Or.inl (Pm.by pm (by simp [S13.synP, gBb, gBn, gNb, gNn, gUb, gUe, gU65, gU70]) (by simp [S13.synP, gBb, gBn, gNb, gNn, gUb, gUe, gU65, gU70]) (by simp [S13.synP, gBb, gBn, gNb, gNn, gUb, gUe, gU65, gU70])))
  exact ⟨k.1, (po_h a pm).to k.2.1, k.2.2⟩
theorem pi_f {h : Hd} {fd : Int} {p : Pt} (s : Uf h fd p) (hf : fd ≠ 0) : (S11.stepO p).getD p = p := by
  simp [S11.stepO, S11.fdsO, S11.fagO, S11.fcuO, s.b2, s.b4, s.b5, s.b7, s.b8, s.b9, s.b10, s.b13, s.b14, s.b20, s.b21, s.b22, s.b24, s.b25, s.b28, s.n29, s.n30, s.n31, s.n65, s.n70, s.n72, s.n73, s.n41, s.n42]
theorem ps_f {h : Hd} {fd : Int} {p : Pt} (s : Uf h fd p) (hf : fd ≠ 0) (l : List Pt) (i : Nat) (hi : i < l.length) (e : gtP l i = p) : (S13.stepO l i).getD l = l.set i (p) := by
  have e' : S13.gtP l i = p := e
  have r41 := p.u8 (j := 41) rfl
  have r42 := p.u8 (j := 42) rfl
  have r13 := h.u8 (j := 13) rfl
  have r3 := h.u8 (j := 3) rfl
  have r65 := p.u8 (j := 65) rfl
  have hb : (fd == 0) = false := by simpa using hf
  have hc : (fd != 0) = true := by simpa using hf
  have f : S13.firstF (S13.rulL l i) = none := by
    simp [S13.rulL, S13.stR, S13.dsgR, S13.begB, S13.stopB, S13.looB, S13.askP, S13.mayP, S13.mustB, S13.firstF, e', gBb, gBn, gNb, gNn, gUb, gUe, gU65, gU70, r41.1, r41.2, r42.1, r42.2, r13.1, r13.2, r3.1, r3.2, s.b2, s.b4, s.b5, s.b7, s.b8, s.b9, s.b10, s.b13, s.b14, s.b20, s.b21, s.b22, s.b24, s.b25, s.b28, s.n29, s.n30, s.n31, s.n65, s.n70, s.n72, s.n73, s.n41, s.n42, hf, hb, hc]
  unfold S13.stepO
  rw [f]
  exact self_set hi e
theorem pt_f {h : Hd} {fd : Int} {p : Pt} (s : Uf h fd p) (hf : fd ≠ 0) : (S14.pstO (p)).getD (p) = p := by
  have r41 := p.u8 (j := 41) rfl
  have r42 := p.u8 (j := 42) rfl
  have r13 := h.u8 (j := 13) rfl
  have r3 := h.u8 (j := 3) rfl
  have hb : (fd == 0) = false := by simpa using hf
  have hc : (fd != 0) = true := by simpa using hf
  simp [S14.pstO, gBb, gBn, gNb, gNn, gUb, gUe, gU65, gU70, r41.1, r41.2, r42.1, r42.2, r13.1, r13.2, r3.1, r3.2, s.b2, s.b4, s.b5, s.b7, s.b8, s.b9, s.b10, s.b13, s.b14, s.b20, s.b21, s.b22, s.b24, s.b25, s.b28, s.n29, s.n30, s.n31, s.n65, s.n70, s.n72, s.n73, s.n41, s.n42, hf, hb, hc]
theorem po_f {h : Hd} {fd : Int} {p : Pt} (s : Uf h fd p) (hf : fd ≠ 0) (pm : Pm p) : Uf h (fd) (p) := by
  have r41 := p.u8 (j := 41) rfl
  have r42 := p.u8 (j := 42) rfl
  have r13 := h.u8 (j := 13) rfl
  have r3 := h.u8 (j := 3) rfl
  have hb : (fd == 0) = false := by simpa using hf
  have hc : (fd != 0) = true := by simpa using hf
  have TV := s.tv
  have TT := s.tt
  refine ⟨?_, ?_, ?_, ?_, ?_, ?_, ?_, ?_, ?_, ?_, ?_, ?_, ?_, ?_, ?_, ?_, ?_, ?_, ?_, ?_, ?_, ?_, ?_, ?_, TV, TT⟩
  all_goals simp [gBb, gBn, gNb, gNn, gUb, gUe, gU65, gU70, r41.1, r41.2, r42.1, r42.2, r13.1, r13.2, r3.1, r3.2, s.b2, s.b4, s.b5, s.b7, s.b8, s.b9, s.b10, s.b13, s.b14, s.b20, s.b21, s.b22, s.b24, s.b25, s.b28, s.n29, s.n30, s.n31, s.n65, s.n70, s.n72, s.n73, s.n41, s.n42, hf, hb, hc, S13.delayP, pm.a]
theorem ow_f {h : Hd} {fd : Int} {i : Nat} {s : Ps} (hi : i < s.l.length) (a : Uf h fd (gtP s.l i)) (hf : fd ≠ 0) (pm : Pm (gtP s.l i)) : Ot' i s.l (ptF h i s).l ∧ Uf h (fd) (gtP (ptF h i s).l i) ∧ Pm (gtP (ptF h i s).l i) := by
  have k := own_of (h := h) hi (pi_f a hf) (fun l hl e => ps_f a hf l i hl e) (pt_f a hf) (Or.inl (Pm.by pm (by simp [gBb, gBn, gNb, gNn, gUb, gUe, gU65, gU70]) (by simp [gBb, gBn, gNb, gNn, gUb, gUe, gU65, gU70]) (by simp [gBb, gBn, gNb, gNn, gUb, gUe, gU65, gU70])))
  exact ⟨k.1, (po_f a hf pm).to k.2.1, k.2.2⟩
theorem pi_l {h : Hd} {fd : Int} {p : Pt} (s : Uf h fd p) (hf : fd = 0) : (S11.stepO p).getD p = p := by
  simp [S11.stepO, S11.fdsO, S11.fagO, S11.fcuO, s.b2, s.b4, s.b5, s.b7, s.b8, s.b9, s.b10, s.b13, s.b14, s.b20, s.b21, s.b22, s.b24, s.b25, s.b28, s.n29, s.n30, s.n31, s.n65, s.n70, s.n72, s.n73, s.n41, s.n42]
theorem ps_l {h : Hd} {fd : Int} {p : Pt} (s : Uf h fd p) (hf : fd = 0) (l : List Pt) (i : Nat) (hi : i < l.length) (e : gtP l i = p) : (S13.stepO l i).getD l = l.set i (S13.lrnP (p)) := by
  have e' : S13.gtP l i = p := e
  have r41 := p.u8 (j := 41) rfl
  have r42 := p.u8 (j := 42) rfl
  have r13 := h.u8 (j := 13) rfl
  have r3 := h.u8 (j := 3) rfl
  have r65 := p.u8 (j := 65) rfl
  have f : S13.firstF (S13.rulL l i) = some 268 := by
    simp [S13.rulL, S13.stR, S13.dsgR, S13.begB, S13.stopB, S13.looB, S13.askP, S13.mayP, S13.mustB, S13.firstF, e', S13.lrnP, S14.doesP, gBb, gBn, gNb, gNn, gUb, gUe, gU65, gU70, r41.1, r41.2, r42.1, r42.2, r13.1, r13.2, r3.1, r3.2, s.b2, s.b4, s.b5, s.b7, s.b8, s.b9, s.b10, s.b13, s.b14, s.b20, s.b21, s.b22, s.b24, s.b25, s.b28, s.n29, s.n30, s.n31, s.n65, s.n70, s.n72, s.n73, s.n41, s.n42, hf]
  unfold S13.stepO
  rw [f]
  show S13.fnOf 268 i l = _
  have z : S13.fnOf 268 i l = l.set i (S13.lrnP (S13.gtP l i)) := by unfold S13.fnOf; rfl
  rw [z, e']
theorem pt_l {h : Hd} {fd : Int} {p : Pt} (s : Uf h fd p) (hf : fd = 0) : (S14.pstO (S13.lrnP (p))).getD (S13.lrnP (p)) = S14.doesP true false (S13.lrnP (p)) := by
  have r41 := p.u8 (j := 41) rfl
  have r42 := p.u8 (j := 42) rfl
  have r13 := h.u8 (j := 13) rfl
  have r3 := h.u8 (j := 3) rfl
  simp [S14.pstO, S13.lrnP, S14.doesP, gBb, gBn, gNb, gNn, gUb, gUe, gU65, gU70, r41.1, r41.2, r42.1, r42.2, r13.1, r13.2, r3.1, r3.2, s.b2, s.b4, s.b5, s.b7, s.b8, s.b9, s.b10, s.b13, s.b14, s.b20, s.b21, s.b22, s.b24, s.b25, s.b28, s.n29, s.n30, s.n31, s.n65, s.n70, s.n72, s.n73, s.n41, s.n42, hf]
theorem po_l {h : Hd} {fd : Int} {p : Pt} (s : Uf h fd p) (hf : fd = 0) (pm : Pm p) : Ul h (h.nm 3) (S14.doesP true false (S13.lrnP (p))) := by
  have r41 := p.u8 (j := 41) rfl
  have r42 := p.u8 (j := 42) rfl
  have r13 := h.u8 (j := 13) rfl
  have r3 := h.u8 (j := 3) rfl
  have TV : pri (S14.doesP true false (S13.lrnP p)) = S12.desV h (rOf h) (S14.doesP true false (S13.lrnP p)) := by
    have e1 : pri (S14.doesP true false (S13.lrnP p)) = pri p := S12.pri_of fun j hj => by
      have c7 : 36 + j ≠ 4 ∧ 36 + j ≠ 7 ∧ 36 + j ≠ 8 ∧ 36 + j ≠ 9 ∧ 36 + j ≠ 10 ∧ 36 + j ≠ 11 ∧ 36 + j ≠ 13 ∧ 36 + j ≠ 24 ∧ 36 + j ≠ 25 := by omega
      have c8 : 65 ≠ 36 + j ∧ 70 ≠ 36 + j := by omega
      simp [S13.lrnP, S14.doesP, Row.setB_get, Row.setU_ne, c7, c8]
    rw [e1, s.tv]
    exact des_of (by simp [S13.lrnP, S14.doesP, gBb, gBn, gNb, gNn, gUb, gUe, gU65, gU70])
  have TT : priT (S14.doesP true false (S13.lrnP p)) = S12.desT h (uOf h) := by
    rw [← s.tt]
    exact S12.priT_of fun j hj => by
      have c7 : 44 + j ≠ 4 ∧ 44 + j ≠ 7 ∧ 44 + j ≠ 8 ∧ 44 + j ≠ 9 ∧ 44 + j ≠ 10 ∧ 44 + j ≠ 11 ∧ 44 + j ≠ 13 ∧ 44 + j ≠ 24 ∧ 44 + j ≠ 25 := by omega
      have c8 : 65 ≠ 44 + j ∧ 70 ≠ 44 + j := by omega
      simp [S13.lrnP, S14.doesP, Row.setB_get, Row.setU_ne, c7, c8]
  refine ⟨?_, ?_, ?_, ?_, ?_, ?_, ?_, ?_, ?_, ?_, ?_, ?_, ?_, ?_, ?_, ?_, ?_, ?_, ?_, ?_, ?_, ?_, ?_, ?_, TV, TT⟩
  all_goals simp [S13.lrnP, S14.doesP, gBb, gBn, gNb, gNn, gUb, gUe, gU65, gU70, r41.1, r41.2, r42.1, r42.2, r13.1, r13.2, r3.1, r3.2, s.b2, s.b4, s.b5, s.b7, s.b8, s.b9, s.b10, s.b13, s.b14, s.b20, s.b21, s.b22, s.b24, s.b25, s.b28, s.n29, s.n30, s.n31, s.n65, s.n70, s.n72, s.n73, s.n41, s.n42, hf, S13.delayP, pm.a]
theorem ow_l {h : Hd} {fd : Int} {i : Nat} {s : Ps} (hi : i < s.l.length) (a : Uf h fd (gtP s.l i)) (hf : fd = 0) (pm : Pm (gtP s.l i)) : Ot' i s.l (ptF h i s).l ∧ Ul h (h.nm 3) (gtP (ptF h i s).l i) ∧ Pm (gtP (ptF h i s).l i) := by
  have k := own_of (h := h) hi (pi_l a hf) (fun l hl e => ps_l a hf l i hl e) (pt_l a hf) (Or.inl (Pm.by pm (by simp [S13.lrnP, S14.doesP, gBb, gBn, gNb, gNn, gUb, gUe, gU65, gU70]) (by simp [S13.lrnP, S14.doesP, gBb, gBn, gNb, gNn, gUb, gUe, gU65, gU70]) (by simp [S13.lrnP, S14.doesP, gBb, gBn, gNb, gNn, gUb, gUe, gU65, gU70])))
  exact ⟨k.1, (po_l a hf pm).to k.2.1, k.2.2⟩
theorem pi_m {h : Hd} {fd : Int} {p : Pt} (s : Ul h fd p) (hf : fd ≠ 0) : (S11.stepO p).getD p = p := by
  simp [S11.stepO, S11.fdsO, S11.fagO, S11.fcuO, s.b2, s.b4, s.b5, s.b7, s.b8, s.b9, s.b10, s.b13, s.b14, s.b20, s.b21, s.b22, s.b24, s.b25, s.b28, s.n29, s.n30, s.n31, s.n65, s.n70, s.n72, s.n73, s.n41, s.n42]
theorem ps_m {h : Hd} {fd : Int} {p : Pt} (s : Ul h fd p) (hf : fd ≠ 0) (l : List Pt) (i : Nat) (hi : i < l.length) (e : gtP l i = p) : (S13.stepO l i).getD l = l.set i (p) := by
  have e' : S13.gtP l i = p := e
  have r41 := p.u8 (j := 41) rfl
  have r42 := p.u8 (j := 42) rfl
  have r13 := h.u8 (j := 13) rfl
  have r3 := h.u8 (j := 3) rfl
  have r65 := p.u8 (j := 65) rfl
  have hb : (fd == 0) = false := by simpa using hf
  have hc : (fd != 0) = true := by simpa using hf
  have f : S13.firstF (S13.rulL l i) = none := by
    simp [S13.rulL, S13.stR, S13.dsgR, S13.begB, S13.stopB, S13.looB, S13.askP, S13.mayP, S13.mustB, S13.firstF, e', gBb, gBn, gNb, gNn, gUb, gUe, gU65, gU70, r41.1, r41.2, r42.1, r42.2, r13.1, r13.2, r3.1, r3.2, s.b2, s.b4, s.b5, s.b7, s.b8, s.b9, s.b10, s.b13, s.b14, s.b20, s.b21, s.b22, s.b24, s.b25, s.b28, s.n29, s.n30, s.n31, s.n65, s.n70, s.n72, s.n73, s.n41, s.n42, hf, hb, hc]
  unfold S13.stepO
  rw [f]
  exact self_set hi e
theorem pt_m {h : Hd} {fd : Int} {p : Pt} (s : Ul h fd p) (hf : fd ≠ 0) : (S14.pstO (p)).getD (p) = p := by
  have r41 := p.u8 (j := 41) rfl
  have r42 := p.u8 (j := 42) rfl
  have r13 := h.u8 (j := 13) rfl
  have r3 := h.u8 (j := 3) rfl
  have hb : (fd == 0) = false := by simpa using hf
  have hc : (fd != 0) = true := by simpa using hf
  simp [S14.pstO, gBb, gBn, gNb, gNn, gUb, gUe, gU65, gU70, r41.1, r41.2, r42.1, r42.2, r13.1, r13.2, r3.1, r3.2, s.b2, s.b4, s.b5, s.b7, s.b8, s.b9, s.b10, s.b13, s.b14, s.b20, s.b21, s.b22, s.b24, s.b25, s.b28, s.n29, s.n30, s.n31, s.n65, s.n70, s.n72, s.n73, s.n41, s.n42, hf, hb, hc]
theorem po_m {h : Hd} {fd : Int} {p : Pt} (s : Ul h fd p) (hf : fd ≠ 0) (pm : Pm p) : Ul h (fd) (p) := by
  have r41 := p.u8 (j := 41) rfl
  have r42 := p.u8 (j := 42) rfl
  have r13 := h.u8 (j := 13) rfl
  have r3 := h.u8 (j := 3) rfl
  have hb : (fd == 0) = false := by simpa using hf
  have hc : (fd != 0) = true := by simpa using hf
  have TV := s.tv
  have TT := s.tt
  refine ⟨?_, ?_, ?_, ?_, ?_, ?_, ?_, ?_, ?_, ?_, ?_, ?_, ?_, ?_, ?_, ?_, ?_, ?_, ?_, ?_, ?_, ?_, ?_, ?_, TV, TT⟩
  all_goals simp [gBb, gBn, gNb, gNn, gUb, gUe, gU65, gU70, r41.1, r41.2, r42.1, r42.2, r13.1, r13.2, r3.1, r3.2, s.b2, s.b4, s.b5, s.b7, s.b8, s.b9, s.b10, s.b13, s.b14, s.b20, s.b21, s.b22, s.b24, s.b25, s.b28, s.n29, s.n30, s.n31, s.n65, s.n70, s.n72, s.n73, s.n41, s.n42, hf, hb, hc, S13.delayP, pm.a]
theorem ow_m {h : Hd} {fd : Int} {i : Nat} {s : Ps} (hi : i < s.l.length) (a : Ul h fd (gtP s.l i)) (hf : fd ≠ 0) (pm : Pm (gtP s.l i)) : Ot' i s.l (ptF h i s).l ∧ Ul h (fd) (gtP (ptF h i s).l i) ∧ Pm (gtP (ptF h i s).l i) := by
  have k := own_of (h := h) hi (pi_m a hf) (fun l hl e => ps_m a hf l i hl e) (pt_m a hf) (Or.inl (Pm.by pm (by simp [gBb, gBn, gNb, gNn, gUb, gUe, gU65, gU70]) (by simp [gBb, gBn, gNb, gNn, gUb, gUe, gU65, gU70]) (by simp [gBb, gBn, gNb, gNn, gUb, gUe, gU65, gU70])))
  exact ⟨k.1, (po_m a hf pm).to k.2.1, k.2.2⟩
theorem pi_w {h : Hd} {fd : Int} {p : Pt} (s : Ul h fd p) (hf : fd = 0) : (S11.stepO p).getD p = p := by
  simp [S11.stepO, S11.fdsO, S11.fagO, S11.fcuO, s.b2, s.b4, s.b5, s.b7, s.b8, s.b9, s.b10, s.b13, s.b14, s.b20, s.b21, s.b22, s.b24, s.b25, s.b28, s.n29, s.n30, s.n31, s.n65, s.n70, s.n72, s.n73, s.n41, s.n42]
theorem ps_w {h : Hd} {fd : Int} {p : Pt} (s : Ul h fd p) (hf : fd = 0) (l : List Pt) (i : Nat) (hi : i < l.length) (e : gtP l i = p) : (S13.stepO l i).getD l = l.set i (S13.fwdDP (p)) := by
  have e' : S13.gtP l i = p := e
  have r41 := p.u8 (j := 41) rfl
  have r42 := p.u8 (j := 42) rfl
  have r13 := h.u8 (j := 13) rfl
  have r3 := h.u8 (j := 3) rfl
  have r65 := p.u8 (j := 65) rfl
  have f : S13.firstF (S13.rulL l i) = some 275 := by
    simp [S13.rulL, S13.stR, S13.dsgR, S13.begB, S13.stopB, S13.looB, S13.askP, S13.mayP, S13.mustB, S13.firstF, e', S13.fwdDP, S13.fwdP, S14.doesP, gBb, gBn, gNb, gNn, gUb, gUe, gU65, gU70, r41.1, r41.2, r42.1, r42.2, r13.1, r13.2, r3.1, r3.2, s.b2, s.b4, s.b5, s.b7, s.b8, s.b9, s.b10, s.b13, s.b14, s.b20, s.b21, s.b22, s.b24, s.b25, s.b28, s.n29, s.n30, s.n31, s.n65, s.n70, s.n72, s.n73, s.n41, s.n42, hf]
  unfold S13.stepO
  rw [f]
  show S13.fnOf 275 i l = _
  have z : S13.fnOf 275 i l = l.set i (S13.fwdDP (S13.gtP l i)) := by unfold S13.fnOf; rfl
  rw [z, e']
theorem pt_w {h : Hd} {fd : Int} {p : Pt} (s : Ul h fd p) (hf : fd = 0) : (S14.pstO (S13.fwdDP (p))).getD (S13.fwdDP (p)) = S14.doesP true true (S13.fwdDP (p)) := by
  have r41 := p.u8 (j := 41) rfl
  have r42 := p.u8 (j := 42) rfl
  have r13 := h.u8 (j := 13) rfl
  have r3 := h.u8 (j := 3) rfl
  simp [S14.pstO, S13.fwdDP, S13.fwdP, S14.doesP, gBb, gBn, gNb, gNn, gUb, gUe, gU65, gU70, r41.1, r41.2, r42.1, r42.2, r13.1, r13.2, r3.1, r3.2, s.b2, s.b4, s.b5, s.b7, s.b8, s.b9, s.b10, s.b13, s.b14, s.b20, s.b21, s.b22, s.b24, s.b25, s.b28, s.n29, s.n30, s.n31, s.n65, s.n70, s.n72, s.n73, s.n41, s.n42, hf]
theorem po_w {h : Hd} {fd : Int} {p : Pt} (s : Ul h fd p) (hf : fd = 0) (pm : Pm p) : Ug h (0) (S14.doesP true true (S13.fwdDP (p))) := by
  have r41 := p.u8 (j := 41) rfl
  have r42 := p.u8 (j := 42) rfl
  have r13 := h.u8 (j := 13) rfl
  have r3 := h.u8 (j := 3) rfl
  have TV : pri (S14.doesP true true (S13.fwdDP p)) = S12.desV h (rOf h) (S14.doesP true true (S13.fwdDP p)) := by
    have e1 : pri (S14.doesP true true (S13.fwdDP p)) = pri p := S12.pri_of fun j hj => by
      have c7 : 36 + j ≠ 4 ∧ 36 + j ≠ 7 ∧ 36 + j ≠ 8 ∧ 36 + j ≠ 9 ∧ 36 + j ≠ 10 ∧ 36 + j ≠ 11 ∧ 36 + j ≠ 13 ∧ 36 + j ≠ 24 ∧ 36 + j ≠ 25 := by omega
      have c8 : 65 ≠ 36 + j ∧ 70 ≠ 36 + j := by omega
      simp [S13.fwdDP, S13.fwdP, S14.doesP, Row.setB_get, Row.setU_ne, c7, c8]
    rw [e1, s.tv]
    exact des_of (by simp [S13.fwdDP, S13.fwdP, S14.doesP, gBb, gBn, gNb, gNn, gUb, gUe, gU65, gU70])
  have TT : priT (S14.doesP true true (S13.fwdDP p)) = S12.desT h (uOf h) := by
    rw [← s.tt]
    exact S12.priT_of fun j hj => by
      have c7 : 44 + j ≠ 4 ∧ 44 + j ≠ 7 ∧ 44 + j ≠ 8 ∧ 44 + j ≠ 9 ∧ 44 + j ≠ 10 ∧ 44 + j ≠ 11 ∧ 44 + j ≠ 13 ∧ 44 + j ≠ 24 ∧ 44 + j ≠ 25 := by omega
      have c8 : 65 ≠ 44 + j ∧ 70 ≠ 44 + j := by omega
      simp [S13.fwdDP, S13.fwdP, S14.doesP, Row.setB_get, Row.setU_ne, c7, c8]
  refine ⟨?_, ?_, ?_, ?_, ?_, ?_, ?_, ?_, ?_, ?_, ?_, ?_, ?_, ?_, ?_, ?_, ?_, ?_, ?_, ?_, ?_, ?_, ?_, TV, TT⟩
  all_goals simp [S13.fwdDP, S13.fwdP, S14.doesP, gBb, gBn, gNb, gNn, gUb, gUe, gU65, gU70, r41.1, r41.2, r42.1, r42.2, r13.1, r13.2, r3.1, r3.2, s.b2, s.b4, s.b5, s.b7, s.b8, s.b9, s.b10, s.b13, s.b14, s.b20, s.b21, s.b22, s.b24, s.b25, s.b28, s.n29, s.n30, s.n31, s.n65, s.n70, s.n72, s.n73, s.n41, s.n42, hf, S13.delayP, pm.a]
theorem ow_w {h : Hd} {fd : Int} {i : Nat} {s : Ps} (hi : i < s.l.length) (a : Ul h fd (gtP s.l i)) (hf : fd = 0) (pm : Pm (gtP s.l i)) : Ot' i s.l (ptF h i s).l ∧ Ug h (0) (gtP (ptF h i s).l i) ∧ Pm (gtP (ptF h i s).l i) := by
  have k := own_of (h := h) hi (pi_w a hf) (fun l hl e => ps_w a hf l i hl e) (pt_w a hf) (Or.inl (Pm.by pm (by simp [S13.fwdDP, S13.fwdP, S14.doesP, gBb, gBn, gNb, gNn, gUb, gUe, gU65, gU70]) (by simp [S13.fwdDP, S13.fwdP, S14.doesP, gBb, gBn, gNb, gNn, gUb, gUe, gU65, gU70]) (by simp [S13.fwdDP, S13.fwdP, S14.doesP, gBb, gBn, gNb, gNn, gUb, gUe, gU65, gU70])))
  exact ⟨k.1, (po_w a hf pm).to k.2.1, k.2.2⟩
theorem pi_v {h : Hd} {fd : Int} {p : Pt} (s : Ug h fd p) (hf : fd = 0) : (S11.stepO p).getD p = p := by
  simp [S11.stepO, S11.fdsO, S11.fagO, S11.fcuO, s.b2, s.b4, s.b5, s.b7, s.b8, s.b9, s.b10, s.b14, s.b20, s.b21, s.b22, s.b24, s.b25, s.b28, s.n29, s.n30, s.n31, s.n65, s.n70, s.n72, s.n73, s.n41, s.n42]
theorem ps_v {h : Hd} {fd : Int} {p : Pt} (s : Ug h fd p) (hf : fd = 0) (l : List Pt) (i : Nat) (hi : i < l.length) (e : gtP l i = p) : (S13.stepO l i).getD l = l.set i (p) := by
  have e' : S13.gtP l i = p := e
  have r41 := p.u8 (j := 41) rfl
  have r42 := p.u8 (j := 42) rfl
  have r13 := h.u8 (j := 13) rfl
  have r3 := h.u8 (j := 3) rfl
  have r65 := p.u8 (j := 65) rfl
  have f : S13.firstF (S13.rulL l i) = none := by
    simp [S13.rulL, S13.stR, S13.dsgR, S13.begB, S13.stopB, S13.looB, S13.askP, S13.mayP, S13.mustB, S13.firstF, e', gBb, gBn, gNb, gNn, gUb, gUe, gU65, gU70, r41.1, r41.2, r42.1, r42.2, r13.1, r13.2, r3.1, r3.2, s.b2, s.b4, s.b5, s.b7, s.b8, s.b9, s.b10, s.b14, s.b20, s.b21, s.b22, s.b24, s.b25, s.b28, s.n29, s.n30, s.n31, s.n65, s.n70, s.n72, s.n73, s.n41, s.n42, hf]
  unfold S13.stepO
  rw [f]
  exact self_set hi e
theorem pt_v {h : Hd} {fd : Int} {p : Pt} (s : Ug h fd p) (hf : fd = 0) : (S14.pstO (p)).getD (p) = p := by
  have r41 := p.u8 (j := 41) rfl
  have r42 := p.u8 (j := 42) rfl
  have r13 := h.u8 (j := 13) rfl
  have r3 := h.u8 (j := 3) rfl
  simp [S14.pstO, gBb, gBn, gNb, gNn, gUb, gUe, gU65, gU70, r41.1, r41.2, r42.1, r42.2, r13.1, r13.2, r3.1, r3.2, s.b2, s.b4, s.b5, s.b7, s.b8, s.b9, s.b10, s.b14, s.b20, s.b21, s.b22, s.b24, s.b25, s.b28, s.n29, s.n30, s.n31, s.n65, s.n70, s.n72, s.n73, s.n41, s.n42, hf]
theorem po_v {h : Hd} {fd : Int} {p : Pt} (s : Ug h fd p) (hf : fd = 0) (pm : Pm p) : Ug h (fd) (p) := by
  have r41 := p.u8 (j := 41) rfl
  have r42 := p.u8 (j := 42) rfl
  have r13 := h.u8 (j := 13) rfl
  have r3 := h.u8 (j := 3) rfl
  have TV := s.tv
  have TT := s.tt
  refine ⟨?_, ?_, ?_, ?_, ?_, ?_, ?_, ?_, ?_, ?_, ?_, ?_, ?_, ?_, ?_, ?_, ?_, ?_, ?_, ?_, ?_, ?_, ?_, TV, TT⟩
  all_goals simp [gBb, gBn, gNb, gNn, gUb, gUe, gU65, gU70, r41.1, r41.2, r42.1, r42.2, r13.1, r13.2, r3.1, r3.2, s.b2, s.b4, s.b5, s.b7, s.b8, s.b9, s.b10, s.b14, s.b20, s.b21, s.b22, s.b24, s.b25, s.b28, s.n29, s.n30, s.n31, s.n65, s.n70, s.n72, s.n73, s.n41, s.n42, hf, S13.delayP, pm.a]
theorem ow_v {h : Hd} {fd : Int} {i : Nat} {s : Ps} (hi : i < s.l.length) (a : Ug h fd (gtP s.l i)) (hf : fd = 0) (pm : Pm (gtP s.l i)) : Ot' i s.l (ptF h i s).l ∧ Ug h (fd) (gtP (ptF h i s).l i) ∧ Pm (gtP (ptF h i s).l i) := by
  have k := own_of (h := h) hi (pi_v a hf) (fun l hl e => ps_v a hf l i hl e) (pt_v a hf) (Or.inl (Pm.by pm (by simp [gBb, gBn, gNb, gNn, gUb, gUe, gU65, gU70]) (by simp [gBb, gBn, gNb, gNn, gUb, gUe, gU65, gU70]) (by simp [gBb, gBn, gNb, gNn, gUb, gUe, gU65, gU70])))
  exact ⟨k.1, (po_v a hf pm).to k.2.1, k.2.2⟩
end S17
end
section
namespace S17
open Go.RowKit
open S14 (gtP gtP_at set_self)

theorem gPb {ks ks' : List (Option IntKind)} (r : Row ks) (o : Nat) (s : Row ks') (h : (ks.drop o).take ks'.length = ks') (hl : o + ks'.length ≤ ks.length) (i : Nat) : (r.put o s h hl).bt i = if o ≤ i ∧ i < o + ks'.length then s.bt (i - o) else r.bt i := by
  unfold Row.bt
  rw [r.put_get]
  by_cases e : o ≤ i ∧ i < o + ks'.length
  · rw [if_pos e, if_pos e]
  · rw [if_neg e, if_neg e]
theorem gPn {ks ks' : List (Option IntKind)} (r : Row ks) (o : Nat) (s : Row ks') (h : (ks.drop o).take ks'.length = ks') (hl : o + ks'.length ≤ ks.length) (i : Nat) : (r.put o s h hl).nm i = if o ≤ i ∧ i < o + ks'.length then s.nm (i - o) else r.nm i := by
  unfold Row.nm
  rw [r.put_get]
  by_cases e : o ≤ i ∧ i < o + ks'.length
  · rw [if_pos e, if_pos e]
  · rw [if_neg e, if_neg e]
structure HR (h : Hd) : Prop where
  b6 : h.bt 6 = true
  n7 : h.nm 7 = 0
  rt : rOf h = S12.ownV h
  ut : uOf h = tOfH h
theorem sb (h : Hd) (r : Bool) (p : Pt) {j : Nat} (hj : S12.still j) : (S12.selP h r p).bt j = p.bt j := bt_c (S12.sel_still h r p hj)
theorem sn (h : Hd) (r : Bool) (p : Pt) {j : Nat} (hj : S12.still j) : (S12.selP h r p).nm j = p.nm j := nm_c (S12.sel_still h r p hj)
theorem s21 (h : Hd) (r : Bool) (p : Pt) : (S12.selP h r p).bt 21 = false := by unfold Row.bt S12.selP; rw [S12.asgP_get]; rfl
theorem s22 (h : Hd) (r : Bool) (p : Pt) : (S12.selP h r p).bt 22 = true := by unfold Row.bt S12.selP; rw [S12.asgP_get]; rfl
theorem s28 (h : Hd) (r : Bool) (p : Pt) : (S12.selP h r p).bt 28 = S12.updB h r (S12.telP h p) := by unfold Row.bt S12.selP; rw [S12.asgP_get]; rfl
theorem s31 (h : Hd) (r : Bool) (p : Pt) : (S12.selP h r p).nm 31 = S12.wanN h r (S12.telP h p) := by unfold Row.nm S12.selP; rw [S12.asgP_get]; rfl
theorem s41 (h : Hd) (r : Bool) (p : Pt) : (S12.selP h r p).nm 41 = h.nm 13 := by
  have : (S12.selP h r p).cl[41]? = (S12.desT h (uOf h)).cl[1]? := by
    unfold S12.selP
    rw [S12.asg_still _ _ _ (by omega), S12.telP_get]
    rfl
  rw [nm_c this]
  show (uOf h).nm 1 = _
  exact nm_c (by show ((h.cl.drop 12).take 4)[1]? = _; rw [List.getElem?_take, if_pos (by omega), List.getElem?_drop])
theorem s42 (h : Hd) (r : Bool) (p : Pt) : (S12.selP h r p).nm 42 = h.nm 3 := by
  have : (S12.selP h r p).cl[42]? = (S12.desT h (uOf h)).cl[2]? := by
    unfold S12.selP
    rw [S12.asg_still _ _ _ (by omega), S12.telP_get]
    rfl
  rw [nm_c this]
  rfl
theorem sdv (h : Hd) (r : Bool) (p : Pt) : dsg (S12.selP h r p) = S12.desV h (rOf h) p := by
  rw [← S12.tel_dsg]
  exact S12.dsg_of fun j hj => S12.asg_still _ _ _ (by omega)
theorem sdt (h : Hd) (r : Bool) (p : Pt) : S12.dsgT (S12.selP h r p) = S12.desT h (uOf h) := by
  rw [← S12.tel_dsgT h p]
  exact S12.dsgT_of fun j hj => S12.asg_still _ _ _ (by omega)
theorem spv (h : Hd) (r : Bool) (p : Pt) : pri (S12.selP h r p) = pri p := S12.pri_of fun j hj => S12.sel_still h r p (by unfold S12.still; omega)
theorem spt (h : Hd) (r : Bool) (p : Pt) : priT (S12.selP h r p) = priT p := S12.priT_of fun j hj => S12.sel_still h r p (by unfold S12.still; omega)
theorem s_out (h : Hd) (p : Pt) (tv : pri p = S12.desV h (rOf h) p) (tt : priT p = S12.desT h (uOf h)) : S12.outB (S12.telP h p) = false := by
  unfold S12.outB
  rw [S12.tel_pri, S12.tel_priT, S12.tel_dsg, S12.tel_dsgT, tv, tt, Row.eq_self, Row.eq_self]
  rfl
theorem s_want (h : Hd) (r : Bool) (p : Pt) : S12.wanN h r (S12.telP h p) = if p.nm 29 = 1 then 4 else if p.nm 29 = 2 then 4 else if p.nm 29 = 3 then S12.heaN h r (S12.telP h p) else 0 := by
  unfold S12.wanN
  rw [S12.tel_nm h p (by omega)]
theorem s_upd (h : Hd) (r : Bool) (p : Pt) : S12.updB h r (S12.telP h p) = if p.nm 29 = 1 then true else if p.nm 29 = 2 then p.bt 28 || S12.outB (S12.telP h p) else if p.nm 29 = 3 then decide (S12.heaN h r (S12.telP h p) = 4) else p.bt 28 := by
  unfold S12.updB
  rw [S12.tel_nm h p (by omega), S12.tel_bt h p (by omega)]
theorem m_sel (h : Hd) (r : Bool) {p : Pt} (m : Pm p) : Pm (S12.selP h r p) := m.of (sb h r p (by unfold S12.still; omega)) (sb h r p (by unfold S12.still; omega)) (sn h r p (by unfold S12.still; omega))
theorem se_Zr {h : Hd} {fd : Int} {p : Pt} (s : Zr h fd p) (r : Bool) : Zs h fd (S12.selP h r p) := by
  exact ⟨by rw [sb h r p (by unfold S12.still; omega)]; exact s.b2, by rw [sb h r p (by unfold S12.still; omega)]; exact s.b4, by rw [sb h r p (by unfold S12.still; omega)]; exact s.b5, by rw [sb h r p (by unfold S12.still; omega)]; exact s.b7, by rw [sb h r p (by unfold S12.still; omega)]; exact s.b8, by rw [sb h r p (by unfold S12.still; omega)]; exact s.b9, by rw [sb h r p (by unfold S12.still; omega)]; exact s.b10, by rw [sb h r p (by unfold S12.still; omega)]; exact s.b13, by rw [sb h r p (by unfold S12.still; omega)]; exact s.b14, by rw [sb h r p (by unfold S12.still; omega)]; exact s.b20, s21 h r p, s22 h r p, by rw [sb h r p (by unfold S12.still; omega)]; exact s.b24, by rw [sb h r p (by unfold S12.still; omega)]; exact s.b25, by rw [s28, s_upd]; simp [s.n29, s.b28], by rw [sn h r p (by unfold S12.still; omega)]; exact s.n29, by rw [sn h r p (by unfold S12.still; omega)]; exact s.n30, by rw [s31, s_want]; simp [s.n29], by rw [sn h r p (by unfold S12.still; omega)]; exact s.n65, by rw [sn h r p (by unfold S12.still; omega)]; exact s.n70, by rw [sn h r p (by unfold S12.still; omega)]; exact s.n72, by rw [sn h r p (by unfold S12.still; omega)]; exact s.n73, s41 h r p, s42 h r p⟩
theorem se_Na {h : Hd} {fd : Int} {p : Pt} (s : Na h fd p) (r : Bool) : Nb h fd (S12.selP h r p) := by
  exact ⟨by rw [sb h r p (by unfold S12.still; omega)]; exact s.b2, by rw [sb h r p (by unfold S12.still; omega)]; exact s.b4, by rw [sb h r p (by unfold S12.still; omega)]; exact s.b5, by rw [sb h r p (by unfold S12.still; omega)]; exact s.b7, by rw [sb h r p (by unfold S12.still; omega)]; exact s.b8, by rw [sb h r p (by unfold S12.still; omega)]; exact s.b9, by rw [sb h r p (by unfold S12.still; omega)]; exact s.b10, by rw [sb h r p (by unfold S12.still; omega)]; exact s.b13, by rw [sb h r p (by unfold S12.still; omega)]; exact s.b14, by rw [sb h r p (by unfold S12.still; omega)]; exact s.b20, s21 h r p, s22 h r p, by rw [sb h r p (by unfold S12.still; omega)]; exact s.b24, by rw [sb h r p (by unfold S12.still; omega)]; exact s.b25, by rw [s28, s_upd]; simp [s.n29, s.b28], by rw [sn h r p (by unfold S12.still; omega)]; exact s.n29, by rw [sn h r p (by unfold S12.still; omega)]; exact s.n30, by rw [s31, s_want]; simp [s.n29], by rw [sn h r p (by unfold S12.still; omega)]; exact s.n65, by rw [sn h r p (by unfold S12.still; omega)]; exact s.n72, by rw [sn h r p (by unfold S12.still; omega)]; exact s.n73, s41 h r p, s42 h r p⟩
theorem se_Dn {h : Hd} {fd : Int} {p : Pt} (s : Dn h fd p) (r : Bool) : Dn h fd (S12.selP h r p) := by
  exact ⟨by rw [sb h r p (by unfold S12.still; omega)]; exact s.b2, by rw [sb h r p (by unfold S12.still; omega)]; exact s.b4, by rw [sb h r p (by unfold S12.still; omega)]; exact s.b5, by rw [sb h r p (by unfold S12.still; omega)]; exact s.b7, by rw [sb h r p (by unfold S12.still; omega)]; exact s.b8, by rw [sb h r p (by unfold S12.still; omega)]; exact s.b9, by rw [sb h r p (by unfold S12.still; omega)]; exact s.b10, by rw [sb h r p (by unfold S12.still; omega)]; exact s.b13, by rw [sb h r p (by unfold S12.still; omega)]; exact s.b14, by rw [sb h r p (by unfold S12.still; omega)]; exact s.b20, s21 h r p, s22 h r p, by rw [sb h r p (by unfold S12.still; omega)]; exact s.b24, by rw [sb h r p (by unfold S12.still; omega)]; exact s.b25, by rw [s28, s_upd]; simp [s.n29, s.b28], by rw [sn h r p (by unfold S12.still; omega)]; exact s.n29, by rw [sn h r p (by unfold S12.still; omega)]; exact s.n30, by rw [s31, s_want]; simp [s.n29], by rw [sn h r p (by unfold S12.still; omega)]; exact s.n65, by rw [sn h r p (by unfold S12.still; omega)]; exact s.n70, by rw [sn h r p (by unfold S12.still; omega)]; exact s.n72, by rw [sn h r p (by unfold S12.still; omega)]; exact s.n73, s41 h r p, s42 h r p⟩
theorem se_Ua {h : Hd} {fd : Int} {p : Pt} (s : Ua h fd p) (r : Bool) : Ua h fd (S12.selP h r p) := by
  exact ⟨by rw [sb h r p (by unfold S12.still; omega)]; exact s.b2, by rw [sb h r p (by unfold S12.still; omega)]; exact s.b4, by rw [sb h r p (by unfold S12.still; omega)]; exact s.b5, by rw [sb h r p (by unfold S12.still; omega)]; exact s.b7, by rw [sb h r p (by unfold S12.still; omega)]; exact s.b8, by rw [sb h r p (by unfold S12.still; omega)]; exact s.b9, by rw [sb h r p (by unfold S12.still; omega)]; exact s.b10, by rw [sb h r p (by unfold S12.still; omega)]; exact s.b13, by rw [sb h r p (by unfold S12.still; omega)]; exact s.b14, by rw [sb h r p (by unfold S12.still; omega)]; exact s.b20, s21 h r p, s22 h r p, by rw [sb h r p (by unfold S12.still; omega)]; exact s.b24, by rw [sb h r p (by unfold S12.still; omega)]; exact s.b25, by rw [s28, s_upd]; simp [s.n29, s.b28], by rw [sn h r p (by unfold S12.still; omega)]; exact s.n29, by rw [sn h r p (by unfold S12.still; omega)]; exact s.n30, by rw [s31, s_want]; simp [s.n29], by rw [sn h r p (by unfold S12.still; omega)]; exact s.n65, by rw [sn h r p (by unfold S12.still; omega)]; exact s.n70, by rw [sn h r p (by unfold S12.still; omega)]; exact s.n72, by rw [sn h r p (by unfold S12.still; omega)]; exact s.n73, s41 h r p, s42 h r p⟩
theorem se_Ub {h : Hd} {fd : Int} {p : Pt} (s : Ub h fd p) (r : Bool) : Uc h fd (S12.selP h r p) := by
  exact ⟨by rw [sb h r p (by unfold S12.still; omega)]; exact s.b2, by rw [sb h r p (by unfold S12.still; omega)]; exact s.b4, by rw [sb h r p (by unfold S12.still; omega)]; exact s.b5, by rw [sb h r p (by unfold S12.still; omega)]; exact s.b7, by rw [sb h r p (by unfold S12.still; omega)]; exact s.b8, by rw [sb h r p (by unfold S12.still; omega)]; exact s.b9, by rw [sb h r p (by unfold S12.still; omega)]; exact s.b10, by rw [sb h r p (by unfold S12.still; omega)]; exact s.b13, by rw [sb h r p (by unfold S12.still; omega)]; exact s.b14, by rw [sb h r p (by unfold S12.still; omega)]; exact s.b20, s21 h r p, s22 h r p, by rw [sb h r p (by unfold S12.still; omega)]; exact s.b24, by rw [sb h r p (by unfold S12.still; omega)]; exact s.b25, by rw [s28, s_upd]; simp [s.n29, s.b28], by rw [sn h r p (by unfold S12.still; omega)]; exact s.n29, by rw [sn h r p (by unfold S12.still; omega)]; exact s.n30, by rw [s31, s_want]; simp [s.n29], by rw [sn h r p (by unfold S12.still; omega)]; exact s.n65, by rw [sn h r p (by unfold S12.still; omega)]; exact s.n70, by rw [sn h r p (by unfold S12.still; omega)]; exact s.n72, by rw [sn h r p (by unfold S12.still; omega)]; exact s.n73, s41 h r p, s42 h r p, by rw [sdv]; exact des_of (sn h r p (by unfold S12.still; omega)).symm, sdt h r p⟩
theorem se_Ud {h : Hd} {fd : Int} {p : Pt} (s : Ud h fd p) (r : Bool) : Ud h fd (S12.selP h r p) := by
  have ou := s_out h p s.tv s.tt
  exact ⟨by rw [sb h r p (by unfold S12.still; omega)]; exact s.b2, by rw [sb h r p (by unfold S12.still; omega)]; exact s.b4, by rw [sb h r p (by unfold S12.still; omega)]; exact s.b5, by rw [sb h r p (by unfold S12.still; omega)]; exact s.b7, by rw [sb h r p (by unfold S12.still; omega)]; exact s.b8, by rw [sb h r p (by unfold S12.still; omega)]; exact s.b9, by rw [sb h r p (by unfold S12.still; omega)]; exact s.b10, by rw [sb h r p (by unfold S12.still; omega)]; exact s.b13, by rw [sb h r p (by unfold S12.still; omega)]; exact s.b14, by rw [sb h r p (by unfold S12.still; omega)]; exact s.b20, s21 h r p, s22 h r p, by rw [sb h r p (by unfold S12.still; omega)]; exact s.b24, by rw [sb h r p (by unfold S12.still; omega)]; exact s.b25, by rw [s28, s_upd]; simp [s.n29, s.b28, ou], by rw [sn h r p (by unfold S12.still; omega)]; exact s.n29, by rw [sn h r p (by unfold S12.still; omega)]; exact s.n30, by rw [s31, s_want]; simp [s.n29], by rw [sn h r p (by unfold S12.still; omega)]; exact s.n65, by rw [sn h r p (by unfold S12.still; omega)]; exact s.n70, by rw [sn h r p (by unfold S12.still; omega)]; exact s.n72, by rw [sn h r p (by unfold S12.still; omega)]; exact s.n73, s41 h r p, s42 h r p, by rw [spv, s.tv]; exact des_of (sn h r p (by unfold S12.still; omega)).symm, by rw [spt]; exact s.tt⟩
theorem se_Ue {h : Hd} {fd : Int} {p : Pt} (s : Ue h fd p) (r : Bool) : Ue h fd (S12.selP h r p) := by
  have ou := s_out h p s.tv s.tt
  exact ⟨by rw [sb h r p (by unfold S12.still; omega)]; exact s.b2, by rw [sb h r p (by unfold S12.still; omega)]; exact s.b4, by rw [sb h r p (by unfold S12.still; omega)]; exact s.b5, by rw [sb h r p (by unfold S12.still; omega)]; exact s.b7, by rw [sb h r p (by unfold S12.still; omega)]; exact s.b8, by rw [sb h r p (by unfold S12.still; omega)]; exact s.b9, by rw [sb h r p (by unfold S12.still; omega)]; exact s.b10, by rw [sb h r p (by unfold S12.still; omega)]; exact s.b13, by rw [sb h r p (by unfold S12.still; omega)]; exact s.b14, by rw [sb h r p (by unfold S12.still; omega)]; exact s.b20, s21 h r p, s22 h r p, by rw [sb h r p (by unfold S12.still; omega)]; exact s.b24, by rw [sb h r p (by unfold S12.still; omega)]; exact s.b25, by rw [s28, s_upd]; simp [s.n29, s.b28, ou], by rw [sn h r p (by unfold S12.still; omega)]; exact s.n29, by rw [sn h r p (by unfold S12.still; omega)]; exact s.n30, by rw [s31, s_want]; simp [s.n29], by rw [sn h r p (by unfold S12.still; omega)]; exact s.n65, by rw [sn h r p (by unfold S12.still; omega)]; exact s.n70, by rw [sn h r p (by unfold S12.still; omega)]; exact s.n72, by rw [sn h r p (by unfold S12.still; omega)]; exact s.n73, s41 h r p, s42 h r p, by rw [spv, s.tv]; exact des_of (sn h r p (by unfold S12.still; omega)).symm, by rw [spt]; exact s.tt⟩
theorem se_Uf {h : Hd} {fd : Int} {p : Pt} (s : Uf h fd p) (r : Bool) : Uf h fd (S12.selP h r p) := by
  have ou := s_out h p s.tv s.tt
  exact ⟨by rw [sb h r p (by unfold S12.still; omega)]; exact s.b2, by rw [sb h r p (by unfold S12.still; omega)]; exact s.b4, by rw [sb h r p (by unfold S12.still; omega)]; exact s.b5, by rw [sb h r p (by unfold S12.still; omega)]; exact s.b7, by rw [sb h r p (by unfold S12.still; omega)]; exact s.b8, by rw [sb h r p (by unfold S12.still; omega)]; exact s.b9, by rw [sb h r p (by unfold S12.still; omega)]; exact s.b10, by rw [sb h r p (by unfold S12.still; omega)]; exact s.b13, by rw [sb h r p (by unfold S12.still; omega)]; exact s.b14, by rw [sb h r p (by unfold S12.still; omega)]; exact s.b20, s21 h r p, s22 h r p, by rw [sb h r p (by unfold S12.still; omega)]; exact s.b24, by rw [sb h r p (by unfold S12.still; omega)]; exact s.b25, by rw [s28, s_upd]; simp [s.n29, s.b28, ou], by rw [sn h r p (by unfold S12.still; omega)]; exact s.n29, by rw [sn h r p (by unfold S12.still; omega)]; exact s.n30, by rw [s31, s_want]; simp [s.n29], by rw [sn h r p (by unfold S12.still; omega)]; exact s.n65, by rw [sn h r p (by unfold S12.still; omega)]; exact s.n70, by rw [sn h r p (by unfold S12.still; omega)]; exact s.n72, by rw [sn h r p (by unfold S12.still; omega)]; exact s.n73, s41 h r p, s42 h r p, by rw [spv, s.tv]; exact des_of (sn h r p (by unfold S12.still; omega)).symm, by rw [spt]; exact s.tt⟩
theorem se_Ul {h : Hd} {fd : Int} {p : Pt} (s : Ul h fd p) (r : Bool) : Ul h fd (S12.selP h r p) := by
  have ou := s_out h p s.tv s.tt
  exact ⟨by rw [sb h r p (by unfold S12.still; omega)]; exact s.b2, by rw [sb h r p (by unfold S12.still; omega)]; exact s.b4, by rw [sb h r p (by unfold S12.still; omega)]; exact s.b5, by rw [sb h r p (by unfold S12.still; omega)]; exact s.b7, by rw [sb h r p (by unfold S12.still; omega)]; exact s.b8, by rw [sb h r p (by unfold S12.still; omega)]; exact s.b9, by rw [sb h r p (by unfold S12.still; omega)]; exact s.b10, by rw [sb h r p (by unfold S12.still; omega)]; exact s.b13, by rw [sb h r p (by unfold S12.still; omega)]; exact s.b14, by rw [sb h r p (by unfold S12.still; omega)]; exact s.b20, s21 h r p, s22 h r p, by rw [sb h r p (by unfold S12.still; omega)]; exact s.b24, by rw [sb h r p (by unfold S12.still; omega)]; exact s.b25, by rw [s28, s_upd]; simp [s.n29, s.b28, ou], by rw [sn h r p (by unfold S12.still; omega)]; exact s.n29, by rw [sn h r p (by unfold S12.still; omega)]; exact s.n30, by rw [s31, s_want]; simp [s.n29], by rw [sn h r p (by unfold S12.still; omega)]; exact s.n65, by rw [sn h r p (by unfold S12.still; omega)]; exact s.n70, by rw [sn h r p (by unfold S12.still; omega)]; exact s.n72, by rw [sn h r p (by unfold S12.still; omega)]; exact s.n73, s41 h r p, s42 h r p, by rw [spv, s.tv]; exact des_of (sn h r p (by unfold S12.still; omega)).symm, by rw [spt]; exact s.tt⟩
theorem se_Ug {h : Hd} {fd : Int} {p : Pt} (s : Ug h fd p) (r : Bool) : Ug h fd (S12.selP h r p) := by
  have ou := s_out h p s.tv s.tt
  exact ⟨by rw [sb h r p (by unfold S12.still; omega)]; exact s.b2, by rw [sb h r p (by unfold S12.still; omega)]; exact s.b4, by rw [sb h r p (by unfold S12.still; omega)]; exact s.b5, by rw [sb h r p (by unfold S12.still; omega)]; exact s.b7, by rw [sb h r p (by unfold S12.still; omega)]; exact s.b8, by rw [sb h r p (by unfold S12.still; omega)]; exact s.b9, by rw [sb h r p (by unfold S12.still; omega)]; exact s.b10, by rw [sb h r p (by unfold S12.still; omega)]; exact s.b14, by rw [sb h r p (by unfold S12.still; omega)]; exact s.b20, s21 h r p, s22 h r p, by rw [sb h r p (by unfold S12.still; omega)]; exact s.b24, by rw [sb h r p (by unfold S12.still; omega)]; exact s.b25, by rw [s28, s_upd]; simp [s.n29, s.b28, ou], by rw [sn h r p (by unfold S12.still; omega)]; exact s.n29, by rw [sn h r p (by unfold S12.still; omega)]; exact s.n30, by rw [s31, s_want]; simp [s.n29], by rw [sn h r p (by unfold S12.still; omega)]; exact s.n65, by rw [sn h r p (by unfold S12.still; omega)]; exact s.n70, by rw [sn h r p (by unfold S12.still; omega)]; exact s.n72, by rw [sn h r p (by unfold S12.still; omega)]; exact s.n73, s41 h r p, s42 h r p, by rw [spv, s.tv]; exact des_of (sn h r p (by unfold S12.still; omega)).symm, by rw [spt]; exact s.tt⟩
theorem u_pri (p : Pt) : pri (S13.rolP (S11.updP p)) = dsg p ∨ p.nm 31 ≠ 4 := by
  by_cases e : p.nm 31 = 4
  · left
    have e31 : (S11.updP p).nm 31 = 4 := by simp [S11.updP, S11.curP, S11.updB, S11.ownP, S11.clrP, S11.synP, S11.updA, gBb, gBn, gNb, gNn, gUb, gUe, gU65, gU70, gPb, gPn, lenV, lenT, e]
    have er : S13.rolP (S11.updP p) = S13.becDsg (S13.takP (S11.updP p)) := by unfold S13.rolP; rw [e31]; rfl
    rw [er]
    refine Row.ext' (List.ext_getElem? fun j => ?_)
    show ((_ : List Value).drop 36 |>.take 4)[j]? = ((_ : List Value).drop 32 |>.take 4)[j]?
    rw [List.getElem?_take, List.getElem?_take]
    split
    · rename_i hj
      rw [List.getElem?_drop, List.getElem?_drop]
      have : j = 0 ∨ j = 1 ∨ j = 2 ∨ j = 3 := by omega
      rcases this with rfl | rfl | rfl | rfl <;> simp [S13.becDsg, S13.takP, S11.updP, S11.curP, S11.updB, S11.ownP, S11.clrP, S11.synP, S11.updA, Row.setB_get, Row.setN_get, Row.put_get, lenV, lenT, dsg]
    · rfl
  · exact Or.inr e
theorem u_priT (p : Pt) : priT (S13.rolP (S11.updP p)) = S12.dsgT p ∨ p.nm 31 ≠ 4 := by
  by_cases e : p.nm 31 = 4
  · left
    have e31 : (S11.updP p).nm 31 = 4 := by simp [S11.updP, S11.curP, S11.updB, S11.ownP, S11.clrP, S11.synP, S11.updA, gBb, gBn, gNb, gNn, gUb, gUe, gU65, gU70, gPb, gPn, lenV, lenT, e]
    have er : S13.rolP (S11.updP p) = S13.becDsg (S13.takP (S11.updP p)) := by unfold S13.rolP; rw [e31]; rfl
    rw [er]
    refine Row.ext' (List.ext_getElem? fun j => ?_)
    show ((_ : List Value).drop 44 |>.take 4)[j]? = ((_ : List Value).drop 40 |>.take 4)[j]?
    rw [List.getElem?_take, List.getElem?_take]
    split
    · rename_i hj
      rw [List.getElem?_drop, List.getElem?_drop]
      have : j = 0 ∨ j = 1 ∨ j = 2 ∨ j = 3 := by omega
      rcases this with rfl | rfl | rfl | rfl <;> simp [S13.becDsg, S13.takP, S11.updP, S11.curP, S11.updB, S11.ownP, S11.clrP, S11.synP, S11.updA, Row.setB_get, Row.setN_get, Row.put_get, lenV, lenT, S11.dsgT]
    · rfl
  · exact Or.inr e
theorem pi_c {h : Hd} {fd : Int} {p : Pt} (s : Uc h fd p) : (S11.stepO p).getD p = S11.updP p := by
  simp [S11.stepO, S11.fdsO, S11.fagO, S11.fcuO, s.b2, s.b4, s.b5, s.b7, s.b8, s.b9, s.b10, s.b13, s.b14, s.b20, s.b21, s.b22, s.b24, s.b25, s.b28, s.n29, s.n30, s.n31, s.n65, s.n70, s.n72, s.n73, s.n41, s.n42]
theorem ps_c {h : Hd} {fd : Int} {p : Pt} (s : Uc h fd p) (l : List Pt) (i : Nat) (hi : i < l.length) (e : gtP l i = S11.updP p) : (S13.stepO l i).getD l = l.set i (S13.rolP (S11.updP p)) := by
  have e' : S13.gtP l i = S11.updP p := e
  have f : S13.firstF (S13.rulL l i) = some 206 := by
    simp [S13.rulL, S13.stR, S13.dsgR, S13.begB, S13.stopB, S13.looB, S13.askP, S13.mayP, S13.mustB, S13.firstF, e', S11.updP, S11.curP, S11.updB, S11.ownP, S11.clrP, S11.synP, S11.updA, gBb, gBn, gNb, gNn, gUb, gUe, gU65, gU70, gPb, gPn, lenV, lenT, s.b2, s.b4, s.b5, s.b7, s.b8, s.b9, s.b10, s.b13, s.b14, s.b20, s.b21, s.b22, s.b24, s.b25, s.b28, s.n29, s.n30, s.n31, s.n65, s.n70, s.n72, s.n73, s.n41, s.n42]
  unfold S13.stepO
  rw [f]
  show S13.fnOf 206 i l = _
  have z : S13.fnOf 206 i l = l.set i (S13.rolP (S13.gtP l i)) := by unfold S13.fnOf; rfl
  rw [z, e']
theorem ro_c {h : Hd} {fd : Int} {p : Pt} (s : Uc h fd p) : S13.rolP (S11.updP p) = S13.becDsg (S13.takP (S11.updP p)) := by
  have e31 : (S11.updP p).nm 31 = 4 := by simp [S11.updP, S11.curP, S11.updB, S11.ownP, S11.clrP, S11.synP, S11.updA, gBb, gBn, gNb, gNn, gUb, gUe, gU65, gU70, gPb, gPn, lenV, lenT, s.n31]
  unfold S13.rolP
  rw [e31]
  rfl
theorem pt_c {h : Hd} {fd : Int} {p : Pt} (s : Uc h fd p) : (S14.pstO (S13.rolP (S11.updP p))).getD (S13.rolP (S11.updP p)) = S13.rolP (S11.updP p) := by
  rw [ro_c s]
  simp [S14.pstO, S13.becDsg, S13.takP, S11.updP, S11.curP, S11.updB, S11.ownP, S11.clrP, S11.synP, S11.updA, gBb, gBn, gNb, gNn, gUb, gUe, gU65, gU70, gPb, gPn, lenV, lenT, s.b2, s.b4, s.b5, s.b7, s.b8, s.b9, s.b10, s.b13, s.b14, s.b20, s.b21, s.b22, s.b24, s.b25, s.b28, s.n29, s.n30, s.n31, s.n65, s.n70, s.n72, s.n73, s.n41, s.n42]
theorem po_c {h : Hd} {fd : Int} {p : Pt} (s : Uc h fd p) : Ud h fd (S13.rolP (S11.updP p)) := by
  have v := (u_pri p).resolve_right (fun z => z s.n31)
  have t := (u_priT p).resolve_right (fun z => z s.n31)
  rw [ro_c s] at v t ⊢
  refine ⟨?_, ?_, ?_, ?_, ?_, ?_, ?_, ?_, ?_, ?_, ?_, ?_, ?_, ?_, ?_, ?_, ?_, ?_, ?_, ?_, ?_, ?_, ?_, ?_, by rw [v, s.tv]; exact des_of (by simp [S13.becDsg, S13.takP, S11.updP, S11.curP, S11.updB, S11.ownP, S11.clrP, S11.synP, S11.updA, gBb, gBn, gNb, gNn, gUb, gUe, gU65, gU70, gPb, gPn, lenV, lenT]), by rw [t, s.tt]⟩
  all_goals simp [S13.becDsg, S13.takP, S11.updP, S11.curP, S11.updB, S11.ownP, S11.clrP, S11.synP, S11.updA, gBb, gBn, gNb, gNn, gUb, gUe, gU65, gU70, gPb, gPn, lenV, lenT, s.b2, s.b4, s.b5, s.b7, s.b8, s.b9, s.b10, s.b13, s.b14, s.b20, s.b21, s.b22, s.b24, s.b25, s.b28, s.n29, s.n30, s.n31, s.n65, s.n70, s.n72, s.n73, s.n41, s.n42]
theorem ow_c {h : Hd} {fd : Int} {i : Nat} {s : Ps} (hi : i < s.l.length) (a : Uc h fd (gtP s.l i)) (pm : Pm (gtP s.l i)) : Ot' i s.l (ptF h i s).l ∧ Ud h fd (gtP (ptF h i s).l i) ∧ Pm (gtP (ptF h i s).l i) := by
  have k := own_of (h := h) hi (pi_c a) (fun l hl e => ps_c a l i hl e) (pt_c a) (Or.inl (by
    rw [ro_c a]
    exact Pm.by pm (by simp [S13.becDsg, S13.takP, S11.updP, S11.curP, S11.updB, S11.ownP, S11.clrP, S11.synP, S11.updA, gBb, gBn, gNb, gNn, gUb, gUe, gU65, gU70, gPb, gPn, lenV, lenT]) (by simp [S13.becDsg, S13.takP, S11.updP, S11.curP, S11.updB, S11.ownP, S11.clrP, S11.synP, S11.updA, gBb, gBn, gNb, gNn, gUb, gUe, gU65, gU70, gPb, gPn, lenV, lenT]) (by simp [S13.becDsg, S13.takP, S11.updP, S11.curP, S11.updB, S11.ownP, S11.clrP, S11.synP, S11.updA, gBb, gBn, gNb, gNn, gUb, gUe, gU65, gU70, gPb, gPn, lenV, lenT])))
  exact ⟨k.1, (po_c a).to k.2.1, k.2.2⟩
end S17
end
end Go.Proofs.YtlchejbggnbccaaGreat
