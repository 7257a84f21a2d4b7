/-
  A command done: the walk of Do of the code, for every input.
-/
import Derived.Test.YtmfjlhcobhilcabRef
import Derived.Test.YtmfjlhcobhilcabCmd
namespace Go.Proofs.Ytmfjlhcobhilcab
set_option linter.unusedVariables false
set_option maxRecDepth 4000
set_option linter.unusedSimpArgs false
open Go.RowKit
attribute [local go_sem ↓] ldM stM ldC stC ldB stB ldP stP apI bsI
attribute [local go_sem] bsI_is bsI2_is

attribute [local go_sem ↓] stIs stKs stMs stCs stBs ldD stD
/-- Do's variables. -/
structure DoS (w V : World) (x : Pr) (y : Cm) : Prop where
  var : PrAt V w.heap.size x
  cmd : CmAt V (w.heap.size + 1) y
  res : PrAt V (w.heap.size + 2) zP
  bel : Below w.heap.size w V
  siz : w.heap.size + 3 ≤ V.heap.size
theorem DoS.below {w V V' : World} {x : Pr} {y : Cm} (h : DoS w V x y) (hb : Below V.heap.size V V') : DoS w V' x y := ⟨h.var.below hb, h.cmd.below hb, h.res.below hb, below_over h.bel hb, Nat.le_trans h.siz hb.size⟩
theorem DoS.set {w V V' : World} {x x' : Pr} {y : Cm} (h : DoS w V x y) (hy : PrAt V' w.heap.size x') (hg : V.grownBy V' (some w.heap.size)) : DoS w V' x' y := ⟨hy, h.cmd.keptBut hg (by simp), h.res.keptBut hg (by simp), gro h.bel hg (Nat.le_refl _) h.bel.size, Nat.le_trans h.siz hg.size⟩
theorem DoS.new (w : World) (x : Pr) (y : Cm) : ∃ W V U, w.alloc (.cells x.cs 29) = W ∧ W.alloc (.cells y.cs 48) = V ∧ V.alloc (.cells #[.int .u8 0, .int .u8 0, .int .u8 0, .int .u8 0, .int .u8 0, .int .u8 0, .slice none 0 0, .slice none 0 0, .slice none 0 0, .slice none 0 0] 29) = U ∧ DoS w U x y ∧ W.heap.size = w.heap.size + 1 ∧ V.heap.size = w.heap.size + 2 ∧ U.heap.size = w.heap.size + 3 := by
  obtain ⟨W, hW, m0, bW, zW⟩ := PrAt.new w x
  obtain ⟨V, hV, m1, bV, zV⟩ := CmAt.new W y
  obtain ⟨U, hU, m2, bU, zU⟩ := PrAt.zero V
  rw [zW] at m1
  rw [zV, zW] at m2
  refine ⟨W, V, U, hW, hV, hU, ⟨(m0.below bV).below bU, m1.below bU, m2, below_over bW (below_over bV bU), ?_⟩, zW, ?_, ?_⟩
  all_goals (rw [zW] at zV; rw [zV] at zU; omega)
/-- What Do tells. -/
def DoT (w : World) (q : Pv × Int) (r : Ending) (w' : World) : Prop := (∃ x : Pr, r = .returned (.tuple #[.agg x.cs, .int .i64 q.2]) ∧ IsOwn w' w.heap.size x q.1) ∧ Below w.heap.size w w'
theorem DoS.tell {w V : World} {x : Pr} {y : Cm} {q : Pv} (h : DoS w V x y) (ho : IsOwn V (w.heap.size + 3) x q) : ∃ Z, (stS 29 (.pointer (some ⟨w.heap.size + 2, 0, none⟩)) (.agg x.cs)).run Try.prog V = .ok () Z ∧ PrAt Z (w.heap.size + 2) x ∧ IsOwn Z w.heap.size x q ∧ Below w.heap.size w Z := by
  obtain ⟨Z, sZ, pZ, gZ⟩ := h.res.st ho.pv.one
  exact ⟨Z, sZ, pZ, (ho.kept gZ (by omega)).mono (by omega), gro h.bel gZ (by omega) h.bel.size⟩
theorem erC_no : erC false = 180 := rfl
theorem erC_yes : erC true = 0 := rfl
set_option maxHeartbeats 8000000 in
theorem do_no (x : Pr) (p : Pv) (y : Cm) (c : Cd) (w : World) (h : IsPv w x p) (hz : Sz p) (hc : IsCm w y c) (hcl : c.b.ps.length ≤ 1000) (hq : chk p = false) :
    Calls Try.prog 6 #[.agg x.cs, .agg y.cs] w fun r w' => DoT w (doC p c) r w' := by
  obtain ⟨W, V, U, hW, hV, hU, S0, zW, zV, zU⟩ := DoS.new w x y
  have T0 : Hid (DoS w U x y ∧ U.heap.size = w.heap.size + 3) := ⟨S0, zU⟩
  have H : Hid (IsPv w x p ∧ Sz p ∧ IsCm w y c ∧ c.b.ps.length ≤ 1000) := ⟨h, hz, hc, hcl⟩
  have QC : Hid (chk p = false) := hq
  have EK : Hid (y.k = c.k) := hc.k
  clear S0 h hz hc hcl zU hq
  have l0 := T0.out.1.var.ld
  go_enter Try.func6, Try.ntmps6
  go_wp2_with fail
  try go_step3
  go_wp2_with fail
  refine (twin_any x p U (H.out.1.below T0.out.1.bel) H.out.2.1).mono ?_
  rintro _ Y0 ⟨⟨x1, rfl, o0⟩, b0⟩
  obtain ⟨V1, s0, q0, g0⟩ := (T0.out.1.below b0).var.st (y := x1) o0.pv.one
  have T1 : Hid (DoS w V1 x1 y ∧ IsOwn V1 (w.heap.size + 3) x1 p) := ⟨(T0.out.1.below b0).set q0 g0, (o0.mono (by rw [T0.out.2]; exact Nat.le_refl _)).kept g0 (by omega)⟩
  clear o0 b0 q0 g0 l0
  have l1 := T1.out.1.var.ld
  go_wp2_with fail
  refine (ret_i (chk_any x1 p V1 T1.out.2.pv H.out.2.1.2.2.2.2) (by rw [QC.out])).mono ?_
  rintro _ V2 ⟨rfl, b1⟩
  have T2 : Hid (DoS w V2 x1 y ∧ IsOwn V2 (w.heap.size + 3) x1 p) := ⟨T1.out.1.below b1, T1.out.2.below b1⟩
  clear b1 l1
  rw [erC_no]
  have E : Hid (doC p c = (p, 180)) := by unfold doC; rw [QC.out]; exact rfl
  obtain ⟨Z, sZ, pZ, oZ, bZ⟩ := T2.out.1.tell T2.out.2
  have G : Hid (PrAt Z (w.heap.size + 2) x1 ∧ IsOwn Z w.heap.size x1 p ∧ Below w.heap.size w Z) := ⟨pZ, oZ, bZ⟩
  clear pZ oZ bZ
  have l9 := T2.out.1.var.ld
  go_wp2
  try rw [Exit.noGoto_ret]
  exact ret_pe Try.results6 rfl rfl rfl G.out.1 (by show DoT w _ _ _; rw [E.out]; exact ⟨⟨_, rfl, G.out.2.1⟩, G.out.2.2⟩)
set_option maxHeartbeats 8000000 in
theorem do_1_no (x : Pr) (p : Pv) (y : Cm) (c : Cd) (w : World) (h : IsPv w x p) (hz : Sz p) (hc : IsCm w y c) (hcl : c.b.ps.length ≤ 1000) (hq : chk p = true) (hk : c.k = 1) (e : Int) (her : refM p c.m = e) (he : ¬ e = 0) :
    Calls Try.prog 6 #[.agg x.cs, .agg y.cs] w fun r w' => DoT w (doC p c) r w' := by
  obtain ⟨W, V, U, hW, hV, hU, S0, zW, zV, zU⟩ := DoS.new w x y
  have T0 : Hid (DoS w U x y ∧ U.heap.size = w.heap.size + 3) := ⟨S0, zU⟩
  have H : Hid (IsPv w x p ∧ Sz p ∧ IsCm w y c ∧ c.b.ps.length ≤ 1000) := ⟨h, hz, hc, hcl⟩
  have QC : Hid (chk p = true) := hq
  have EK : Hid (y.k = c.k) := hc.k
  clear S0 h hz hc hcl zU hq
  have l0 := T0.out.1.var.ld
  go_enter Try.func6, Try.ntmps6
  go_wp2_with fail
  try go_step3
  go_wp2_with fail
  refine (twin_any x p U (H.out.1.below T0.out.1.bel) H.out.2.1).mono ?_
  rintro _ Y0 ⟨⟨x1, rfl, o0⟩, b0⟩
  obtain ⟨V1, s0, q0, g0⟩ := (T0.out.1.below b0).var.st (y := x1) o0.pv.one
  have T1 : Hid (DoS w V1 x1 y ∧ IsOwn V1 (w.heap.size + 3) x1 p) := ⟨(T0.out.1.below b0).set q0 g0, (o0.mono (by rw [T0.out.2]; exact Nat.le_refl _)).kept g0 (by omega)⟩
  clear o0 b0 q0 g0 l0
  have l1 := T1.out.1.var.ld
  go_wp2_with fail
  refine (ret_i (chk_any x1 p V1 T1.out.2.pv H.out.2.1.2.2.2.2) (by rw [QC.out])).mono ?_
  rintro _ V2 ⟨rfl, b1⟩
  have T2 : Hid (DoS w V2 x1 y ∧ IsOwn V2 (w.heap.size + 3) x1 p) := ⟨T1.out.1.below b1, T1.out.2.below b1⟩
  clear b1 l1
  rw [erC_yes]
  have ER : Hid (refM p c.m = e) := her
  clear her
  have KK : Hid (c.k = 1) := hk
  clear hk
  have c0 := T2.out.1.cmd.k
  rw [EK.out, KK.out] at c0
  have d0 := T2.out.1.var.ld
  have g0 := T2.out.1.cmd.m
  rw [H.out.2.2.1.m] at g0
  go_wp2_with fail
  try go_step3
  go_wp2_with fail
  refine (ret_i (refM_any x1 p c.m V2 T2.out.2.pv) ER.out).mono ?_
  rintro _ V3 ⟨rfl, b2⟩
  have T3 : Hid (DoS w V3 x1 y ∧ IsOwn V3 (w.heap.size + 3) x1 p) := ⟨T2.out.1.below b2, T2.out.2.below b2⟩
  clear b2 c0 d0 g0
  have e0 : (e != 0) = true := by simp [he]
  have E : Hid (doC p c = (p, e)) := by unfold doC doK; rw [if_pos QC.out, if_pos KK.out]; unfold whn; rw [ER.out, if_neg he]; exact rfl
  clear he
  obtain ⟨Z, sZ, pZ, oZ, bZ⟩ := T3.out.1.tell T3.out.2
  have G : Hid (PrAt Z (w.heap.size + 2) x1 ∧ IsOwn Z w.heap.size x1 p ∧ Below w.heap.size w Z) := ⟨pZ, oZ, bZ⟩
  clear pZ oZ bZ
  have l9 := T3.out.1.var.ld
  go_wp2
  try rw [Exit.noGoto_ret]
  exact ret_pe Try.results6 rfl rfl rfl G.out.1 (by show DoT w _ _ _; rw [E.out]; exact ⟨⟨_, rfl, G.out.2.1⟩, G.out.2.2⟩)
set_option maxHeartbeats 8000000 in
theorem do_1_ok (x : Pr) (p : Pv) (y : Cm) (c : Cd) (w : World) (h : IsPv w x p) (hz : Sz p) (hc : IsCm w y c) (hcl : c.b.ps.length ≤ 1000) (hq : chk p = true) (hk : c.k = 1) (her : refM p c.m = 0) :
    Calls Try.prog 6 #[.agg x.cs, .agg y.cs] w fun r w' => DoT w (doC p c) r w' := by
  obtain ⟨W, V, U, hW, hV, hU, S0, zW, zV, zU⟩ := DoS.new w x y
  have T0 : Hid (DoS w U x y ∧ U.heap.size = w.heap.size + 3) := ⟨S0, zU⟩
  have H : Hid (IsPv w x p ∧ Sz p ∧ IsCm w y c ∧ c.b.ps.length ≤ 1000) := ⟨h, hz, hc, hcl⟩
  have QC : Hid (chk p = true) := hq
  have EK : Hid (y.k = c.k) := hc.k
  clear S0 h hz hc hcl zU hq
  have l0 := T0.out.1.var.ld
  go_enter Try.func6, Try.ntmps6
  go_wp2_with fail
  try go_step3
  go_wp2_with fail
  refine (twin_any x p U (H.out.1.below T0.out.1.bel) H.out.2.1).mono ?_
  rintro _ Y0 ⟨⟨x1, rfl, o0⟩, b0⟩
  obtain ⟨V1, s0, q0, g0⟩ := (T0.out.1.below b0).var.st (y := x1) o0.pv.one
  have T1 : Hid (DoS w V1 x1 y ∧ IsOwn V1 (w.heap.size + 3) x1 p) := ⟨(T0.out.1.below b0).set q0 g0, (o0.mono (by rw [T0.out.2]; exact Nat.le_refl _)).kept g0 (by omega)⟩
  clear o0 b0 q0 g0 l0
  have l1 := T1.out.1.var.ld
  go_wp2_with fail
  refine (ret_i (chk_any x1 p V1 T1.out.2.pv H.out.2.1.2.2.2.2) (by rw [QC.out])).mono ?_
  rintro _ V2 ⟨rfl, b1⟩
  have T2 : Hid (DoS w V2 x1 y ∧ IsOwn V2 (w.heap.size + 3) x1 p) := ⟨T1.out.1.below b1, T1.out.2.below b1⟩
  clear b1 l1
  rw [erC_yes]
  have ER : Hid (refM p c.m = 0) := her
  clear her
  have KK : Hid (c.k = 1) := hk
  clear hk
  have c0 := T2.out.1.cmd.k
  rw [EK.out, KK.out] at c0
  have d0 := T2.out.1.var.ld
  have g0 := T2.out.1.cmd.m
  rw [H.out.2.2.1.m] at g0
  go_wp2_with fail
  try go_step3
  go_wp2_with fail
  refine (ret_i (refM_any x1 p c.m V2 T2.out.2.pv) ER.out).mono ?_
  rintro _ V3 ⟨rfl, b2⟩
  have T3 : Hid (DoS w V3 x1 y ∧ IsOwn V3 (w.heap.size + 3) x1 p) := ⟨T2.out.1.below b2, T2.out.2.below b2⟩
  clear b2 c0 d0 g0
  have E : Hid (doC p c = ({ p with ms := putL (cmM · c.m) c.m p.ms }, 0)) := by unfold doC doK; rw [if_pos QC.out, if_pos KK.out]; unfold whn; rw [ER.out, if_pos rfl]; exact rfl
  obtain ⟨va, vn, vc, hv, hs⟩ := T3.out.2.pv.m
  have d1 := T3.out.1.var.m
  rw [hv] at d1
  have g1 := T3.out.1.cmd.m
  rw [H.out.2.2.1.m] at g1
  have HS : Hid (SlAt eM V3 va vn vc p.ms ∧ vn ≤ 200) := ⟨hs, by rw [← hs.len]; exact Nat.le_trans H.out.2.1.2.1 (by omega)⟩
  clear hs hv
  go_wp2_with fail
  refine (putM_any va vn vc p.ms c.m V3 HS.out.1 HS.out.2).mono ?_
  rintro _ Y3 ⟨⟨v3, rfl, o3⟩, b3⟩
  obtain ⟨V4, s3, q3, g3⟩ := (T3.out.1.below b3).var.stM v3 o3.slv.one
  have T4 : Hid (DoS w V4 { x1 with m := v3 } y ∧ IsOwn V4 (w.heap.size + 3) { x1 with m := v3 } { p with ms := putL (cmM · c.m) c.m p.ms }) := by
    refine ⟨(T3.out.1.below b3).set q3 g3, ?_⟩
    have o4 := (T3.out.2.below b3).kept g3 (by omega)
    exact { o4 with m := (o3.mono T3.out.1.siz).kept g3 (by omega) }
  clear o3 b3 q3 g3 d1 g1
  obtain ⟨Z, sZ, pZ, oZ, bZ⟩ := T4.out.1.tell T4.out.2
  have G : Hid (PrAt Z (w.heap.size + 2) { x1 with m := v3 } ∧ IsOwn Z w.heap.size { x1 with m := v3 } { p with ms := putL (cmM · c.m) c.m p.ms } ∧ Below w.heap.size w Z) := ⟨pZ, oZ, bZ⟩
  clear pZ oZ bZ
  have l9 := T4.out.1.var.ld
  go_wp2
  try rw [Exit.noGoto_ret]
  exact ret_pe Try.results6 rfl rfl rfl G.out.1 (by show DoT w _ _ _; rw [E.out]; exact ⟨⟨_, rfl, G.out.2.1⟩, G.out.2.2⟩)
set_option maxHeartbeats 8000000 in
theorem do_3_no (x : Pr) (p : Pv) (y : Cm) (c : Cd) (w : World) (h : IsPv w x p) (hz : Sz p) (hc : IsCm w y c) (hcl : c.b.ps.length ≤ 1000) (hq : chk p = true) (hk : c.k = 3) (e : Int) (her : refC p c.c = e) (he : ¬ e = 0) :
    Calls Try.prog 6 #[.agg x.cs, .agg y.cs] w fun r w' => DoT w (doC p c) r w' := by
  obtain ⟨W, V, U, hW, hV, hU, S0, zW, zV, zU⟩ := DoS.new w x y
  have T0 : Hid (DoS w U x y ∧ U.heap.size = w.heap.size + 3) := ⟨S0, zU⟩
  have H : Hid (IsPv w x p ∧ Sz p ∧ IsCm w y c ∧ c.b.ps.length ≤ 1000) := ⟨h, hz, hc, hcl⟩
  have QC : Hid (chk p = true) := hq
  have EK : Hid (y.k = c.k) := hc.k
  clear S0 h hz hc hcl zU hq
  have l0 := T0.out.1.var.ld
  go_enter Try.func6, Try.ntmps6
  go_wp2_with fail
  try go_step3
  go_wp2_with fail
  refine (twin_any x p U (H.out.1.below T0.out.1.bel) H.out.2.1).mono ?_
  rintro _ Y0 ⟨⟨x1, rfl, o0⟩, b0⟩
  obtain ⟨V1, s0, q0, g0⟩ := (T0.out.1.below b0).var.st (y := x1) o0.pv.one
  have T1 : Hid (DoS w V1 x1 y ∧ IsOwn V1 (w.heap.size + 3) x1 p) := ⟨(T0.out.1.below b0).set q0 g0, (o0.mono (by rw [T0.out.2]; exact Nat.le_refl _)).kept g0 (by omega)⟩
  clear o0 b0 q0 g0 l0
  have l1 := T1.out.1.var.ld
  go_wp2_with fail
  refine (ret_i (chk_any x1 p V1 T1.out.2.pv H.out.2.1.2.2.2.2) (by rw [QC.out])).mono ?_
  rintro _ V2 ⟨rfl, b1⟩
  have T2 : Hid (DoS w V2 x1 y ∧ IsOwn V2 (w.heap.size + 3) x1 p) := ⟨T1.out.1.below b1, T1.out.2.below b1⟩
  clear b1 l1
  rw [erC_yes]
  have ER : Hid (refC p c.c = e) := her
  clear her
  have KK : Hid (c.k = 3) := hk
  clear hk
  have c0 := T2.out.1.cmd.k
  rw [EK.out, KK.out] at c0
  have d0 := T2.out.1.var.ld
  have g0 := T2.out.1.cmd.c
  rw [H.out.2.2.1.c] at g0
  go_wp2_with fail
  try go_step3
  go_wp2_with fail
  refine (ret_i (refC_any x1 p c.c V2 T2.out.2.pv H.out.2.1.2.2.2.2) ER.out).mono ?_
  rintro _ V3 ⟨rfl, b2⟩
  have T3 : Hid (DoS w V3 x1 y ∧ IsOwn V3 (w.heap.size + 3) x1 p) := ⟨T2.out.1.below b2, T2.out.2.below b2⟩
  clear b2 c0 d0 g0
  have e0 : (e != 0) = true := by simp [he]
  have E : Hid (doC p c = (p, e)) := by unfold doC doK; rw [if_pos QC.out, if_neg (by rw [KK.out]; decide : ¬ c.k = 1), if_neg (by rw [KK.out]; decide : ¬ c.k = 2), if_pos KK.out]; unfold whn; rw [ER.out, if_neg he]; exact rfl
  clear he
  obtain ⟨Z, sZ, pZ, oZ, bZ⟩ := T3.out.1.tell T3.out.2
  have G : Hid (PrAt Z (w.heap.size + 2) x1 ∧ IsOwn Z w.heap.size x1 p ∧ Below w.heap.size w Z) := ⟨pZ, oZ, bZ⟩
  clear pZ oZ bZ
  have l9 := T3.out.1.var.ld
  go_wp2
  try rw [Exit.noGoto_ret]
  exact ret_pe Try.results6 rfl rfl rfl G.out.1 (by show DoT w _ _ _; rw [E.out]; exact ⟨⟨_, rfl, G.out.2.1⟩, G.out.2.2⟩)
set_option maxHeartbeats 8000000 in
theorem do_3_ok (x : Pr) (p : Pv) (y : Cm) (c : Cd) (w : World) (h : IsPv w x p) (hz : Sz p) (hc : IsCm w y c) (hcl : c.b.ps.length ≤ 1000) (hq : chk p = true) (hk : c.k = 3) (her : refC p c.c = 0) :
    Calls Try.prog 6 #[.agg x.cs, .agg y.cs] w fun r w' => DoT w (doC p c) r w' := by
  obtain ⟨W, V, U, hW, hV, hU, S0, zW, zV, zU⟩ := DoS.new w x y
  have T0 : Hid (DoS w U x y ∧ U.heap.size = w.heap.size + 3) := ⟨S0, zU⟩
  have H : Hid (IsPv w x p ∧ Sz p ∧ IsCm w y c ∧ c.b.ps.length ≤ 1000) := ⟨h, hz, hc, hcl⟩
  have QC : Hid (chk p = true) := hq
  have EK : Hid (y.k = c.k) := hc.k
  clear S0 h hz hc hcl zU hq
  have l0 := T0.out.1.var.ld
  go_enter Try.func6, Try.ntmps6
  go_wp2_with fail
  try go_step3
  go_wp2_with fail
  refine (twin_any x p U (H.out.1.below T0.out.1.bel) H.out.2.1).mono ?_
  rintro _ Y0 ⟨⟨x1, rfl, o0⟩, b0⟩
  obtain ⟨V1, s0, q0, g0⟩ := (T0.out.1.below b0).var.st (y := x1) o0.pv.one
  have T1 : Hid (DoS w V1 x1 y ∧ IsOwn V1 (w.heap.size + 3) x1 p) := ⟨(T0.out.1.below b0).set q0 g0, (o0.mono (by rw [T0.out.2]; exact Nat.le_refl _)).kept g0 (by omega)⟩
  clear o0 b0 q0 g0 l0
  have l1 := T1.out.1.var.ld
  go_wp2_with fail
  refine (ret_i (chk_any x1 p V1 T1.out.2.pv H.out.2.1.2.2.2.2) (by rw [QC.out])).mono ?_
  rintro _ V2 ⟨rfl, b1⟩
  have T2 : Hid (DoS w V2 x1 y ∧ IsOwn V2 (w.heap.size + 3) x1 p) := ⟨T1.out.1.below b1, T1.out.2.below b1⟩
  clear b1 l1
  rw [erC_yes]
  have ER : Hid (refC p c.c = 0) := her
  clear her
  have KK : Hid (c.k = 3) := hk
  clear hk
  have c0 := T2.out.1.cmd.k
  rw [EK.out, KK.out] at c0
  have d0 := T2.out.1.var.ld
  have g0 := T2.out.1.cmd.c
  rw [H.out.2.2.1.c] at g0
  go_wp2_with fail
  try go_step3
  go_wp2_with fail
  refine (ret_i (refC_any x1 p c.c V2 T2.out.2.pv H.out.2.1.2.2.2.2) ER.out).mono ?_
  rintro _ V3 ⟨rfl, b2⟩
  have T3 : Hid (DoS w V3 x1 y ∧ IsOwn V3 (w.heap.size + 3) x1 p) := ⟨T2.out.1.below b2, T2.out.2.below b2⟩
  clear b2 c0 d0 g0
  have E : Hid (doC p c = ({ p with cs := putL (cmC · c.c) c.c p.cs }, 0)) := by unfold doC doK; rw [if_pos QC.out, if_neg (by rw [KK.out]; decide : ¬ c.k = 1), if_neg (by rw [KK.out]; decide : ¬ c.k = 2), if_pos KK.out]; unfold whn; rw [ER.out, if_pos rfl]; exact rfl
  obtain ⟨va, vn, vc, hv, hs⟩ := T3.out.2.pv.c
  have d1 := T3.out.1.var.c
  rw [hv] at d1
  have g1 := T3.out.1.cmd.c
  rw [H.out.2.2.1.c] at g1
  have HS : Hid (SlAt eC V3 va vn vc p.cs ∧ vn ≤ 200) := ⟨hs, by rw [← hs.len]; exact Nat.le_trans H.out.2.1.2.2.1 (by omega)⟩
  clear hs hv
  go_wp2_with fail
  refine (putC_any va vn vc p.cs c.c V3 HS.out.1 HS.out.2).mono ?_
  rintro _ Y3 ⟨⟨v3, rfl, o3⟩, b3⟩
  obtain ⟨V4, s3, q3, g3⟩ := (T3.out.1.below b3).var.stC v3 o3.slv.one
  have T4 : Hid (DoS w V4 { x1 with c := v3 } y ∧ IsOwn V4 (w.heap.size + 3) { x1 with c := v3 } { p with cs := putL (cmC · c.c) c.c p.cs }) := by
    refine ⟨(T3.out.1.below b3).set q3 g3, ?_⟩
    have o4 := (T3.out.2.below b3).kept g3 (by omega)
    exact { o4 with c := (o3.mono T3.out.1.siz).kept g3 (by omega) }
  clear o3 b3 q3 g3 d1 g1
  obtain ⟨Z, sZ, pZ, oZ, bZ⟩ := T4.out.1.tell T4.out.2
  have G : Hid (PrAt Z (w.heap.size + 2) { x1 with c := v3 } ∧ IsOwn Z w.heap.size { x1 with c := v3 } { p with cs := putL (cmC · c.c) c.c p.cs } ∧ Below w.heap.size w Z) := ⟨pZ, oZ, bZ⟩
  clear pZ oZ bZ
  have l9 := T4.out.1.var.ld
  go_wp2
  try rw [Exit.noGoto_ret]
  exact ret_pe Try.results6 rfl rfl rfl G.out.1 (by show DoT w _ _ _; rw [E.out]; exact ⟨⟨_, rfl, G.out.2.1⟩, G.out.2.2⟩)
set_option maxHeartbeats 8000000 in
theorem do_2_no (x : Pr) (p : Pv) (y : Cm) (c : Cd) (w : World) (h : IsPv w x p) (hz : Sz p) (hc : IsCm w y c) (hcl : c.b.ps.length ≤ 1000) (hq : chk p = true) (hk : c.k = 2) (ha : p.ms.any (eqM · c.m) = false) :
    Calls Try.prog 6 #[.agg x.cs, .agg y.cs] w fun r w' => DoT w (doC p c) r w' := by
  obtain ⟨W, V, U, hW, hV, hU, S0, zW, zV, zU⟩ := DoS.new w x y
  have T0 : Hid (DoS w U x y ∧ U.heap.size = w.heap.size + 3) := ⟨S0, zU⟩
  have H : Hid (IsPv w x p ∧ Sz p ∧ IsCm w y c ∧ c.b.ps.length ≤ 1000) := ⟨h, hz, hc, hcl⟩
  have QC : Hid (chk p = true) := hq
  have EK : Hid (y.k = c.k) := hc.k
  clear S0 h hz hc hcl zU hq
  have l0 := T0.out.1.var.ld
  go_enter Try.func6, Try.ntmps6
  go_wp2_with fail
  try go_step3
  go_wp2_with fail
  refine (twin_any x p U (H.out.1.below T0.out.1.bel) H.out.2.1).mono ?_
  rintro _ Y0 ⟨⟨x1, rfl, o0⟩, b0⟩
  obtain ⟨V1, s0, q0, g0⟩ := (T0.out.1.below b0).var.st (y := x1) o0.pv.one
  have T1 : Hid (DoS w V1 x1 y ∧ IsOwn V1 (w.heap.size + 3) x1 p) := ⟨(T0.out.1.below b0).set q0 g0, (o0.mono (by rw [T0.out.2]; exact Nat.le_refl _)).kept g0 (by omega)⟩
  clear o0 b0 q0 g0 l0
  have l1 := T1.out.1.var.ld
  go_wp2_with fail
  refine (ret_i (chk_any x1 p V1 T1.out.2.pv H.out.2.1.2.2.2.2) (by rw [QC.out])).mono ?_
  rintro _ V2 ⟨rfl, b1⟩
  have T2 : Hid (DoS w V2 x1 y ∧ IsOwn V2 (w.heap.size + 3) x1 p) := ⟨T1.out.1.below b1, T1.out.2.below b1⟩
  clear b1 l1
  rw [erC_yes]
  have HA : Hid (p.ms.any (eqM · c.m) = false) := ha
  clear ha
  have KK : Hid (c.k = 2) := hk
  clear hk
  have c0 := T2.out.1.cmd.k
  rw [EK.out, KK.out] at c0
  have d0 := T2.out.1.var.ld
  have g0 := T2.out.1.cmd.m
  rw [H.out.2.2.1.m] at g0
  obtain ⟨va, vn, vc, hv, hs⟩ := T2.out.2.pv.m
  have d1 := T2.out.1.var.m
  rw [hv] at d1
  have HS0 : Hid (SlAt eM V2 va vn vc p.ms) := hs
  clear hs hv
  go_wp2_with fail
  try go_step3
  go_wp2_with fail
  refine (ret_b (hasM_any va vn vc p.ms c.m V2 HS0.out) HA.out).mono ?_
  rintro _ V3 ⟨rfl, b2⟩
  have T3 : Hid (DoS w V3 x1 y ∧ IsOwn V3 (w.heap.size + 3) x1 p) := ⟨T2.out.1.below b2, T2.out.2.below b2⟩
  have HS1 : Hid (SlAt eM V3 va vn vc p.ms) := HS0.out.below b2
  clear b2 c0 d0 g0 d1 HS0
  have E : Hid (doC p c = (p, 182)) := by unfold doC doK; rw [if_pos QC.out, if_neg (by rw [KK.out]; decide : ¬ c.k = 1), if_pos KK.out]; unfold whn; unfold keepM; rw [if_pos HA.out]; exact rfl
  obtain ⟨Z, sZ, pZ, oZ, bZ⟩ := T3.out.1.tell T3.out.2
  have G : Hid (PrAt Z (w.heap.size + 2) x1 ∧ IsOwn Z w.heap.size x1 p ∧ Below w.heap.size w Z) := ⟨pZ, oZ, bZ⟩
  clear pZ oZ bZ
  have l9 := T3.out.1.var.ld
  go_wp2
  try rw [Exit.noGoto_ret]
  exact ret_pe Try.results6 rfl rfl rfl G.out.1 (by show DoT w _ _ _; rw [E.out]; exact ⟨⟨_, rfl, G.out.2.1⟩, G.out.2.2⟩)
set_option maxHeartbeats 8000000 in
theorem do_2_ok (x : Pr) (p : Pv) (y : Cm) (c : Cd) (w : World) (h : IsPv w x p) (hz : Sz p) (hc : IsCm w y c) (hcl : c.b.ps.length ≤ 1000) (hq : chk p = true) (hk : c.k = 2) (ha : p.ms.any (eqM · c.m) = true) :
    Calls Try.prog 6 #[.agg x.cs, .agg y.cs] w fun r w' => DoT w (doC p c) r w' := by
  obtain ⟨W, V, U, hW, hV, hU, S0, zW, zV, zU⟩ := DoS.new w x y
  have T0 : Hid (DoS w U x y ∧ U.heap.size = w.heap.size + 3) := ⟨S0, zU⟩
  have H : Hid (IsPv w x p ∧ Sz p ∧ IsCm w y c ∧ c.b.ps.length ≤ 1000) := ⟨h, hz, hc, hcl⟩
  have QC : Hid (chk p = true) := hq
  have EK : Hid (y.k = c.k) := hc.k
  clear S0 h hz hc hcl zU hq
  have l0 := T0.out.1.var.ld
  go_enter Try.func6, Try.ntmps6
  go_wp2_with fail
  try go_step3
  go_wp2_with fail
  refine (twin_any x p U (H.out.1.below T0.out.1.bel) H.out.2.1).mono ?_
  rintro _ Y0 ⟨⟨x1, rfl, o0⟩, b0⟩
  obtain ⟨V1, s0, q0, g0⟩ := (T0.out.1.below b0).var.st (y := x1) o0.pv.one
  have T1 : Hid (DoS w V1 x1 y ∧ IsOwn V1 (w.heap.size + 3) x1 p) := ⟨(T0.out.1.below b0).set q0 g0, (o0.mono (by rw [T0.out.2]; exact Nat.le_refl _)).kept g0 (by omega)⟩
  clear o0 b0 q0 g0 l0
  have l1 := T1.out.1.var.ld
  go_wp2_with fail
  refine (ret_i (chk_any x1 p V1 T1.out.2.pv H.out.2.1.2.2.2.2) (by rw [QC.out])).mono ?_
  rintro _ V2 ⟨rfl, b1⟩
  have T2 : Hid (DoS w V2 x1 y ∧ IsOwn V2 (w.heap.size + 3) x1 p) := ⟨T1.out.1.below b1, T1.out.2.below b1⟩
  clear b1 l1
  rw [erC_yes]
  have HA : Hid (p.ms.any (eqM · c.m) = true) := ha
  clear ha
  have KK : Hid (c.k = 2) := hk
  clear hk
  have c0 := T2.out.1.cmd.k
  rw [EK.out, KK.out] at c0
  have d0 := T2.out.1.var.ld
  have g0 := T2.out.1.cmd.m
  rw [H.out.2.2.1.m] at g0
  obtain ⟨va, vn, vc, hv, hs⟩ := T2.out.2.pv.m
  have d1 := T2.out.1.var.m
  rw [hv] at d1
  have HS0 : Hid (SlAt eM V2 va vn vc p.ms) := hs
  clear hs hv
  go_wp2_with fail
  try go_step3
  go_wp2_with fail
  refine (ret_b (hasM_any va vn vc p.ms c.m V2 HS0.out) HA.out).mono ?_
  rintro _ V3 ⟨rfl, b2⟩
  have T3 : Hid (DoS w V3 x1 y ∧ IsOwn V3 (w.heap.size + 3) x1 p) := ⟨T2.out.1.below b2, T2.out.2.below b2⟩
  have HS1 : Hid (SlAt eM V3 va vn vc p.ms) := HS0.out.below b2
  clear b2 c0 d0 g0 d1 HS0
  have E : Hid (doC p c = ({ p with ms := p.ms.filter (fun y => cmM y c.m != 0) }, 0)) := by unfold doC doK; rw [if_pos QC.out, if_neg (by rw [KK.out]; decide : ¬ c.k = 1), if_pos KK.out]; unfold whn; rw [show keepM p c.m = 0 by unfold keepM; rw [if_neg (by rw [HA.out]; decide)], if_pos rfl]; exact rfl
  obtain ⟨va, vn, vc, hv, hs⟩ := T3.out.2.pv.m
  have d1 := T3.out.1.var.m
  rw [hv] at d1
  have HS : Hid (SlAt eM V3 va vn vc p.ms ∧ vn ≤ 200) := ⟨hs, by rw [← hs.len]; exact Nat.le_trans H.out.2.1.2.1 (by omega)⟩
  clear hs hv
  have g1 := T3.out.1.cmd.m
  rw [H.out.2.2.1.m] at g1
  go_wp2_with fail
  refine (woutM_any va vn vc p.ms c.m V3 HS.out.1 HS.out.2).mono ?_
  rintro _ Y3 ⟨⟨v3, rfl, o3⟩, b3⟩
  obtain ⟨V4, s3, q3, g3⟩ := (T3.out.1.below b3).var.stM v3 o3.slv.one
  have T4 : Hid (DoS w V4 { x1 with m := v3 } y ∧ IsOwn V4 (w.heap.size + 3) { x1 with m := v3 } { p with ms := p.ms.filter (fun y => cmM y c.m != 0) }) := by
    refine ⟨(T3.out.1.below b3).set q3 g3, ?_⟩
    have o4 := (T3.out.2.below b3).kept g3 (by omega)
    exact { o4 with m := (o3.mono T3.out.1.siz).kept g3 (by omega) }
  clear o3 b3 q3 g3 d1 g1
  obtain ⟨Z, sZ, pZ, oZ, bZ⟩ := T4.out.1.tell T4.out.2
  have G : Hid (PrAt Z (w.heap.size + 2) { x1 with m := v3 } ∧ IsOwn Z w.heap.size { x1 with m := v3 } { p with ms := p.ms.filter (fun y => cmM y c.m != 0) } ∧ Below w.heap.size w Z) := ⟨pZ, oZ, bZ⟩
  clear pZ oZ bZ
  have l9 := T4.out.1.var.ld
  go_wp2
  try rw [Exit.noGoto_ret]
  exact ret_pe Try.results6 rfl rfl rfl G.out.1 (by show DoT w _ _ _; rw [E.out]; exact ⟨⟨_, rfl, G.out.2.1⟩, G.out.2.2⟩)
set_option maxHeartbeats 8000000 in
theorem do_4_no (x : Pr) (p : Pv) (y : Cm) (c : Cd) (w : World) (h : IsPv w x p) (hz : Sz p) (hc : IsCm w y c) (hcl : c.b.ps.length ≤ 1000) (hq : chk p = true) (hk : c.k = 4) (e : Int) (her : keepC p c.c = e) (he : ¬ e = 0) :
    Calls Try.prog 6 #[.agg x.cs, .agg y.cs] w fun r w' => DoT w (doC p c) r w' := by
  obtain ⟨W, V, U, hW, hV, hU, S0, zW, zV, zU⟩ := DoS.new w x y
  have T0 : Hid (DoS w U x y ∧ U.heap.size = w.heap.size + 3) := ⟨S0, zU⟩
  have H : Hid (IsPv w x p ∧ Sz p ∧ IsCm w y c ∧ c.b.ps.length ≤ 1000) := ⟨h, hz, hc, hcl⟩
  have QC : Hid (chk p = true) := hq
  have EK : Hid (y.k = c.k) := hc.k
  clear S0 h hz hc hcl zU hq
  have l0 := T0.out.1.var.ld
  go_enter Try.func6, Try.ntmps6
  go_wp2_with fail
  try go_step3
  go_wp2_with fail
  refine (twin_any x p U (H.out.1.below T0.out.1.bel) H.out.2.1).mono ?_
  rintro _ Y0 ⟨⟨x1, rfl, o0⟩, b0⟩
  obtain ⟨V1, s0, q0, g0⟩ := (T0.out.1.below b0).var.st (y := x1) o0.pv.one
  have T1 : Hid (DoS w V1 x1 y ∧ IsOwn V1 (w.heap.size + 3) x1 p) := ⟨(T0.out.1.below b0).set q0 g0, (o0.mono (by rw [T0.out.2]; exact Nat.le_refl _)).kept g0 (by omega)⟩
  clear o0 b0 q0 g0 l0
  have l1 := T1.out.1.var.ld
  go_wp2_with fail
  refine (ret_i (chk_any x1 p V1 T1.out.2.pv H.out.2.1.2.2.2.2) (by rw [QC.out])).mono ?_
  rintro _ V2 ⟨rfl, b1⟩
  have T2 : Hid (DoS w V2 x1 y ∧ IsOwn V2 (w.heap.size + 3) x1 p) := ⟨T1.out.1.below b1, T1.out.2.below b1⟩
  clear b1 l1
  rw [erC_yes]
  have ER : Hid (keepC p c.c = e) := her
  clear her
  have KK : Hid (c.k = 4) := hk
  clear hk
  have c0 := T2.out.1.cmd.k
  rw [EK.out, KK.out] at c0
  have d0 := T2.out.1.var.ld
  have g0 := T2.out.1.cmd.c
  rw [H.out.2.2.1.c] at g0
  go_wp2_with fail
  try go_step3
  go_wp2_with fail
  refine (ret_i (keepC_any x1 p c.c V2 T2.out.2.pv H.out.2.1.2.1) ER.out).mono ?_
  rintro _ V3 ⟨rfl, b2⟩
  have T3 : Hid (DoS w V3 x1 y ∧ IsOwn V3 (w.heap.size + 3) x1 p) := ⟨T2.out.1.below b2, T2.out.2.below b2⟩
  clear b2 c0 d0 g0
  have e0 : (e != 0) = true := by simp [he]
  have E : Hid (doC p c = (p, e)) := by unfold doC doK; rw [if_pos QC.out, if_neg (by rw [KK.out]; decide : ¬ c.k = 1), if_neg (by rw [KK.out]; decide : ¬ c.k = 2), if_neg (by rw [KK.out]; decide : ¬ c.k = 3), if_pos KK.out]; unfold whn; rw [ER.out, if_neg he]; exact rfl
  clear he
  obtain ⟨Z, sZ, pZ, oZ, bZ⟩ := T3.out.1.tell T3.out.2
  have G : Hid (PrAt Z (w.heap.size + 2) x1 ∧ IsOwn Z w.heap.size x1 p ∧ Below w.heap.size w Z) := ⟨pZ, oZ, bZ⟩
  clear pZ oZ bZ
  have l9 := T3.out.1.var.ld
  go_wp2
  try rw [Exit.noGoto_ret]
  exact ret_pe Try.results6 rfl rfl rfl G.out.1 (by show DoT w _ _ _; rw [E.out]; exact ⟨⟨_, rfl, G.out.2.1⟩, G.out.2.2⟩)
set_option maxHeartbeats 8000000 in
theorem do_4_ok (x : Pr) (p : Pv) (y : Cm) (c : Cd) (w : World) (h : IsPv w x p) (hz : Sz p) (hc : IsCm w y c) (hcl : c.b.ps.length ≤ 1000) (hq : chk p = true) (hk : c.k = 4) (her : keepC p c.c = 0) :
    Calls Try.prog 6 #[.agg x.cs, .agg y.cs] w fun r w' => DoT w (doC p c) r w' := by
  obtain ⟨W, V, U, hW, hV, hU, S0, zW, zV, zU⟩ := DoS.new w x y
  have T0 : Hid (DoS w U x y ∧ U.heap.size = w.heap.size + 3) := ⟨S0, zU⟩
  have H : Hid (IsPv w x p ∧ Sz p ∧ IsCm w y c ∧ c.b.ps.length ≤ 1000) := ⟨h, hz, hc, hcl⟩
  have QC : Hid (chk p = true) := hq
  have EK : Hid (y.k = c.k) := hc.k
  clear S0 h hz hc hcl zU hq
  have l0 := T0.out.1.var.ld
  go_enter Try.func6, Try.ntmps6
  go_wp2_with fail
  try go_step3
  go_wp2_with fail
  refine (twin_any x p U (H.out.1.below T0.out.1.bel) H.out.2.1).mono ?_
  rintro _ Y0 ⟨⟨x1, rfl, o0⟩, b0⟩
  obtain ⟨V1, s0, q0, g0⟩ := (T0.out.1.below b0).var.st (y := x1) o0.pv.one
  have T1 : Hid (DoS w V1 x1 y ∧ IsOwn V1 (w.heap.size + 3) x1 p) := ⟨(T0.out.1.below b0).set q0 g0, (o0.mono (by rw [T0.out.2]; exact Nat.le_refl _)).kept g0 (by omega)⟩
  clear o0 b0 q0 g0 l0
  have l1 := T1.out.1.var.ld
  go_wp2_with fail
  refine (ret_i (chk_any x1 p V1 T1.out.2.pv H.out.2.1.2.2.2.2) (by rw [QC.out])).mono ?_
  rintro _ V2 ⟨rfl, b1⟩
  have T2 : Hid (DoS w V2 x1 y ∧ IsOwn V2 (w.heap.size + 3) x1 p) := ⟨T1.out.1.below b1, T1.out.2.below b1⟩
  clear b1 l1
  rw [erC_yes]
  have ER : Hid (keepC p c.c = 0) := her
  clear her
  have KK : Hid (c.k = 4) := hk
  clear hk
  have c0 := T2.out.1.cmd.k
  rw [EK.out, KK.out] at c0
  have d0 := T2.out.1.var.ld
  have g0 := T2.out.1.cmd.c
  rw [H.out.2.2.1.c] at g0
  go_wp2_with fail
  try go_step3
  go_wp2_with fail
  refine (ret_i (keepC_any x1 p c.c V2 T2.out.2.pv H.out.2.1.2.1) ER.out).mono ?_
  rintro _ V3 ⟨rfl, b2⟩
  have T3 : Hid (DoS w V3 x1 y ∧ IsOwn V3 (w.heap.size + 3) x1 p) := ⟨T2.out.1.below b2, T2.out.2.below b2⟩
  clear b2 c0 d0 g0
  have E : Hid (doC p c = ({ p with cs := p.cs.filter (fun y => cmC y c.c != 0) }, 0)) := by unfold doC doK; rw [if_pos QC.out, if_neg (by rw [KK.out]; decide : ¬ c.k = 1), if_neg (by rw [KK.out]; decide : ¬ c.k = 2), if_neg (by rw [KK.out]; decide : ¬ c.k = 3), if_pos KK.out]; unfold whn; rw [ER.out, if_pos rfl]; exact rfl
  obtain ⟨va, vn, vc, hv, hs⟩ := T3.out.2.pv.c
  have d1 := T3.out.1.var.c
  rw [hv] at d1
  have HS : Hid (SlAt eC V3 va vn vc p.cs ∧ vn ≤ 200) := ⟨hs, by rw [← hs.len]; exact Nat.le_trans H.out.2.1.2.2.1 (by omega)⟩
  clear hs hv
  have g1 := T3.out.1.cmd.c
  rw [H.out.2.2.1.c] at g1
  go_wp2_with fail
  refine (woutC_any va vn vc p.cs c.c V3 HS.out.1 HS.out.2).mono ?_
  rintro _ Y3 ⟨⟨v3, rfl, o3⟩, b3⟩
  obtain ⟨V4, s3, q3, g3⟩ := (T3.out.1.below b3).var.stC v3 o3.slv.one
  have T4 : Hid (DoS w V4 { x1 with c := v3 } y ∧ IsOwn V4 (w.heap.size + 3) { x1 with c := v3 } { p with cs := p.cs.filter (fun y => cmC y c.c != 0) }) := by
    refine ⟨(T3.out.1.below b3).set q3 g3, ?_⟩
    have o4 := (T3.out.2.below b3).kept g3 (by omega)
    exact { o4 with c := (o3.mono T3.out.1.siz).kept g3 (by omega) }
  clear o3 b3 q3 g3 d1 g1
  obtain ⟨Z, sZ, pZ, oZ, bZ⟩ := T4.out.1.tell T4.out.2
  have G : Hid (PrAt Z (w.heap.size + 2) { x1 with c := v3 } ∧ IsOwn Z w.heap.size { x1 with c := v3 } { p with cs := p.cs.filter (fun y => cmC y c.c != 0) } ∧ Below w.heap.size w Z) := ⟨pZ, oZ, bZ⟩
  clear pZ oZ bZ
  have l9 := T4.out.1.var.ld
  go_wp2
  try rw [Exit.noGoto_ret]
  exact ret_pe Try.results6 rfl rfl rfl G.out.1 (by show DoT w _ _ _; rw [E.out]; exact ⟨⟨_, rfl, G.out.2.1⟩, G.out.2.2⟩)
set_option maxHeartbeats 8000000 in
theorem do_6_no (x : Pr) (p : Pv) (y : Cm) (c : Cd) (w : World) (h : IsPv w x p) (hz : Sz p) (hc : IsCm w y c) (hcl : c.b.ps.length ≤ 1000) (hq : chk p = true) (hk : c.k = 6) (e : Int) (her : keepB p c.b.v = e) (he : ¬ e = 0) :
    Calls Try.prog 6 #[.agg x.cs, .agg y.cs] w fun r w' => DoT w (doC p c) r w' := by
  obtain ⟨W, V, U, hW, hV, hU, S0, zW, zV, zU⟩ := DoS.new w x y
  have T0 : Hid (DoS w U x y ∧ U.heap.size = w.heap.size + 3) := ⟨S0, zU⟩
  have H : Hid (IsPv w x p ∧ Sz p ∧ IsCm w y c ∧ c.b.ps.length ≤ 1000) := ⟨h, hz, hc, hcl⟩
  have QC : Hid (chk p = true) := hq
  have EK : Hid (y.k = c.k) := hc.k
  clear S0 h hz hc hcl zU hq
  have l0 := T0.out.1.var.ld
  go_enter Try.func6, Try.ntmps6
  go_wp2_with fail
  try go_step3
  go_wp2_with fail
  refine (twin_any x p U (H.out.1.below T0.out.1.bel) H.out.2.1).mono ?_
  rintro _ Y0 ⟨⟨x1, rfl, o0⟩, b0⟩
  obtain ⟨V1, s0, q0, g0⟩ := (T0.out.1.below b0).var.st (y := x1) o0.pv.one
  have T1 : Hid (DoS w V1 x1 y ∧ IsOwn V1 (w.heap.size + 3) x1 p) := ⟨(T0.out.1.below b0).set q0 g0, (o0.mono (by rw [T0.out.2]; exact Nat.le_refl _)).kept g0 (by omega)⟩
  clear o0 b0 q0 g0 l0
  have l1 := T1.out.1.var.ld
  go_wp2_with fail
  refine (ret_i (chk_any x1 p V1 T1.out.2.pv H.out.2.1.2.2.2.2) (by rw [QC.out])).mono ?_
  rintro _ V2 ⟨rfl, b1⟩
  have T2 : Hid (DoS w V2 x1 y ∧ IsOwn V2 (w.heap.size + 3) x1 p) := ⟨T1.out.1.below b1, T1.out.2.below b1⟩
  clear b1 l1
  rw [erC_yes]
  have ER : Hid (keepB p c.b.v = e) := her
  clear her
  have KK : Hid (c.k = 6) := hk
  clear hk
  have c0 := T2.out.1.cmd.k
  rw [EK.out, KK.out] at c0
  have d0 := T2.out.1.var.ld
  have g0 := T2.out.1.cmd.bv
  rw [H.out.2.2.1.v] at g0
  go_wp2_with fail
  try go_step3
  go_wp2_with fail
  refine (ret_i (keepB_any x1 p c.b.v V2 T2.out.2.pv ⟨H.out.2.1.2.2.2.2, H.out.2.1.2.2.1⟩) ER.out).mono ?_
  rintro _ V3 ⟨rfl, b2⟩
  have T3 : Hid (DoS w V3 x1 y ∧ IsOwn V3 (w.heap.size + 3) x1 p) := ⟨T2.out.1.below b2, T2.out.2.below b2⟩
  clear b2 c0 d0 g0
  have e0 : (e != 0) = true := by simp [he]
  have E : Hid (doC p c = (p, e)) := by unfold doC doK; rw [if_pos QC.out, if_neg (by rw [KK.out]; decide : ¬ c.k = 1), if_neg (by rw [KK.out]; decide : ¬ c.k = 2), if_neg (by rw [KK.out]; decide : ¬ c.k = 3), if_neg (by rw [KK.out]; decide : ¬ c.k = 4), if_neg (by rw [KK.out]; decide : ¬ c.k = 5), if_pos KK.out]; unfold whn; rw [ER.out, if_neg he]; exact rfl
  clear he
  obtain ⟨Z, sZ, pZ, oZ, bZ⟩ := T3.out.1.tell T3.out.2
  have G : Hid (PrAt Z (w.heap.size + 2) x1 ∧ IsOwn Z w.heap.size x1 p ∧ Below w.heap.size w Z) := ⟨pZ, oZ, bZ⟩
  clear pZ oZ bZ
  have l9 := T3.out.1.var.ld
  go_wp2
  try rw [Exit.noGoto_ret]
  exact ret_pe Try.results6 rfl rfl rfl G.out.1 (by show DoT w _ _ _; rw [E.out]; exact ⟨⟨_, rfl, G.out.2.1⟩, G.out.2.2⟩)
set_option maxHeartbeats 8000000 in
theorem do_6_ok (x : Pr) (p : Pv) (y : Cm) (c : Cd) (w : World) (h : IsPv w x p) (hz : Sz p) (hc : IsCm w y c) (hcl : c.b.ps.length ≤ 1000) (hq : chk p = true) (hk : c.k = 6) (her : keepB p c.b.v = 0) :
    Calls Try.prog 6 #[.agg x.cs, .agg y.cs] w fun r w' => DoT w (doC p c) r w' := by
  obtain ⟨W, V, U, hW, hV, hU, S0, zW, zV, zU⟩ := DoS.new w x y
  have T0 : Hid (DoS w U x y ∧ U.heap.size = w.heap.size + 3) := ⟨S0, zU⟩
  have H : Hid (IsPv w x p ∧ Sz p ∧ IsCm w y c ∧ c.b.ps.length ≤ 1000) := ⟨h, hz, hc, hcl⟩
  have QC : Hid (chk p = true) := hq
  have EK : Hid (y.k = c.k) := hc.k
  clear S0 h hz hc hcl zU hq
  have l0 := T0.out.1.var.ld
  go_enter Try.func6, Try.ntmps6
  go_wp2_with fail
  try go_step3
  go_wp2_with fail
  refine (twin_any x p U (H.out.1.below T0.out.1.bel) H.out.2.1).mono ?_
  rintro _ Y0 ⟨⟨x1, rfl, o0⟩, b0⟩
  obtain ⟨V1, s0, q0, g0⟩ := (T0.out.1.below b0).var.st (y := x1) o0.pv.one
  have T1 : Hid (DoS w V1 x1 y ∧ IsOwn V1 (w.heap.size + 3) x1 p) := ⟨(T0.out.1.below b0).set q0 g0, (o0.mono (by rw [T0.out.2]; exact Nat.le_refl _)).kept g0 (by omega)⟩
  clear o0 b0 q0 g0 l0
  have l1 := T1.out.1.var.ld
  go_wp2_with fail
  refine (ret_i (chk_any x1 p V1 T1.out.2.pv H.out.2.1.2.2.2.2) (by rw [QC.out])).mono ?_
  rintro _ V2 ⟨rfl, b1⟩
  have T2 : Hid (DoS w V2 x1 y ∧ IsOwn V2 (w.heap.size + 3) x1 p) := ⟨T1.out.1.below b1, T1.out.2.below b1⟩
  clear b1 l1
  rw [erC_yes]
  have ER : Hid (keepB p c.b.v = 0) := her
  clear her
  have KK : Hid (c.k = 6) := hk
  clear hk
  have c0 := T2.out.1.cmd.k
  rw [EK.out, KK.out] at c0
  have d0 := T2.out.1.var.ld
  have g0 := T2.out.1.cmd.bv
  rw [H.out.2.2.1.v] at g0
  go_wp2_with fail
  try go_step3
  go_wp2_with fail
  refine (ret_i (keepB_any x1 p c.b.v V2 T2.out.2.pv ⟨H.out.2.1.2.2.2.2, H.out.2.1.2.2.1⟩) ER.out).mono ?_
  rintro _ V3 ⟨rfl, b2⟩
  have T3 : Hid (DoS w V3 x1 y ∧ IsOwn V3 (w.heap.size + 3) x1 p) := ⟨T2.out.1.below b2, T2.out.2.below b2⟩
  clear b2 c0 d0 g0
  have E : Hid (doC p c = ({ p with bs := p.bs.filter (fun y => cmB y c.b != 0) }, 0)) := by unfold doC doK; rw [if_pos QC.out, if_neg (by rw [KK.out]; decide : ¬ c.k = 1), if_neg (by rw [KK.out]; decide : ¬ c.k = 2), if_neg (by rw [KK.out]; decide : ¬ c.k = 3), if_neg (by rw [KK.out]; decide : ¬ c.k = 4), if_neg (by rw [KK.out]; decide : ¬ c.k = 5), if_pos KK.out]; unfold whn; rw [ER.out, if_pos rfl]; exact rfl
  obtain ⟨rr, ob, al⟩ := T3.out.2.b
  obtain ⟨va, vc, hv, hs, _⟩ := ob.form
  have d1 := T3.out.1.var.b
  rw [hv] at d1
  have HS : Hid (SlAt eB V3 va rr.length vc rr ∧ rr.length ≤ 200) := ⟨hs, by rw [al.len]; exact Nat.le_trans H.out.2.1.2.2.2.1 (by omega)⟩
  have HA : Hid (Al (OwnP V3 (w.heap.size + 3)) rr p.bs) := al
  obtain ⟨vn, hvn⟩ : ∃ z, rr.length = z := ⟨_, rfl⟩
  rw [hvn] at d1 HS
  clear hs hv ob al hvn
  have g1 := T3.out.1.cmd.b
  go_wp2_with fail
  refine (woutB_any va vn vc rr y.b V3 HS.out.1 HS.out.2).mono ?_
  rintro _ Y3 ⟨⟨v3, rfl, o3⟩, b3⟩
  obtain ⟨V4, s3, q3, g3⟩ := (T3.out.1.below b3).var.stB v3 o3.slv.one
  have T4 : Hid (DoS w V4 { x1 with b := v3 } y ∧ IsOwn V4 (w.heap.size + 3) { x1 with b := v3 } { p with bs := p.bs.filter (fun y => cmB y c.b != 0) }) := by
    refine ⟨(T3.out.1.below b3).set q3 g3, ?_⟩
    have o4 := (T3.out.2.below b3).kept g3 (by omega)
    refine { o4 with b := ⟨_, (o3.mono T3.out.1.siz).kept g3 (by omega), ?_⟩ }
    refine Al.mono (fun a b h => ⟨h.1, (h.2.below b3).kept g3 (by omega)⟩) (HA.out.fil fun a b h => ?_)
    show (cmI a.v y.b.v != 0) = (cmI b.v c.b.v != 0)
    rw [h.1, H.out.2.2.1.v]
  clear o3 b3 q3 g3 d1 g1
  obtain ⟨Z, sZ, pZ, oZ, bZ⟩ := T4.out.1.tell T4.out.2
  have G : Hid (PrAt Z (w.heap.size + 2) { x1 with b := v3 } ∧ IsOwn Z w.heap.size { x1 with b := v3 } { p with bs := p.bs.filter (fun y => cmB y c.b != 0) } ∧ Below w.heap.size w Z) := ⟨pZ, oZ, bZ⟩
  clear pZ oZ bZ
  have l9 := T4.out.1.var.ld
  go_wp2
  try rw [Exit.noGoto_ret]
  exact ret_pe Try.results6 rfl rfl rfl G.out.1 (by show DoT w _ _ _; rw [E.out]; exact ⟨⟨_, rfl, G.out.2.1⟩, G.out.2.2⟩)
set_option maxHeartbeats 8000000 in
theorem do_5_no (x : Pr) (p : Pv) (y : Cm) (c : Cd) (w : World) (h : IsPv w x p) (hz : Sz p) (hc : IsCm w y c) (hcl : c.b.ps.length ≤ 1000) (hq : chk p = true) (hk : c.k = 5) (e : Int) (her : refB p c.b = e) (he : ¬ e = 0) :
    Calls Try.prog 6 #[.agg x.cs, .agg y.cs] w fun r w' => DoT w (doC p c) r w' := by
  obtain ⟨W, V, U, hW, hV, hU, S0, zW, zV, zU⟩ := DoS.new w x y
  have T0 : Hid (DoS w U x y ∧ U.heap.size = w.heap.size + 3) := ⟨S0, zU⟩
  have H : Hid (IsPv w x p ∧ Sz p ∧ IsCm w y c ∧ c.b.ps.length ≤ 1000) := ⟨h, hz, hc, hcl⟩
  have QC : Hid (chk p = true) := hq
  have EK : Hid (y.k = c.k) := hc.k
  have ER : Hid (refB p c.b = e) := her
  have EB : Hid (refB p ⟨y.b.v, c.b.ps⟩ = e) := by rw [hc.v]; exact her
  clear her
  clear S0 h hz hc hcl zU hq
  have l0 := T0.out.1.var.ld
  go_enter Try.func6, Try.ntmps6
  go_wp2_with fail
  try go_step3
  go_wp2_with fail
  refine (twin_any x p U (H.out.1.below T0.out.1.bel) H.out.2.1).mono ?_
  rintro _ Y0 ⟨⟨x1, rfl, o0⟩, b0⟩
  obtain ⟨V1, s0, q0, g0⟩ := (T0.out.1.below b0).var.st (y := x1) o0.pv.one
  have T1 : Hid (DoS w V1 x1 y ∧ IsOwn V1 (w.heap.size + 3) x1 p) := ⟨(T0.out.1.below b0).set q0 g0, (o0.mono (by rw [T0.out.2]; exact Nat.le_refl _)).kept g0 (by omega)⟩
  clear o0 b0 q0 g0 l0
  have l1 := T1.out.1.var.ld
  go_wp2_with fail
  refine (ret_i (chk_any x1 p V1 T1.out.2.pv H.out.2.1.2.2.2.2) (by rw [QC.out])).mono ?_
  rintro _ V2 ⟨rfl, b1⟩
  have T2 : Hid (DoS w V2 x1 y ∧ IsOwn V2 (w.heap.size + 3) x1 p) := ⟨T1.out.1.below b1, T1.out.2.below b1⟩
  clear b1 l1
  rw [erC_yes]
  have KK : Hid (c.k = 5) := hk
  clear hk
  have c0 := T2.out.1.cmd.k
  rw [EK.out, KK.out] at c0
  have d0 := T2.out.1.var.ld
  have g0 := T2.out.1.cmd.b
  go_wp2_with fail
  try go_step3
  go_wp2_with fail
  refine (ret_i (refB_any x1 p y.b c.b.ps V2 T2.out.2.pv ⟨H.out.2.1.2.2.2.2, (H.out.2.2.1.p.below T2.out.1.bel)⟩) EB.out).mono ?_
  rintro _ V3 ⟨rfl, b2⟩
  have T3 : Hid (DoS w V3 x1 y ∧ IsOwn V3 (w.heap.size + 3) x1 p) := ⟨T2.out.1.below b2, T2.out.2.below b2⟩
  clear b2 c0 d0 g0
  have e0 : (e != 0) = true := by simp [he]
  have E : Hid (doC p c = (p, e)) := by unfold doC doK; rw [if_pos QC.out, if_neg (by rw [KK.out]; decide : ¬ c.k = 1), if_neg (by rw [KK.out]; decide : ¬ c.k = 2), if_neg (by rw [KK.out]; decide : ¬ c.k = 3), if_neg (by rw [KK.out]; decide : ¬ c.k = 4), if_pos KK.out]; unfold whn; rw [ER.out, if_neg he]; exact rfl
  clear he
  obtain ⟨Z, sZ, pZ, oZ, bZ⟩ := T3.out.1.tell T3.out.2
  have G : Hid (PrAt Z (w.heap.size + 2) x1 ∧ IsOwn Z w.heap.size x1 p ∧ Below w.heap.size w Z) := ⟨pZ, oZ, bZ⟩
  clear pZ oZ bZ
  have l9 := T3.out.1.var.ld
  go_wp2
  try rw [Exit.noGoto_ret]
  exact ret_pe Try.results6 rfl rfl rfl G.out.1 (by show DoT w _ _ _; rw [E.out]; exact ⟨⟨_, rfl, G.out.2.1⟩, G.out.2.2⟩)
set_option maxHeartbeats 8000000 in
theorem do_5_ok (x : Pr) (p : Pv) (y : Cm) (c : Cd) (w : World) (h : IsPv w x p) (hz : Sz p) (hc : IsCm w y c) (hcl : c.b.ps.length ≤ 1000) (hq : chk p = true) (hk : c.k = 5) (her : refB p c.b = 0) :
    Calls Try.prog 6 #[.agg x.cs, .agg y.cs] w fun r w' => DoT w (doC p c) r w' := by
  obtain ⟨W, V, U, hW, hV, hU, S0, zW, zV, zU⟩ := DoS.new w x y
  have T0 : Hid (DoS w U x y ∧ U.heap.size = w.heap.size + 3) := ⟨S0, zU⟩
  have H : Hid (IsPv w x p ∧ Sz p ∧ IsCm w y c ∧ c.b.ps.length ≤ 1000) := ⟨h, hz, hc, hcl⟩
  have QC : Hid (chk p = true) := hq
  have EK : Hid (y.k = c.k) := hc.k
  have ER : Hid (refB p c.b = 0) := her
  have EB : Hid (refB p ⟨y.b.v, c.b.ps⟩ = 0) := by rw [hc.v]; exact her
  clear her
  clear S0 h hz hc hcl zU hq
  have l0 := T0.out.1.var.ld
  go_enter Try.func6, Try.ntmps6
  go_wp2_with fail
  try go_step3
  go_wp2_with fail
  refine (twin_any x p U (H.out.1.below T0.out.1.bel) H.out.2.1).mono ?_
  rintro _ Y0 ⟨⟨x1, rfl, o0⟩, b0⟩
  obtain ⟨V1, s0, q0, g0⟩ := (T0.out.1.below b0).var.st (y := x1) o0.pv.one
  have T1 : Hid (DoS w V1 x1 y ∧ IsOwn V1 (w.heap.size + 3) x1 p) := ⟨(T0.out.1.below b0).set q0 g0, (o0.mono (by rw [T0.out.2]; exact Nat.le_refl _)).kept g0 (by omega)⟩
  clear o0 b0 q0 g0 l0
  have l1 := T1.out.1.var.ld
  go_wp2_with fail
  refine (ret_i (chk_any x1 p V1 T1.out.2.pv H.out.2.1.2.2.2.2) (by rw [QC.out])).mono ?_
  rintro _ V2 ⟨rfl, b1⟩
  have T2 : Hid (DoS w V2 x1 y ∧ IsOwn V2 (w.heap.size + 3) x1 p) := ⟨T1.out.1.below b1, T1.out.2.below b1⟩
  clear b1 l1
  rw [erC_yes]
  have KK : Hid (c.k = 5) := hk
  clear hk
  have c0 := T2.out.1.cmd.k
  rw [EK.out, KK.out] at c0
  have d0 := T2.out.1.var.ld
  have g0 := T2.out.1.cmd.b
  go_wp2_with fail
  try go_step3
  go_wp2_with fail
  refine (ret_i (refB_any x1 p y.b c.b.ps V2 T2.out.2.pv ⟨H.out.2.1.2.2.2.2, (H.out.2.2.1.p.below T2.out.1.bel)⟩) EB.out).mono ?_
  rintro _ V3 ⟨rfl, b2⟩
  have T3 : Hid (DoS w V3 x1 y ∧ IsOwn V3 (w.heap.size + 3) x1 p) := ⟨T2.out.1.below b2, T2.out.2.below b2⟩
  clear b2 c0 d0 g0
  have E : Hid (doC p c = ({ p with bs := putL (cmB · c.b) c.b p.bs }, 0)) := by unfold doC doK; rw [if_pos QC.out, if_neg (by rw [KK.out]; decide : ¬ c.k = 1), if_neg (by rw [KK.out]; decide : ¬ c.k = 2), if_neg (by rw [KK.out]; decide : ¬ c.k = 3), if_neg (by rw [KK.out]; decide : ¬ c.k = 4), if_pos KK.out]; unfold whn; rw [ER.out, if_pos rfl]; exact rfl
  obtain ⟨rr, ob, al⟩ := T3.out.2.b
  obtain ⟨va, vc, hv, hs, _⟩ := ob.form
  have HS : Hid (SlAt eB V3 va rr.length vc rr ∧ rr.length ≤ 200 ∧ x1.b = .slice va rr.length vc) := ⟨hs, by rw [al.len]; exact Nat.le_trans H.out.2.1.2.2.2.1 (by omega), hv⟩
  have HA : Hid (Al (OwnP V3 (w.heap.size + 3)) rr p.bs) := al
  obtain ⟨vn, hvn⟩ : ∃ z, rr.length = z := ⟨_, rfl⟩
  rw [hvn] at HS
  clear hs hv ob al hvn
  go_wp2_with fail
  obtain ⟨X0, hX0⟩ : ∃ X0, World.drew V3 = X0 := ⟨_, rfl⟩
  have B0 : Hid (Below V3.heap.size V3 X0) := by rw [← hX0]; exact (Below.refl _ _).drew
  have D0 : Hid (DoS w X0 x1 y) := T3.out.1.below B0.out
  refine wp_region_noPanic ?_
  refine AnyZ.start (z := 7) (S := fun w' => PrAt w' w.heap.size x1 ∧ CmAt w' (w.heap.size + 1) y) (by kernel_rfl) (by rw [hX0]; exact ⟨D0.out.var, D0.out.cmd⟩) (fun hHeld => ?_)
  rw [hX0] at hHeld ⊢
  clear hX0
  refine AnyZ.take (i := 0) (oi := { dst := some 81, op := Op.fieldAddr 29 (Operand.tmp 2) 4, type := 0, pos := "prov.go:57", after := #[], guard := none }) (v := ?_) rfl (by kernel_rfl) (by kernel_rfl) (fun _ _ _ h => h) _ _ _ _ (by kernel_rfl) (by kernel_rfl) (by kernel_rfl) (Or.inl ⟨by rfl, ?_⟩) hHeld ?_
  rotate_left
  · intro W_ hSw_
    have u0 := hSw_.1.b; rw [HS.out.2.2] at u0; have u1 := hSw_.2.b; clear hSw_
    first | (go_simp; done) | (go_simp; with_reducible rfl)
  rotate_left
  try simp only [Act.put, List.setIfInBounds_toArray, List.set_cons_zero, List.set_cons_succ]
  refine AnyZ.take (i := 1) (oi := { dst := some 82, op := Op.load 27 (Operand.tmp 81), type := 27, pos := "prov.go:57", after := #[{ on := 0, ground := Ground.data }], guard := none }) (v := ?_) rfl (by kernel_rfl) (by kernel_rfl) (fun _ _ _ h => h) _ _ _ _ (by kernel_rfl) (by kernel_rfl) (by kernel_rfl) (Or.inl ⟨by rfl, ?_⟩) hHeld ?_
  rotate_left
  · intro W_ hSw_
    have u0 := hSw_.1.b; rw [HS.out.2.2] at u0; have u1 := hSw_.2.b; clear hSw_
    first | (go_simp; done) | (go_simp; with_reducible rfl)
  rotate_left
  try simp only [Act.put, List.setIfInBounds_toArray, List.set_cons_zero, List.set_cons_succ]
  refine AnyZ.take (i := 2) (oi := { dst := some 83, op := Op.fieldAddr 48 (Operand.tmp 3) 3, type := 0, pos := "prov.go:57", after := #[], guard := none }) (v := ?_) rfl (by kernel_rfl) (by kernel_rfl) (fun _ _ _ h => h) _ _ _ _ (by kernel_rfl) (by kernel_rfl) (by kernel_rfl) (Or.inl ⟨by rfl, ?_⟩) hHeld ?_
  rotate_left
  · intro W_ hSw_
    have u0 := hSw_.1.b; rw [HS.out.2.2] at u0; have u1 := hSw_.2.b; clear hSw_
    first | (go_simp; done) | (go_simp; with_reducible rfl)
  rotate_left
  try simp only [Act.put, List.setIfInBounds_toArray, List.set_cons_zero, List.set_cons_succ]
  refine AnyZ.take (i := 3) (oi := { dst := some 84, op := Op.load 38 (Operand.tmp 83), type := 38, pos := "prov.go:57", after := #[{ on := 2, ground := Ground.data }], guard := none }) (v := ?_) rfl (by kernel_rfl) (by kernel_rfl) (fun _ _ _ h => h) _ _ _ _ (by kernel_rfl) (by kernel_rfl) (by kernel_rfl) (Or.inl ⟨by rfl, ?_⟩) hHeld ?_
  rotate_left
  · intro W_ hSw_
    have u0 := hSw_.1.b; rw [HS.out.2.2] at u0; have u1 := hSw_.2.b; clear hSw_
    first | (go_simp; done) | (go_simp; with_reducible rfl)
  rotate_left
  try simp only [Act.put, List.setIfInBounds_toArray, List.set_cons_zero, List.set_cons_succ]
  refine AnyZ.step (i := 4) (o := { dst := some 85, op := Op.call { callee := Callee.value (Operand.func 26), args := #[Operand.tmp 84], argTypes := #[38] }, type := 38, pos := "prov.go:57", after := #[{ on := 3, ground := Ground.data }], guard := none }) (by kernel_rfl) rfl (fun K hK => ?_)
  go_simp
  refine (twinm_any y.b c.b.ps X0 (H.out.2.2.1.p.below D0.out.bel) (by rw [← H.out.2.2.1.p.len]; exact H.out.2.2.2)).mono ?_
  rintro _ X1 ⟨⟨y', rfl, oP⟩, bX⟩
  have D1 : Hid (DoS w X1 x1 y ∧ OwnP X1 X0.heap.size y' ⟨y.b.v, c.b.ps⟩ ∧ Below V3.heap.size V3 X1) := ⟨D0.out.below bX, oP, below_over B0.out bX⟩
  clear oP bX
  clear hHeld
  refine hK.out _ _ ⟨D1.out.1.var, D1.out.1.cmd⟩ (fun hHeld => ?_)
  clear hK K
  try simp only [Act.put, List.setIfInBounds_toArray, List.set_cons_zero, List.set_cons_succ]
  refine AnyZ.step (i := 5) (o := { dst := some 86, op := Op.call { callee := Callee.value (Operand.func 25), args := #[Operand.tmp 82, Operand.tmp 85, Operand.func 27], argTypes := #[27, 38, 69] }, type := 27, pos := "prov.go:57", after := #[{ on := 1, ground := Ground.data }, { on := 4, ground := Ground.data }, { on := 4, ground := Ground.chain }], guard := none }) (by kernel_rfl) rfl (fun K hK => ?_)
  go_simp
  refine (putB_any va vn vc rr y' X1 (HS.out.1.below D1.out.2.2) HS.out.2.1).mono ?_
  rintro _ Y3 ⟨⟨v3, rfl, o3⟩, b3⟩
  have D2 : Hid (DoS w Y3 x1 y ∧ Own eB Y3 X1.heap.size v3 (putL (fun a : Mr => cmI a.v y'.v) y' rr) ∧ Below V3.heap.size V3 Y3 ∧ OwnP Y3 X0.heap.size y' ⟨y.b.v, c.b.ps⟩) := ⟨D1.out.1.below b3, o3, below_over D1.out.2.2 b3, ⟨D1.out.2.1.1, D1.out.2.1.2.below b3⟩⟩
  clear o3 b3
  clear hHeld
  refine hK.out _ _ ⟨D2.out.1.var, D2.out.1.cmd⟩ (fun hHeld => ?_)
  clear hK K
  try simp only [Act.put, List.setIfInBounds_toArray, List.set_cons_zero, List.set_cons_succ]
  refine AnyZ.take (i := 6) (oi := { dst := some 87, op := Op.fieldAddr 29 (Operand.tmp 2) 4, type := 0, pos := "prov.go:57", after := #[{ on := 0, ground := Ground.phase }, { on := 1, ground := Ground.phase }, { on := 2, ground := Ground.phase }, { on := 3, ground := Ground.phase }, { on := 4, ground := Ground.phase }, { on := 5, ground := Ground.phase }], guard := none }) (v := ?_) rfl (by kernel_rfl) (by kernel_rfl) (fun _ _ _ h => h) _ _ _ _ (by kernel_rfl) (by kernel_rfl) (by kernel_rfl) (Or.inl ⟨by rfl, ?_⟩) hHeld ?_
  rotate_left
  · intro W_ hSw_
    clear hSw_
    first | (go_simp; done) | (go_simp; with_reducible rfl)
  rotate_left
  try simp only [Act.put, List.setIfInBounds_toArray, List.set_cons_zero, List.set_cons_succ]
  obtain ⟨V4, s3, q3, g3⟩ := D2.out.1.var.stB v3 D2.out.2.1.slv.one
  have T4 : Hid (DoS w V4 { x1 with b := v3 } y ∧ IsOwn V4 (w.heap.size + 3) { x1 with b := v3 } { p with bs := putL (cmB · c.b) c.b p.bs }) := by
    refine ⟨D2.out.1.set q3 g3, ?_⟩
    have o4 := (T3.out.2.below D2.out.2.2.1).kept g3 (by omega)
    refine { o4 with b := ⟨_, (D2.out.2.1.mono D1.out.1.siz).kept g3 (by omega), ?_⟩ }
    refine Al.put (d := (cmB · c.b)) ⟨?_, ?_⟩ (fun a b h => ?_) (HA.out.mono fun a b h => ⟨h.1, (h.2.below D2.out.2.2.1).kept g3 (by omega)⟩)
    · show cmI a.v y'.v = cmI b.v c.b.v
      rw [h.1, D2.out.2.2.2.1]
      show cmI b.v y.b.v = _
      rw [H.out.2.2.1.v]
    · rw [D2.out.2.2.2.1]
      exact H.out.2.2.1.v
    · exact (D2.out.2.2.2.2.mono D0.out.siz).kept g3 (by omega)
  clear q3 g3
  refine AnyZ.stepF (i := 7) (o := { dst := none, op := Op.store 27 (Operand.tmp 87) (Operand.tmp 86), type := 0, pos := "prov.go:57", after := #[{ on := 6, ground := Ground.data }, { on := 5, ground := Ground.data }, { on := 5, ground := Ground.chain }, { on := 0, ground := Ground.phase }, { on := 1, ground := Ground.phase }, { on := 2, ground := Ground.phase }, { on := 3, ground := Ground.phase }, { on := 4, ground := Ground.phase }, { on := 5, ground := Ground.phase }], guard := none }) (by kernel_rfl) rfl (by kernel_rfl) (fun K hK => ?_)
  go_simp
  refine hK.out _ _ ?_
  clear hK K
  try simp only [Act.put, List.setIfInBounds_toArray, List.set_cons_zero, List.set_cons_succ]
  refine AnyZ.done (by kernel_rfl) ?_ _
  refine NoPanic.normal ?_
  clear s3
  obtain ⟨Z, sZ, pZ, oZ, bZ⟩ := T4.out.1.tell T4.out.2
  have G : Hid (PrAt Z (w.heap.size + 2) { x1 with b := v3 } ∧ IsOwn Z w.heap.size { x1 with b := v3 } { p with bs := putL (cmB · c.b) c.b p.bs } ∧ Below w.heap.size w Z) := ⟨pZ, oZ, bZ⟩
  clear pZ oZ bZ
  have l9 := T4.out.1.var.ld
  go_wp2
  try rw [Exit.noGoto_ret]
  exact ret_pe Try.results6 rfl rfl rfl G.out.1 (by show DoT w _ _ _; rw [E.out]; exact ⟨⟨_, rfl, G.out.2.1⟩, G.out.2.2⟩)
set_option maxHeartbeats 8000000 in
theorem do_else (x : Pr) (p : Pv) (y : Cm) (c : Cd) (w : World) (h : IsPv w x p) (hz : Sz p) (hc : IsCm w y c) (hcl : c.b.ps.length ≤ 1000) (hq : chk p = true) (hn : ¬ c.k = 1 ∧ ¬ c.k = 2 ∧ ¬ c.k = 3 ∧ ¬ c.k = 4 ∧ ¬ c.k = 5 ∧ ¬ c.k = 6) :
    Calls Try.prog 6 #[.agg x.cs, .agg y.cs] w fun r w' => DoT w (doC p c) r w' := by
  obtain ⟨W, V, U, hW, hV, hU, S0, zW, zV, zU⟩ := DoS.new w x y
  have T0 : Hid (DoS w U x y ∧ U.heap.size = w.heap.size + 3) := ⟨S0, zU⟩
  have H : Hid (IsPv w x p ∧ Sz p ∧ IsCm w y c ∧ c.b.ps.length ≤ 1000) := ⟨h, hz, hc, hcl⟩
  have QC : Hid (chk p = true) := hq
  have EK : Hid (y.k = c.k) := hc.k
  clear S0 h hz hc hcl zU hq
  have l0 := T0.out.1.var.ld
  go_enter Try.func6, Try.ntmps6
  go_wp2_with fail
  try go_step3
  go_wp2_with fail
  refine (twin_any x p U (H.out.1.below T0.out.1.bel) H.out.2.1).mono ?_
  rintro _ Y0 ⟨⟨x1, rfl, o0⟩, b0⟩
  obtain ⟨V1, s0, q0, g0⟩ := (T0.out.1.below b0).var.st (y := x1) o0.pv.one
  have T1 : Hid (DoS w V1 x1 y ∧ IsOwn V1 (w.heap.size + 3) x1 p) := ⟨(T0.out.1.below b0).set q0 g0, (o0.mono (by rw [T0.out.2]; exact Nat.le_refl _)).kept g0 (by omega)⟩
  clear o0 b0 q0 g0 l0
  have l1 := T1.out.1.var.ld
  go_wp2_with fail
  refine (ret_i (chk_any x1 p V1 T1.out.2.pv H.out.2.1.2.2.2.2) (by rw [QC.out])).mono ?_
  rintro _ V2 ⟨rfl, b1⟩
  have T2 : Hid (DoS w V2 x1 y ∧ IsOwn V2 (w.heap.size + 3) x1 p) := ⟨T1.out.1.below b1, T1.out.2.below b1⟩
  clear b1 l1
  rw [erC_yes]
  have c0 := T2.out.1.cmd.k
  rw [EK.out] at c0
  have N : Hid (¬ c.k = 1 ∧ ¬ c.k = 2 ∧ ¬ c.k = 3 ∧ ¬ c.k = 4 ∧ ¬ c.k = 5 ∧ ¬ c.k = 6) := hn
  have n1 : (c.k == 1) = false := by simp [hn.1]
  have n2 : (c.k == 2) = false := by simp [hn.2.1]
  have n3 : (c.k == 3) = false := by simp [hn.2.2.1]
  have n4 : (c.k == 4) = false := by simp [hn.2.2.2.1]
  have n5 : (c.k == 5) = false := by simp [hn.2.2.2.2.1]
  have n6 : (c.k == 6) = false := by simp [hn.2.2.2.2.2]
  have E : Hid (doC p c = (p, 1)) := by unfold doC doK; rw [if_pos QC.out, if_neg N.out.1, if_neg N.out.2.1, if_neg N.out.2.2.1, if_neg N.out.2.2.2.1, if_neg N.out.2.2.2.2.1, if_neg N.out.2.2.2.2.2]; exact rfl
  clear hn
  go_wp2_with fail
  try go_step3
  obtain ⟨Z, sZ, pZ, oZ, bZ⟩ := T2.out.1.tell T2.out.2
  have G : Hid (PrAt Z (w.heap.size + 2) x1 ∧ IsOwn Z w.heap.size x1 p ∧ Below w.heap.size w Z) := ⟨pZ, oZ, bZ⟩
  clear pZ oZ bZ
  have l9 := T2.out.1.var.ld
  go_wp2
  try rw [Exit.noGoto_ret]
  exact ret_pe Try.results6 rfl rfl rfl G.out.1 (by show DoT w _ _ _; rw [E.out]; exact ⟨⟨_, rfl, G.out.2.1⟩, G.out.2.2⟩)
theorem do_any (x : Pr) (p : Pv) (y : Cm) (c : Cd) (w : World) (h : IsPv w x p) (hz : Sz p) (hc : IsCm w y c) (hcl : c.b.ps.length ≤ 1000) :
    Calls Try.prog 6 #[.agg x.cs, .agg y.cs] w fun r w' => DoT w (doC p c) r w' := by
  cases hq : chk p with
  | false => exact do_no x p y c w h hz hc hcl hq
  | true =>
    by_cases k1 : c.k = 1
    · by_cases e : refM p c.m = 0
      · exact do_1_ok x p y c w h hz hc hcl hq k1 e
      · exact do_1_no x p y c w h hz hc hcl hq k1 _ rfl e
    by_cases k2 : c.k = 2
    · cases e : p.ms.any (eqM · c.m) with
      | true => exact do_2_ok x p y c w h hz hc hcl hq k2 e
      | false => exact do_2_no x p y c w h hz hc hcl hq k2 e
    by_cases k3 : c.k = 3
    · by_cases e : refC p c.c = 0
      · exact do_3_ok x p y c w h hz hc hcl hq k3 e
      · exact do_3_no x p y c w h hz hc hcl hq k3 _ rfl e
    by_cases k4 : c.k = 4
    · by_cases e : keepC p c.c = 0
      · exact do_4_ok x p y c w h hz hc hcl hq k4 e
      · exact do_4_no x p y c w h hz hc hcl hq k4 _ rfl e
    by_cases k5 : c.k = 5
    · by_cases e : refB p c.b = 0
      · exact do_5_ok x p y c w h hz hc hcl hq k5 e
      · exact do_5_no x p y c w h hz hc hcl hq k5 _ rfl e
    by_cases k6 : c.k = 6
    · by_cases e : keepB p c.b.v = 0
      · exact do_6_ok x p y c w h hz hc hcl hq k6 e
      · exact do_6_no x p y c w h hz hc hcl hq k6 _ rfl e
    exact do_else x p y c w h hz hc hcl hq ⟨k1, k2, k3, k4, k5, k6⟩
end Go.Proofs.Ytmfjlhcobhilcab
