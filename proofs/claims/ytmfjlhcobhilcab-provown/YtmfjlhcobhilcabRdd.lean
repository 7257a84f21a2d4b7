/-
  What the definition does with any command: the walk of Do, for every input.
-/
import Derived.Test.YtmfjlhcobhilcabRst
import Derived.Test.YtmfjlhcobhilcabDoc
namespace Go.Proofs.Ytmfjlhcobhilcab
set_option linter.unusedVariables false
set_option maxRecDepth 4000
set_option linter.unusedSimpArgs false
open Go.RowKit
attribute [local go_sem ↓] ldM stM ldC stC ldB stB ldP stP apI bsI
attribute [local go_sem] bsI_is bsI2_is

attribute [local go_sem ↓] stIs stKs stMs stCs stBs ldD stD
set_option maxHeartbeats 8000000 in
theorem rdo_no (x : Pr) (p : Pv) (y : Cm) (c : Cd) (w : World) (h : IsPv w x p) (hz : Sz p) (hc : IsCm w y c) (hcl : c.b.ps.length ≤ 1000) (hq : chkR p = false) :
    Calls Try.prog 31 #[.agg x.cs, .agg y.cs] w fun r w' => RdT w (doR p c) r w' := by
  obtain ⟨W, V, U, hW, hV, hU, S0, zW, zV, zU⟩ := DoS.new w x y
  have T0 : Hid (DoS w U x y) := S0
  have H : Hid (IsPv w x p ∧ Sz p ∧ IsCm w y c ∧ c.b.ps.length ≤ 1000) := ⟨h, hz, hc, hcl⟩
  have QC : Hid (chkR p = false) := hq
  have EK : Hid (y.k = c.k) := hc.k
  clear S0 h hz hc hcl hq zU
  have l0 := T0.out.var.ld
  go_enter Try.func31, Try.ntmps31
  go_wp2_with fail
  refine (ret_i (rchk_any x p U (H.out.1.below T0.out.bel) H.out.2.1) (by rw [QC.out])).mono ?_
  rintro _ V1 ⟨rfl, b1⟩
  rw [erC_no]
  have T1 : Hid (DoS w V1 x y) := T0.out.below b1
  clear b1 l0
  have E : Hid (doR p c = (p, 180)) := by unfold doR; rw [QC.out]; exact rfl
  obtain ⟨Z, sZ, pZ, gZ⟩ := T1.out.res.st (y := x) H.out.1.one
  have bZ : Below w.heap.size w Z := gro T1.out.bel gZ (by omega) T1.out.bel.size
  have G : Hid (PrAt Z (w.heap.size + 2) x ∧ IsPv Z x p ∧ Below w.heap.size w Z) := ⟨pZ, H.out.1.below bZ, bZ⟩
  clear pZ gZ bZ
  have l9 := T1.out.var.ld
  go_wp2
  exact ret_pe Try.results31 rfl rfl rfl G.out.1 (by show RdT w _ _ _; rw [E.out]; exact ⟨⟨_, rfl, G.out.2.1⟩, G.out.2.2⟩)
set_option maxHeartbeats 8000000 in
theorem rdo_1 (x : Pr) (p : Pv) (y : Cm) (c : Cd) (w : World) (h : IsPv w x p) (hz : Sz p) (hc : IsCm w y c) (hcl : c.b.ps.length ≤ 1000) (hq : chkR p = true) (hk : c.k = 1) :
    Calls Try.prog 31 #[.agg x.cs, .agg y.cs] w fun r w' => RdT w (doR p c) r w' := by
  obtain ⟨W, V, U, hW, hV, hU, S0, zW, zV, zU⟩ := DoS.new w x y
  have T0 : Hid (DoS w U x y) := S0
  have H : Hid (IsPv w x p ∧ Sz p ∧ IsCm w y c ∧ c.b.ps.length ≤ 1000) := ⟨h, hz, hc, hcl⟩
  have QC : Hid (chkR p = true) := hq
  have EK : Hid (y.k = c.k) := hc.k
  clear S0 h hz hc hcl hq zU
  have l0 := T0.out.var.ld
  go_enter Try.func31, Try.ntmps31
  go_wp2_with fail
  refine (ret_i (rchk_any x p U (H.out.1.below T0.out.bel) H.out.2.1) (by rw [QC.out])).mono ?_
  rintro _ V1 ⟨rfl, b1⟩
  rw [erC_yes]
  have T1 : Hid (DoS w V1 x y) := T0.out.below b1
  clear b1 l0
  have KK : Hid (c.k = 1) := hk
  clear hk
  have c0 := T1.out.cmd.k
  rw [EK.out, KK.out] at c0
  have d0 := T1.out.var.ld
  have g0 := T1.out.cmd.m
  rw [H.out.2.2.1.m] at g0
  obtain ⟨q, hq⟩ : ∃ z, doR p c = z := ⟨_, rfl⟩
  have E : Hid (doR p c = q) := hq
  have E0 : doR p c = roK p c := by unfold doR; rw [if_pos QC.out]
  rw [E0] at hq
  unfold roK at hq
  rw [if_pos KK.out] at hq
  have HQ : Hid _ := hq
  clear hq E0
  go_wp2_with fail
  refine (raddM_any x p c.m V1 (H.out.1.below T1.out.bel) H.out.2.1).mono ?_
  rintro _ V2 ⟨⟨x2, rfl, i2⟩, b2⟩
  rw [HQ.out] at i2
  rw [HQ.out]
  have T2 := T1.out.below b2
  obtain ⟨Z, sZ, pZ, gZ⟩ := T2.res.st (y := x2) i2.one
  have bZ : Below w.heap.size w Z := gro T2.bel gZ (by omega) T2.bel.size
  have G : Hid (PrAt Z (w.heap.size + 2) x2 ∧ IsPv Z x2 q.1 ∧ Below w.heap.size w Z) := ⟨pZ, i2.keptV T2.res (zp_is V2) gZ, bZ⟩
  clear pZ gZ bZ T2 i2 b2 c0 d0 g0
  go_wp2
  exact ret_pe Try.results31 rfl rfl rfl G.out.1 (by show RdT w _ _ _; rw [E.out]; exact ⟨⟨_, rfl, G.out.2.1⟩, G.out.2.2⟩)
set_option maxHeartbeats 8000000 in
theorem rdo_2 (x : Pr) (p : Pv) (y : Cm) (c : Cd) (w : World) (h : IsPv w x p) (hz : Sz p) (hc : IsCm w y c) (hcl : c.b.ps.length ≤ 1000) (hq : chkR p = true) (hk : c.k = 2) :
    Calls Try.prog 31 #[.agg x.cs, .agg y.cs] w fun r w' => RdT w (doR p c) r w' := by
  obtain ⟨W, V, U, hW, hV, hU, S0, zW, zV, zU⟩ := DoS.new w x y
  have T0 : Hid (DoS w U x y) := S0
  have H : Hid (IsPv w x p ∧ Sz p ∧ IsCm w y c ∧ c.b.ps.length ≤ 1000) := ⟨h, hz, hc, hcl⟩
  have QC : Hid (chkR p = true) := hq
  have EK : Hid (y.k = c.k) := hc.k
  clear S0 h hz hc hcl hq zU
  have l0 := T0.out.var.ld
  go_enter Try.func31, Try.ntmps31
  go_wp2_with fail
  refine (ret_i (rchk_any x p U (H.out.1.below T0.out.bel) H.out.2.1) (by rw [QC.out])).mono ?_
  rintro _ V1 ⟨rfl, b1⟩
  rw [erC_yes]
  have T1 : Hid (DoS w V1 x y) := T0.out.below b1
  clear b1 l0
  have KK : Hid (c.k = 2) := hk
  clear hk
  have c0 := T1.out.cmd.k
  rw [EK.out, KK.out] at c0
  have d0 := T1.out.var.ld
  have g0 := T1.out.cmd.m
  rw [H.out.2.2.1.m] at g0
  obtain ⟨q, hq⟩ : ∃ z, doR p c = z := ⟨_, rfl⟩
  have E : Hid (doR p c = q) := hq
  have E0 : doR p c = roK p c := by unfold doR; rw [if_pos QC.out]
  rw [E0] at hq
  unfold roK at hq
  rw [if_neg (by rw [KK.out]; decide : ¬ c.k = 1), if_pos KK.out] at hq
  have HQ : Hid _ := hq
  clear hq E0
  go_wp2_with fail
  refine (rdelM_any x p c.m V1 (H.out.1.below T1.out.bel) H.out.2.1).mono ?_
  rintro _ V2 ⟨⟨x2, rfl, i2⟩, b2⟩
  rw [HQ.out] at i2
  rw [HQ.out]
  have T2 := T1.out.below b2
  obtain ⟨Z, sZ, pZ, gZ⟩ := T2.res.st (y := x2) i2.one
  have bZ : Below w.heap.size w Z := gro T2.bel gZ (by omega) T2.bel.size
  have G : Hid (PrAt Z (w.heap.size + 2) x2 ∧ IsPv Z x2 q.1 ∧ Below w.heap.size w Z) := ⟨pZ, i2.keptV T2.res (zp_is V2) gZ, bZ⟩
  clear pZ gZ bZ T2 i2 b2 c0 d0 g0
  go_wp2
  exact ret_pe Try.results31 rfl rfl rfl G.out.1 (by show RdT w _ _ _; rw [E.out]; exact ⟨⟨_, rfl, G.out.2.1⟩, G.out.2.2⟩)
set_option maxHeartbeats 8000000 in
theorem rdo_3 (x : Pr) (p : Pv) (y : Cm) (c : Cd) (w : World) (h : IsPv w x p) (hz : Sz p) (hc : IsCm w y c) (hcl : c.b.ps.length ≤ 1000) (hq : chkR p = true) (hk : c.k = 3) :
    Calls Try.prog 31 #[.agg x.cs, .agg y.cs] w fun r w' => RdT w (doR p c) r w' := by
  obtain ⟨W, V, U, hW, hV, hU, S0, zW, zV, zU⟩ := DoS.new w x y
  have T0 : Hid (DoS w U x y) := S0
  have H : Hid (IsPv w x p ∧ Sz p ∧ IsCm w y c ∧ c.b.ps.length ≤ 1000) := ⟨h, hz, hc, hcl⟩
  have QC : Hid (chkR p = true) := hq
  have EK : Hid (y.k = c.k) := hc.k
  clear S0 h hz hc hcl hq zU
  have l0 := T0.out.var.ld
  go_enter Try.func31, Try.ntmps31
  go_wp2_with fail
  refine (ret_i (rchk_any x p U (H.out.1.below T0.out.bel) H.out.2.1) (by rw [QC.out])).mono ?_
  rintro _ V1 ⟨rfl, b1⟩
  rw [erC_yes]
  have T1 : Hid (DoS w V1 x y) := T0.out.below b1
  clear b1 l0
  have KK : Hid (c.k = 3) := hk
  clear hk
  have c0 := T1.out.cmd.k
  rw [EK.out, KK.out] at c0
  have d0 := T1.out.var.ld
  have g0 := T1.out.cmd.c
  rw [H.out.2.2.1.c] at g0
  obtain ⟨q, hq⟩ : ∃ z, doR p c = z := ⟨_, rfl⟩
  have E : Hid (doR p c = q) := hq
  have E0 : doR p c = roK p c := by unfold doR; rw [if_pos QC.out]
  rw [E0] at hq
  unfold roK at hq
  rw [if_neg (by rw [KK.out]; decide : ¬ c.k = 1), if_neg (by rw [KK.out]; decide : ¬ c.k = 2), if_pos KK.out] at hq
  have HQ : Hid _ := hq
  clear hq E0
  go_wp2_with fail
  refine (raddC_any x p c.c V1 (H.out.1.below T1.out.bel) H.out.2.1).mono ?_
  rintro _ V2 ⟨⟨x2, rfl, i2⟩, b2⟩
  rw [HQ.out] at i2
  rw [HQ.out]
  have T2 := T1.out.below b2
  obtain ⟨Z, sZ, pZ, gZ⟩ := T2.res.st (y := x2) i2.one
  have bZ : Below w.heap.size w Z := gro T2.bel gZ (by omega) T2.bel.size
  have G : Hid (PrAt Z (w.heap.size + 2) x2 ∧ IsPv Z x2 q.1 ∧ Below w.heap.size w Z) := ⟨pZ, i2.keptV T2.res (zp_is V2) gZ, bZ⟩
  clear pZ gZ bZ T2 i2 b2 c0 d0 g0
  go_wp2
  exact ret_pe Try.results31 rfl rfl rfl G.out.1 (by show RdT w _ _ _; rw [E.out]; exact ⟨⟨_, rfl, G.out.2.1⟩, G.out.2.2⟩)
set_option maxHeartbeats 8000000 in
theorem rdo_4 (x : Pr) (p : Pv) (y : Cm) (c : Cd) (w : World) (h : IsPv w x p) (hz : Sz p) (hc : IsCm w y c) (hcl : c.b.ps.length ≤ 1000) (hq : chkR p = true) (hk : c.k = 4) :
    Calls Try.prog 31 #[.agg x.cs, .agg y.cs] w fun r w' => RdT w (doR p c) r w' := by
  obtain ⟨W, V, U, hW, hV, hU, S0, zW, zV, zU⟩ := DoS.new w x y
  have T0 : Hid (DoS w U x y) := S0
  have H : Hid (IsPv w x p ∧ Sz p ∧ IsCm w y c ∧ c.b.ps.length ≤ 1000) := ⟨h, hz, hc, hcl⟩
  have QC : Hid (chkR p = true) := hq
  have EK : Hid (y.k = c.k) := hc.k
  clear S0 h hz hc hcl hq zU
  have l0 := T0.out.var.ld
  go_enter Try.func31, Try.ntmps31
  go_wp2_with fail
  refine (ret_i (rchk_any x p U (H.out.1.below T0.out.bel) H.out.2.1) (by rw [QC.out])).mono ?_
  rintro _ V1 ⟨rfl, b1⟩
  rw [erC_yes]
  have T1 : Hid (DoS w V1 x y) := T0.out.below b1
  clear b1 l0
  have KK : Hid (c.k = 4) := hk
  clear hk
  have c0 := T1.out.cmd.k
  rw [EK.out, KK.out] at c0
  have d0 := T1.out.var.ld
  have g0 := T1.out.cmd.c
  rw [H.out.2.2.1.c] at g0
  obtain ⟨q, hq⟩ : ∃ z, doR p c = z := ⟨_, rfl⟩
  have E : Hid (doR p c = q) := hq
  have E0 : doR p c = roK p c := by unfold doR; rw [if_pos QC.out]
  rw [E0] at hq
  unfold roK at hq
  rw [if_neg (by rw [KK.out]; decide : ¬ c.k = 1), if_neg (by rw [KK.out]; decide : ¬ c.k = 2), if_neg (by rw [KK.out]; decide : ¬ c.k = 3), if_pos KK.out] at hq
  have HQ : Hid _ := hq
  clear hq E0
  go_wp2_with fail
  refine (rdelC_any x p c.c V1 (H.out.1.below T1.out.bel) H.out.2.1).mono ?_
  rintro _ V2 ⟨⟨x2, rfl, i2⟩, b2⟩
  rw [HQ.out] at i2
  rw [HQ.out]
  have T2 := T1.out.below b2
  obtain ⟨Z, sZ, pZ, gZ⟩ := T2.res.st (y := x2) i2.one
  have bZ : Below w.heap.size w Z := gro T2.bel gZ (by omega) T2.bel.size
  have G : Hid (PrAt Z (w.heap.size + 2) x2 ∧ IsPv Z x2 q.1 ∧ Below w.heap.size w Z) := ⟨pZ, i2.keptV T2.res (zp_is V2) gZ, bZ⟩
  clear pZ gZ bZ T2 i2 b2 c0 d0 g0
  go_wp2
  exact ret_pe Try.results31 rfl rfl rfl G.out.1 (by show RdT w _ _ _; rw [E.out]; exact ⟨⟨_, rfl, G.out.2.1⟩, G.out.2.2⟩)
set_option maxHeartbeats 8000000 in
theorem rdo_5 (x : Pr) (p : Pv) (y : Cm) (c : Cd) (w : World) (h : IsPv w x p) (hz : Sz p) (hc : IsCm w y c) (hcl : c.b.ps.length ≤ 1000) (hq : chkR p = true) (hk : c.k = 5) :
    Calls Try.prog 31 #[.agg x.cs, .agg y.cs] w fun r w' => RdT w (doR p c) r w' := by
  obtain ⟨W, V, U, hW, hV, hU, S0, zW, zV, zU⟩ := DoS.new w x y
  have T0 : Hid (DoS w U x y) := S0
  have H : Hid (IsPv w x p ∧ Sz p ∧ IsCm w y c ∧ c.b.ps.length ≤ 1000) := ⟨h, hz, hc, hcl⟩
  have QC : Hid (chkR p = true) := hq
  have EK : Hid (y.k = c.k) := hc.k
  clear S0 h hz hc hcl hq zU
  have l0 := T0.out.var.ld
  go_enter Try.func31, Try.ntmps31
  go_wp2_with fail
  refine (ret_i (rchk_any x p U (H.out.1.below T0.out.bel) H.out.2.1) (by rw [QC.out])).mono ?_
  rintro _ V1 ⟨rfl, b1⟩
  rw [erC_yes]
  have T1 : Hid (DoS w V1 x y) := T0.out.below b1
  clear b1 l0
  have KK : Hid (c.k = 5) := hk
  clear hk
  have c0 := T1.out.cmd.k
  rw [EK.out, KK.out] at c0
  have d0 := T1.out.var.ld
  have g0 := T1.out.cmd.b
  obtain ⟨q, hq⟩ : ∃ z, doR p c = z := ⟨_, rfl⟩
  have E : Hid (doR p c = q) := hq
  have E0 : doR p c = roK p c := by unfold doR; rw [if_pos QC.out]
  rw [E0] at hq
  unfold roK at hq
  rw [if_neg (by rw [KK.out]; decide : ¬ c.k = 1), if_neg (by rw [KK.out]; decide : ¬ c.k = 2), if_neg (by rw [KK.out]; decide : ¬ c.k = 3), if_neg (by rw [KK.out]; decide : ¬ c.k = 4), if_pos KK.out] at hq
  have HQ : Hid _ := hq
  clear hq E0
  go_wp2_with fail
  refine (rset_any x p y.b c.b V1 (H.out.1.below T1.out.bel) H.out.2.1 H.out.2.2.1.v (H.out.2.2.1.p.below T1.out.bel) H.out.2.2.2).mono ?_
  rintro _ V2 ⟨⟨x2, rfl, i2⟩, b2⟩
  rw [HQ.out] at i2
  rw [HQ.out]
  have T2 := T1.out.below b2
  obtain ⟨Z, sZ, pZ, gZ⟩ := T2.res.st (y := x2) i2.one
  have bZ : Below w.heap.size w Z := gro T2.bel gZ (by omega) T2.bel.size
  have G : Hid (PrAt Z (w.heap.size + 2) x2 ∧ IsPv Z x2 q.1 ∧ Below w.heap.size w Z) := ⟨pZ, i2.keptV T2.res (zp_is V2) gZ, bZ⟩
  clear pZ gZ bZ T2 i2 b2 c0 d0 g0
  go_wp2
  exact ret_pe Try.results31 rfl rfl rfl G.out.1 (by show RdT w _ _ _; rw [E.out]; exact ⟨⟨_, rfl, G.out.2.1⟩, G.out.2.2⟩)
set_option maxHeartbeats 8000000 in
theorem rdo_6 (x : Pr) (p : Pv) (y : Cm) (c : Cd) (w : World) (h : IsPv w x p) (hz : Sz p) (hc : IsCm w y c) (hcl : c.b.ps.length ≤ 1000) (hq : chkR p = true) (hk : c.k = 6) :
    Calls Try.prog 31 #[.agg x.cs, .agg y.cs] w fun r w' => RdT w (doR p c) r w' := by
  obtain ⟨W, V, U, hW, hV, hU, S0, zW, zV, zU⟩ := DoS.new w x y
  have T0 : Hid (DoS w U x y) := S0
  have H : Hid (IsPv w x p ∧ Sz p ∧ IsCm w y c ∧ c.b.ps.length ≤ 1000) := ⟨h, hz, hc, hcl⟩
  have QC : Hid (chkR p = true) := hq
  have EK : Hid (y.k = c.k) := hc.k
  clear S0 h hz hc hcl hq zU
  have l0 := T0.out.var.ld
  go_enter Try.func31, Try.ntmps31
  go_wp2_with fail
  refine (ret_i (rchk_any x p U (H.out.1.below T0.out.bel) H.out.2.1) (by rw [QC.out])).mono ?_
  rintro _ V1 ⟨rfl, b1⟩
  rw [erC_yes]
  have T1 : Hid (DoS w V1 x y) := T0.out.below b1
  clear b1 l0
  have KK : Hid (c.k = 6) := hk
  clear hk
  have c0 := T1.out.cmd.k
  rw [EK.out, KK.out] at c0
  have d0 := T1.out.var.ld
  have g0 := T1.out.cmd.bv
  rw [H.out.2.2.1.v] at g0
  obtain ⟨q, hq⟩ : ∃ z, doR p c = z := ⟨_, rfl⟩
  have E : Hid (doR p c = q) := hq
  have E0 : doR p c = roK p c := by unfold doR; rw [if_pos QC.out]
  rw [E0] at hq
  unfold roK at hq
  rw [if_neg (by rw [KK.out]; decide : ¬ c.k = 1), if_neg (by rw [KK.out]; decide : ¬ c.k = 2), if_neg (by rw [KK.out]; decide : ¬ c.k = 3), if_neg (by rw [KK.out]; decide : ¬ c.k = 4), if_neg (by rw [KK.out]; decide : ¬ c.k = 5), if_pos KK.out] at hq
  have HQ : Hid _ := hq
  clear hq E0
  go_wp2_with fail
  refine (rdelB_any x p c.b.v V1 (H.out.1.below T1.out.bel) H.out.2.1).mono ?_
  rintro _ V2 ⟨⟨x2, rfl, i2⟩, b2⟩
  rw [HQ.out] at i2
  rw [HQ.out]
  have T2 := T1.out.below b2
  obtain ⟨Z, sZ, pZ, gZ⟩ := T2.res.st (y := x2) i2.one
  have bZ : Below w.heap.size w Z := gro T2.bel gZ (by omega) T2.bel.size
  have G : Hid (PrAt Z (w.heap.size + 2) x2 ∧ IsPv Z x2 q.1 ∧ Below w.heap.size w Z) := ⟨pZ, i2.keptV T2.res (zp_is V2) gZ, bZ⟩
  clear pZ gZ bZ T2 i2 b2 c0 d0 g0
  go_wp2
  exact ret_pe Try.results31 rfl rfl rfl G.out.1 (by show RdT w _ _ _; rw [E.out]; exact ⟨⟨_, rfl, G.out.2.1⟩, G.out.2.2⟩)
set_option maxHeartbeats 8000000 in
theorem rdo_else (x : Pr) (p : Pv) (y : Cm) (c : Cd) (w : World) (h : IsPv w x p) (hz : Sz p) (hc : IsCm w y c) (hcl : c.b.ps.length ≤ 1000) (hq : chkR p = true) (hn : ¬ c.k = 1 ∧ ¬ c.k = 2 ∧ ¬ c.k = 3 ∧ ¬ c.k = 4 ∧ ¬ c.k = 5 ∧ ¬ c.k = 6) :
    Calls Try.prog 31 #[.agg x.cs, .agg y.cs] w fun r w' => RdT w (doR p c) r w' := by
  obtain ⟨W, V, U, hW, hV, hU, S0, zW, zV, zU⟩ := DoS.new w x y
  have T0 : Hid (DoS w U x y) := S0
  have H : Hid (IsPv w x p ∧ Sz p ∧ IsCm w y c ∧ c.b.ps.length ≤ 1000) := ⟨h, hz, hc, hcl⟩
  have QC : Hid (chkR p = true) := hq
  have EK : Hid (y.k = c.k) := hc.k
  clear S0 h hz hc hcl hq zU
  have l0 := T0.out.var.ld
  go_enter Try.func31, Try.ntmps31
  go_wp2_with fail
  refine (ret_i (rchk_any x p U (H.out.1.below T0.out.bel) H.out.2.1) (by rw [QC.out])).mono ?_
  rintro _ V1 ⟨rfl, b1⟩
  rw [erC_yes]
  have T1 : Hid (DoS w V1 x y) := T0.out.below b1
  clear b1 l0
  have c0 := T1.out.cmd.k
  rw [EK.out] at c0
  have N : Hid (¬ c.k = 1 ∧ ¬ c.k = 2 ∧ ¬ c.k = 3 ∧ ¬ c.k = 4 ∧ ¬ c.k = 5 ∧ ¬ c.k = 6) := hn
  have n1 : (c.k == 1) = false := by simp [hn.1]
  have n2 : (c.k == 2) = false := by simp [hn.2.1]
  have n3 : (c.k == 3) = false := by simp [hn.2.2.1]
  have n4 : (c.k == 4) = false := by simp [hn.2.2.2.1]
  have n5 : (c.k == 5) = false := by simp [hn.2.2.2.2.1]
  have n6 : (c.k == 6) = false := by simp [hn.2.2.2.2.2]
  have E : Hid (doR p c = (p, 1)) := by unfold doR roK; rw [if_pos QC.out, if_neg N.out.1, if_neg N.out.2.1, if_neg N.out.2.2.1, if_neg N.out.2.2.2.1, if_neg N.out.2.2.2.2.1, if_neg N.out.2.2.2.2.2]; exact rfl
  clear hn
  obtain ⟨Z, sZ, pZ, gZ⟩ := T1.out.res.st (y := x) H.out.1.one
  have bZ : Below w.heap.size w Z := gro T1.out.bel gZ (by omega) T1.out.bel.size
  have G : Hid (PrAt Z (w.heap.size + 2) x ∧ IsPv Z x p ∧ Below w.heap.size w Z) := ⟨pZ, H.out.1.below bZ, bZ⟩
  clear pZ gZ bZ
  have l9 := T1.out.var.ld
  go_wp2
  exact ret_pe Try.results31 rfl rfl rfl G.out.1 (by show RdT w _ _ _; rw [E.out]; exact ⟨⟨_, rfl, G.out.2.1⟩, G.out.2.2⟩)
theorem rdo_any (x : Pr) (p : Pv) (y : Cm) (c : Cd) (w : World) (h : IsPv w x p) (hz : Sz p) (hc : IsCm w y c) (hcl : c.b.ps.length ≤ 1000) :
    Calls Try.prog 31 #[.agg x.cs, .agg y.cs] w fun r w' => RdT w (doC p c) r w' := by
  rw [do_eq]
  cases hq : chkR p with
  | false => exact rdo_no x p y c w h hz hc hcl hq
  | true =>
    by_cases k1 : c.k = 1
    · exact rdo_1 x p y c w h hz hc hcl hq k1
    by_cases k2 : c.k = 2
    · exact rdo_2 x p y c w h hz hc hcl hq k2
    by_cases k3 : c.k = 3
    · exact rdo_3 x p y c w h hz hc hcl hq k3
    by_cases k4 : c.k = 4
    · exact rdo_4 x p y c w h hz hc hcl hq k4
    by_cases k5 : c.k = 5
    · exact rdo_5 x p y c w h hz hc hcl hq k5
    by_cases k6 : c.k = 6
    · exact rdo_6 x p y c w h hz hc hcl hq k6
    exact rdo_else x p y c w h hz hc hcl hq ⟨k1, k2, k3, k4, k5, k6⟩
end Go.Proofs.Ytmfjlhcobhilcab
