/-
  What the definition does with any command: the walk of Do, for every input. What is added, and then deleted, is as it was; commands one behind the other; how many there may be. Plain laws. Commands that are handed in, a command's variable; what comes of commands from nothing: the walk of Made, for every input.
-/
import Derived.Test.YtgjagedngdhdaaaRst
import Derived.Test.YtgjagedngdhdaaaJ18Doc
import Derived.Test.YtgjagedngdhdaaaJ38Pf
import Derived.Test.YtgjagedngdhdaaaJ06Put
import Derived.Test.YtgjagedngdhdaaaJ31En
namespace Go.Proofs.Ytgjagedngdhdaaa

section
set_option linter.unusedVariables false
set_option maxRecDepth 4000
set_option linter.unusedSimpArgs false
open Go.RowKit
attribute [local go_sem ↓] ldM stM ldC stC ldB stB ldP stP apI bsI
attribute [local go_sem] bsI_is bsI2_is

attribute [local go_sem ↓] stIs stKs stMs stCs stBs ldD stD
set_option maxHeartbeats 8000000 in
theorem rdo_no (x : Pr) (p : Pv) (y : Cm) (c : Cd) (w : World) (h : IsPv w x p) (hz : Sz p) (hc : IsCm w y c) (hcl : c.b.ps.length ≤ 1000) (hq : chkR p = false) :
    Calls Try.prog 48 #[.agg x.cs, .agg y.cs] w fun r w' => RdT w (doR p c) r w' := by
  obtain ⟨W, V, U, hW, hV, hU, S0, zW, zV, zU⟩ := DoS.new w x y
  have T0 : Hid (DoS w U x y) := S0
  have H : Hid (IsPv w x p ∧ Sz p ∧ IsCm w y c ∧ c.b.ps.length ≤ 1000) := ⟨h, hz, hc, hcl⟩
  have QC : Hid (chkR p = false) := hq
  have EK : Hid (y.k = c.k) := hc.k
  clear S0 h hz hc hcl hq zU
  have l0 := T0.out.var.ld
  go_enter Try.func48, Try.ntmps48
  go_wp2_with fail
  refine (ret_i (rchk_any x p U (H.out.1.below T0.out.bel) H.out.2.1) (by rw [QC.out])).mono ?_
  rintro _ V1 ⟨rfl, b1⟩
  rw [erC_no]
  have T1 : Hid (DoS w V1 x y) := T0.out.below b1
  clear b1 l0
  have E : Hid (doR p c = (p, 180)) := by unfold doR; rw [QC.out]; exact rfl
  obtain ⟨Z, sZ, pZ, gZ⟩ := T1.out.res.st (y := x) H.out.1.one
  have bZ : Below w.heap.size w Z := gro T1.out.bel gZ (by omega) T1.out.bel.size
  have G : Hid (PrAt Z (w.heap.size + 2) x ∧ IsPv Z x p ∧ Below w.heap.size w Z) := ⟨pZ, H.out.1.below bZ, bZ⟩
  clear pZ gZ bZ
  have l9 := T1.out.var.ld
  go_wp2
  exact ret_pe Try.results48 rfl rfl rfl G.out.1 (by show RdT w _ _ _; rw [E.out]; exact ⟨⟨_, rfl, G.out.2.1⟩, G.out.2.2⟩)
set_option maxHeartbeats 8000000 in
theorem rdo_1 (x : Pr) (p : Pv) (y : Cm) (c : Cd) (w : World) (h : IsPv w x p) (hz : Sz p) (hc : IsCm w y c) (hcl : c.b.ps.length ≤ 1000) (hq : chkR p = true) (hk : c.k = 1) :
    Calls Try.prog 48 #[.agg x.cs, .agg y.cs] w fun r w' => RdT w (doR p c) r w' := by
  obtain ⟨W, V, U, hW, hV, hU, S0, zW, zV, zU⟩ := DoS.new w x y
  have T0 : Hid (DoS w U x y) := S0
  have H : Hid (IsPv w x p ∧ Sz p ∧ IsCm w y c ∧ c.b.ps.length ≤ 1000) := ⟨h, hz, hc, hcl⟩
  have QC : Hid (chkR p = true) := hq
  have EK : Hid (y.k = c.k) := hc.k
  clear S0 h hz hc hcl hq zU
  have l0 := T0.out.var.ld
  go_enter Try.func48, Try.ntmps48
  go_wp2_with fail
  refine (ret_i (rchk_any x p U (H.out.1.below T0.out.bel) H.out.2.1) (by rw [QC.out])).mono ?_
  rintro _ V1 ⟨rfl, b1⟩
  rw [erC_yes]
  have T1 : Hid (DoS w V1 x y) := T0.out.below b1
  clear b1 l0
  have KK : Hid (c.k = 1) := hk
  clear hk
  have c0 := T1.out.cmd.k
  rw [EK.out, KK.out] at c0
  have d0 := T1.out.var.ld
  have g0 := T1.out.cmd.m
  rw [H.out.2.2.1.m] at g0
  obtain ⟨q, hq⟩ : ∃ z, doR p c = z := ⟨_, rfl⟩
  have E : Hid (doR p c = q) := hq
  have E0 : doR p c = roK p c := by unfold doR; rw [if_pos QC.out]
  rw [E0] at hq
  unfold roK at hq
  rw [if_pos KK.out] at hq
  have HQ : Hid _ := hq
  clear hq E0
  go_wp2_with fail
  refine (raddM_any x p c.m V1 (H.out.1.below T1.out.bel) H.out.2.1).mono ?_
  rintro _ V2 ⟨⟨x2, rfl, i2⟩, b2⟩
  rw [HQ.out] at i2
  rw [HQ.out]
  have T2 := T1.out.below b2
  obtain ⟨Z, sZ, pZ, gZ⟩ := T2.res.st (y := x2) i2.one
  have bZ : Below w.heap.size w Z := gro T2.bel gZ (by omega) T2.bel.size
  have G : Hid (PrAt Z (w.heap.size + 2) x2 ∧ IsPv Z x2 q.1 ∧ Below w.heap.size w Z) := ⟨pZ, i2.keptV T2.res (zp_is V2) gZ, bZ⟩
  clear pZ gZ bZ T2 i2 b2 c0 d0 g0
  go_wp2
  exact ret_pe Try.results48 rfl rfl rfl G.out.1 (by show RdT w _ _ _; rw [E.out]; exact ⟨⟨_, rfl, G.out.2.1⟩, G.out.2.2⟩)
set_option maxHeartbeats 8000000 in
theorem rdo_2 (x : Pr) (p : Pv) (y : Cm) (c : Cd) (w : World) (h : IsPv w x p) (hz : Sz p) (hc : IsCm w y c) (hcl : c.b.ps.length ≤ 1000) (hq : chkR p = true) (hk : c.k = 2) :
    Calls Try.prog 48 #[.agg x.cs, .agg y.cs] w fun r w' => RdT w (doR p c) r w' := by
  obtain ⟨W, V, U, hW, hV, hU, S0, zW, zV, zU⟩ := DoS.new w x y
  have T0 : Hid (DoS w U x y) := S0
  have H : Hid (IsPv w x p ∧ Sz p ∧ IsCm w y c ∧ c.b.ps.length ≤ 1000) := ⟨h, hz, hc, hcl⟩
  have QC : Hid (chkR p = true) := hq
  have EK : Hid (y.k = c.k) := hc.k
  clear S0 h hz hc hcl hq zU
  have l0 := T0.out.var.ld
  go_enter Try.func48, Try.ntmps48
  go_wp2_with fail
  refine (ret_i (rchk_any x p U (H.out.1.below T0.out.bel) H.out.2.1) (by rw [QC.out])).mono ?_
  rintro _ V1 ⟨rfl, b1⟩
  rw [erC_yes]
  have T1 : Hid (DoS w V1 x y) := T0.out.below b1
  clear b1 l0
  have KK : Hid (c.k = 2) := hk
  clear hk
  have c0 := T1.out.cmd.k
  rw [EK.out, KK.out] at c0
  have d0 := T1.out.var.ld
  have g0 := T1.out.cmd.m
  rw [H.out.2.2.1.m] at g0
  obtain ⟨q, hq⟩ : ∃ z, doR p c = z := ⟨_, rfl⟩
  have E : Hid (doR p c = q) := hq
  have E0 : doR p c = roK p c := by unfold doR; rw [if_pos QC.out]
  rw [E0] at hq
  unfold roK at hq
  rw [if_neg (by rw [KK.out]; decide : ¬ c.k = 1), if_pos KK.out] at hq
  have HQ : Hid _ := hq
  clear hq E0
  go_wp2_with fail
  refine (rdelM_any x p c.m V1 (H.out.1.below T1.out.bel) H.out.2.1).mono ?_
  rintro _ V2 ⟨⟨x2, rfl, i2⟩, b2⟩
  rw [HQ.out] at i2
  rw [HQ.out]
  have T2 := T1.out.below b2
  obtain ⟨Z, sZ, pZ, gZ⟩ := T2.res.st (y := x2) i2.one
  have bZ : Below w.heap.size w Z := gro T2.bel gZ (by omega) T2.bel.size
  have G : Hid (PrAt Z (w.heap.size + 2) x2 ∧ IsPv Z x2 q.1 ∧ Below w.heap.size w Z) := ⟨pZ, i2.keptV T2.res (zp_is V2) gZ, bZ⟩
  clear pZ gZ bZ T2 i2 b2 c0 d0 g0
  go_wp2
  exact ret_pe Try.results48 rfl rfl rfl G.out.1 (by show RdT w _ _ _; rw [E.out]; exact ⟨⟨_, rfl, G.out.2.1⟩, G.out.2.2⟩)
set_option maxHeartbeats 8000000 in
theorem rdo_3 (x : Pr) (p : Pv) (y : Cm) (c : Cd) (w : World) (h : IsPv w x p) (hz : Sz p) (hc : IsCm w y c) (hcl : c.b.ps.length ≤ 1000) (hq : chkR p = true) (hk : c.k = 3) :
    Calls Try.prog 48 #[.agg x.cs, .agg y.cs] w fun r w' => RdT w (doR p c) r w' := by
  obtain ⟨W, V, U, hW, hV, hU, S0, zW, zV, zU⟩ := DoS.new w x y
  have T0 : Hid (DoS w U x y) := S0
  have H : Hid (IsPv w x p ∧ Sz p ∧ IsCm w y c ∧ c.b.ps.length ≤ 1000) := ⟨h, hz, hc, hcl⟩
  have QC : Hid (chkR p = true) := hq
  have EK : Hid (y.k = c.k) := hc.k
  clear S0 h hz hc hcl hq zU
  have l0 := T0.out.var.ld
  go_enter Try.func48, Try.ntmps48
  go_wp2_with fail
  refine (ret_i (rchk_any x p U (H.out.1.below T0.out.bel) H.out.2.1) (by rw [QC.out])).mono ?_
  rintro _ V1 ⟨rfl, b1⟩
  rw [erC_yes]
  have T1 : Hid (DoS w V1 x y) := T0.out.below b1
  clear b1 l0
  have KK : Hid (c.k = 3) := hk
  clear hk
  have c0 := T1.out.cmd.k
  rw [EK.out, KK.out] at c0
  have d0 := T1.out.var.ld
  have g0 := T1.out.cmd.c
  rw [H.out.2.2.1.c] at g0
  obtain ⟨q, hq⟩ : ∃ z, doR p c = z := ⟨_, rfl⟩
  have E : Hid (doR p c = q) := hq
  have E0 : doR p c = roK p c := by unfold doR; rw [if_pos QC.out]
  rw [E0] at hq
  unfold roK at hq
  rw [if_neg (by rw [KK.out]; decide : ¬ c.k = 1), if_neg (by rw [KK.out]; decide : ¬ c.k = 2), if_pos KK.out] at hq
  have HQ : Hid _ := hq
  clear hq E0
  go_wp2_with fail
  refine (raddC_any x p c.c V1 (H.out.1.below T1.out.bel) H.out.2.1).mono ?_
  rintro _ V2 ⟨⟨x2, rfl, i2⟩, b2⟩
  rw [HQ.out] at i2
  rw [HQ.out]
  have T2 := T1.out.below b2
  obtain ⟨Z, sZ, pZ, gZ⟩ := T2.res.st (y := x2) i2.one
  have bZ : Below w.heap.size w Z := gro T2.bel gZ (by omega) T2.bel.size
  have G : Hid (PrAt Z (w.heap.size + 2) x2 ∧ IsPv Z x2 q.1 ∧ Below w.heap.size w Z) := ⟨pZ, i2.keptV T2.res (zp_is V2) gZ, bZ⟩
  clear pZ gZ bZ T2 i2 b2 c0 d0 g0
  go_wp2
  exact ret_pe Try.results48 rfl rfl rfl G.out.1 (by show RdT w _ _ _; rw [E.out]; exact ⟨⟨_, rfl, G.out.2.1⟩, G.out.2.2⟩)
set_option maxHeartbeats 8000000 in
theorem rdo_4 (x : Pr) (p : Pv) (y : Cm) (c : Cd) (w : World) (h : IsPv w x p) (hz : Sz p) (hc : IsCm w y c) (hcl : c.b.ps.length ≤ 1000) (hq : chkR p = true) (hk : c.k = 4) :
    Calls Try.prog 48 #[.agg x.cs, .agg y.cs] w fun r w' => RdT w (doR p c) r w' := by
  obtain ⟨W, V, U, hW, hV, hU, S0, zW, zV, zU⟩ := DoS.new w x y
  have T0 : Hid (DoS w U x y) := S0
  have H : Hid (IsPv w x p ∧ Sz p ∧ IsCm w y c ∧ c.b.ps.length ≤ 1000) := ⟨h, hz, hc, hcl⟩
  have QC : Hid (chkR p = true) := hq
  have EK : Hid (y.k = c.k) := hc.k
  clear S0 h hz hc hcl hq zU
  have l0 := T0.out.var.ld
  go_enter Try.func48, Try.ntmps48
  go_wp2_with fail
  refine (ret_i (rchk_any x p U (H.out.1.below T0.out.bel) H.out.2.1) (by rw [QC.out])).mono ?_
  rintro _ V1 ⟨rfl, b1⟩
  rw [erC_yes]
  have T1 : Hid (DoS w V1 x y) := T0.out.below b1
  clear b1 l0
  have KK : Hid (c.k = 4) := hk
  clear hk
  have c0 := T1.out.cmd.k
  rw [EK.out, KK.out] at c0
  have d0 := T1.out.var.ld
  have g0 := T1.out.cmd.c
  rw [H.out.2.2.1.c] at g0
  obtain ⟨q, hq⟩ : ∃ z, doR p c = z := ⟨_, rfl⟩
  have E : Hid (doR p c = q) := hq
  have E0 : doR p c = roK p c := by unfold doR; rw [if_pos QC.out]
  rw [E0] at hq
  unfold roK at hq
  rw [if_neg (by rw [KK.out]; decide : ¬ c.k = 1), if_neg (by rw [KK.out]; decide : ¬ c.k = 2), if_neg (by rw [KK.out]; decide : ¬ c.k = 3), if_pos KK.out] at hq
  have HQ : Hid _ := hq
  clear hq E0
  go_wp2_with fail
  refine (rdelC_any x p c.c V1 (H.out.1.below T1.out.bel) H.out.2.1).mono ?_
  rintro _ V2 ⟨⟨x2, rfl, i2⟩, b2⟩
  rw [HQ.out] at i2
  rw [HQ.out]
  have T2 := T1.out.below b2
  obtain ⟨Z, sZ, pZ, gZ⟩ := T2.res.st (y := x2) i2.one
  have bZ : Below w.heap.size w Z := gro T2.bel gZ (by omega) T2.bel.size
  have G : Hid (PrAt Z (w.heap.size + 2) x2 ∧ IsPv Z x2 q.1 ∧ Below w.heap.size w Z) := ⟨pZ, i2.keptV T2.res (zp_is V2) gZ, bZ⟩
  clear pZ gZ bZ T2 i2 b2 c0 d0 g0
  go_wp2
  exact ret_pe Try.results48 rfl rfl rfl G.out.1 (by show RdT w _ _ _; rw [E.out]; exact ⟨⟨_, rfl, G.out.2.1⟩, G.out.2.2⟩)
set_option maxHeartbeats 8000000 in
theorem rdo_5 (x : Pr) (p : Pv) (y : Cm) (c : Cd) (w : World) (h : IsPv w x p) (hz : Sz p) (hc : IsCm w y c) (hcl : c.b.ps.length ≤ 1000) (hq : chkR p = true) (hk : c.k = 5) :
    Calls Try.prog 48 #[.agg x.cs, .agg y.cs] w fun r w' => RdT w (doR p c) r w' := by
  obtain ⟨W, V, U, hW, hV, hU, S0, zW, zV, zU⟩ := DoS.new w x y
  have T0 : Hid (DoS w U x y) := S0
  have H : Hid (IsPv w x p ∧ Sz p ∧ IsCm w y c ∧ c.b.ps.length ≤ 1000) := ⟨h, hz, hc, hcl⟩
  have QC : Hid (chkR p = true) := hq
  have EK : Hid (y.k = c.k) := hc.k
  clear S0 h hz hc hcl hq zU
  have l0 := T0.out.var.ld
  go_enter Try.func48, Try.ntmps48
  go_wp2_with fail
  refine (ret_i (rchk_any x p U (H.out.1.below T0.out.bel) H.out.2.1) (by rw [QC.out])).mono ?_
  rintro _ V1 ⟨rfl, b1⟩
  rw [erC_yes]
  have T1 : Hid (DoS w V1 x y) := T0.out.below b1
  clear b1 l0
  have KK : Hid (c.k = 5) := hk
  clear hk
  have c0 := T1.out.cmd.k
  rw [EK.out, KK.out] at c0
  have d0 := T1.out.var.ld
  have g0 := T1.out.cmd.b
  obtain ⟨q, hq⟩ : ∃ z, doR p c = z := ⟨_, rfl⟩
  have E : Hid (doR p c = q) := hq
  have E0 : doR p c = roK p c := by unfold doR; rw [if_pos QC.out]
  rw [E0] at hq
  unfold roK at hq
  rw [if_neg (by rw [KK.out]; decide : ¬ c.k = 1), if_neg (by rw [KK.out]; decide : ¬ c.k = 2), if_neg (by rw [KK.out]; decide : ¬ c.k = 3), if_neg (by rw [KK.out]; decide : ¬ c.k = 4), if_pos KK.out] at hq
  have HQ : Hid _ := hq
  clear hq E0
  go_wp2_with fail
  refine (rset_any x p y.b c.b V1 (H.out.1.below T1.out.bel) H.out.2.1 H.out.2.2.1.v (H.out.2.2.1.p.below T1.out.bel) H.out.2.2.2).mono ?_
  rintro _ V2 ⟨⟨x2, rfl, i2⟩, b2⟩
  rw [HQ.out] at i2
  rw [HQ.out]
  have T2 := T1.out.below b2
  obtain ⟨Z, sZ, pZ, gZ⟩ := T2.res.st (y := x2) i2.one
  have bZ : Below w.heap.size w Z := gro T2.bel gZ (by omega) T2.bel.size
  have G : Hid (PrAt Z (w.heap.size + 2) x2 ∧ IsPv Z x2 q.1 ∧ Below w.heap.size w Z) := ⟨pZ, i2.keptV T2.res (zp_is V2) gZ, bZ⟩
  clear pZ gZ bZ T2 i2 b2 c0 d0 g0
  go_wp2
  exact ret_pe Try.results48 rfl rfl rfl G.out.1 (by show RdT w _ _ _; rw [E.out]; exact ⟨⟨_, rfl, G.out.2.1⟩, G.out.2.2⟩)
set_option maxHeartbeats 8000000 in
theorem rdo_6 (x : Pr) (p : Pv) (y : Cm) (c : Cd) (w : World) (h : IsPv w x p) (hz : Sz p) (hc : IsCm w y c) (hcl : c.b.ps.length ≤ 1000) (hq : chkR p = true) (hk : c.k = 6) :
    Calls Try.prog 48 #[.agg x.cs, .agg y.cs] w fun r w' => RdT w (doR p c) r w' := by
  obtain ⟨W, V, U, hW, hV, hU, S0, zW, zV, zU⟩ := DoS.new w x y
  have T0 : Hid (DoS w U x y) := S0
  have H : Hid (IsPv w x p ∧ Sz p ∧ IsCm w y c ∧ c.b.ps.length ≤ 1000) := ⟨h, hz, hc, hcl⟩
  have QC : Hid (chkR p = true) := hq
  have EK : Hid (y.k = c.k) := hc.k
  clear S0 h hz hc hcl hq zU
  have l0 := T0.out.var.ld
  go_enter Try.func48, Try.ntmps48
  go_wp2_with fail
  refine (ret_i (rchk_any x p U (H.out.1.below T0.out.bel) H.out.2.1) (by rw [QC.out])).mono ?_
  rintro _ V1 ⟨rfl, b1⟩
  rw [erC_yes]
  have T1 : Hid (DoS w V1 x y) := T0.out.below b1
  clear b1 l0
  have KK : Hid (c.k = 6) := hk
  clear hk
  have c0 := T1.out.cmd.k
  rw [EK.out, KK.out] at c0
  have d0 := T1.out.var.ld
  have g0 := T1.out.cmd.bv
  rw [H.out.2.2.1.v] at g0
  obtain ⟨q, hq⟩ : ∃ z, doR p c = z := ⟨_, rfl⟩
  have E : Hid (doR p c = q) := hq
  have E0 : doR p c = roK p c := by unfold doR; rw [if_pos QC.out]
  rw [E0] at hq
  unfold roK at hq
  rw [if_neg (by rw [KK.out]; decide : ¬ c.k = 1), if_neg (by rw [KK.out]; decide : ¬ c.k = 2), if_neg (by rw [KK.out]; decide : ¬ c.k = 3), if_neg (by rw [KK.out]; decide : ¬ c.k = 4), if_neg (by rw [KK.out]; decide : ¬ c.k = 5), if_pos KK.out] at hq
  have HQ : Hid _ := hq
  clear hq E0
  go_wp2_with fail
  refine (rdelB_any x p c.b.v V1 (H.out.1.below T1.out.bel) H.out.2.1).mono ?_
  rintro _ V2 ⟨⟨x2, rfl, i2⟩, b2⟩
  rw [HQ.out] at i2
  rw [HQ.out]
  have T2 := T1.out.below b2
  obtain ⟨Z, sZ, pZ, gZ⟩ := T2.res.st (y := x2) i2.one
  have bZ : Below w.heap.size w Z := gro T2.bel gZ (by omega) T2.bel.size
  have G : Hid (PrAt Z (w.heap.size + 2) x2 ∧ IsPv Z x2 q.1 ∧ Below w.heap.size w Z) := ⟨pZ, i2.keptV T2.res (zp_is V2) gZ, bZ⟩
  clear pZ gZ bZ T2 i2 b2 c0 d0 g0
  go_wp2
  exact ret_pe Try.results48 rfl rfl rfl G.out.1 (by show RdT w _ _ _; rw [E.out]; exact ⟨⟨_, rfl, G.out.2.1⟩, G.out.2.2⟩)
set_option maxHeartbeats 8000000 in
theorem rdo_else (x : Pr) (p : Pv) (y : Cm) (c : Cd) (w : World) (h : IsPv w x p) (hz : Sz p) (hc : IsCm w y c) (hcl : c.b.ps.length ≤ 1000) (hq : chkR p = true) (hn : ¬ c.k = 1 ∧ ¬ c.k = 2 ∧ ¬ c.k = 3 ∧ ¬ c.k = 4 ∧ ¬ c.k = 5 ∧ ¬ c.k = 6) :
    Calls Try.prog 48 #[.agg x.cs, .agg y.cs] w fun r w' => RdT w (doR p c) r w' := by
  obtain ⟨W, V, U, hW, hV, hU, S0, zW, zV, zU⟩ := DoS.new w x y
  have T0 : Hid (DoS w U x y) := S0
  have H : Hid (IsPv w x p ∧ Sz p ∧ IsCm w y c ∧ c.b.ps.length ≤ 1000) := ⟨h, hz, hc, hcl⟩
  have QC : Hid (chkR p = true) := hq
  have EK : Hid (y.k = c.k) := hc.k
  clear S0 h hz hc hcl hq zU
  have l0 := T0.out.var.ld
  go_enter Try.func48, Try.ntmps48
  go_wp2_with fail
  refine (ret_i (rchk_any x p U (H.out.1.below T0.out.bel) H.out.2.1) (by rw [QC.out])).mono ?_
  rintro _ V1 ⟨rfl, b1⟩
  rw [erC_yes]
  have T1 : Hid (DoS w V1 x y) := T0.out.below b1
  clear b1 l0
  have c0 := T1.out.cmd.k
  rw [EK.out] at c0
  have N : Hid (¬ c.k = 1 ∧ ¬ c.k = 2 ∧ ¬ c.k = 3 ∧ ¬ c.k = 4 ∧ ¬ c.k = 5 ∧ ¬ c.k = 6) := hn
  have n1 : (c.k == 1) = false := by simp [hn.1]
  have n2 : (c.k == 2) = false := by simp [hn.2.1]
  have n3 : (c.k == 3) = false := by simp [hn.2.2.1]
  have n4 : (c.k == 4) = false := by simp [hn.2.2.2.1]
  have n5 : (c.k == 5) = false := by simp [hn.2.2.2.2.1]
  have n6 : (c.k == 6) = false := by simp [hn.2.2.2.2.2]
  have E : Hid (doR p c = (p, 1)) := by unfold doR roK; rw [if_pos QC.out, if_neg N.out.1, if_neg N.out.2.1, if_neg N.out.2.2.1, if_neg N.out.2.2.2.1, if_neg N.out.2.2.2.2.1, if_neg N.out.2.2.2.2.2]; exact rfl
  clear hn
  obtain ⟨Z, sZ, pZ, gZ⟩ := T1.out.res.st (y := x) H.out.1.one
  have bZ : Below w.heap.size w Z := gro T1.out.bel gZ (by omega) T1.out.bel.size
  have G : Hid (PrAt Z (w.heap.size + 2) x ∧ IsPv Z x p ∧ Below w.heap.size w Z) := ⟨pZ, H.out.1.below bZ, bZ⟩
  clear pZ gZ bZ
  have l9 := T1.out.var.ld
  go_wp2
  exact ret_pe Try.results48 rfl rfl rfl G.out.1 (by show RdT w _ _ _; rw [E.out]; exact ⟨⟨_, rfl, G.out.2.1⟩, G.out.2.2⟩)
theorem rdo_any (x : Pr) (p : Pv) (y : Cm) (c : Cd) (w : World) (h : IsPv w x p) (hz : Sz p) (hc : IsCm w y c) (hcl : c.b.ps.length ≤ 1000) :
    Calls Try.prog 48 #[.agg x.cs, .agg y.cs] w fun r w' => RdT w (doC p c) r w' := by
  rw [do_eq]
  cases hq : chkR p with
  | false => exact rdo_no x p y c w h hz hc hcl hq
  | true =>
    by_cases k1 : c.k = 1
    · exact rdo_1 x p y c w h hz hc hcl hq k1
    by_cases k2 : c.k = 2
    · exact rdo_2 x p y c w h hz hc hcl hq k2
    by_cases k3 : c.k = 3
    · exact rdo_3 x p y c w h hz hc hcl hq k3
    by_cases k4 : c.k = 4
    · exact rdo_4 x p y c w h hz hc hcl hq k4
    by_cases k5 : c.k = 5
    · exact rdo_5 x p y c w h hz hc hcl hq k5
    by_cases k6 : c.k = 6
    · exact rdo_6 x p y c w h hz hc hcl hq k6
    exact rdo_else x p y c w h hz hc hcl hq ⟨k1, k2, k3, k4, k5, k6⟩
end

section
set_option linter.unusedVariables false
set_option maxRecDepth 4000
set_option linter.unusedSimpArgs false

theorem put_fil {α : Type} {c : α → Int} {x : α} (hx : c x = 0) : ∀ {l : List α}, (∀ y ∈ l, c y ≠ 0) → (putL c x l).filter (fun y => c y != 0) = l
  | [], _ => by simp [putL, hx]
  | y :: l, h => by
    have hy := h y (by simp)
    have hl : l.filter (fun y => c y != 0) = l := List.filter_eq_self.2 fun z hz => by simpa using h z (by simp [hz])
    rw [putL]
    split
    · rw [List.filter_cons, if_pos (by simpa using hy), put_fil hx fun z hz => h z (by simp [hz])]
    · try rw [if_neg hy]
      rw [List.filter_cons, if_neg (by simp [hx]), List.filter_cons, if_pos (by simpa using hy), hl]
theorem put_ne {α : Type} {c : α → Int} {x : α} {l : List α} (h : ∀ y ∈ l, c y ≠ 0) : putL c x l ≠ l := fun e => by
  have := (put_perm (c := c) (x := x) h).length_eq
  rw [e] at this
  simp at this
theorem cmI_self (a : Int) : cmI a a = 0 := cmI_eq.2 rfl
theorem cmM_self (a : Mp) : cmM a a = 0 := cmM_eq.2 ⟨rfl, rfl⟩
theorem whn_ok {p q r : Pv} {e : Int} (h : whn p q e = (r, 0)) : e = 0 ∧ r = q := by
  unfold whn at h
  split at h
  · rename_i h0
    cases h
    exact ⟨h0, rfl⟩
  · rename_i h0
    cases h
    exact absurd rfl h0
theorem do_k {p : Pv} (h : chk p = true) (c : Cd) : doC p c = doK p c := by unfold doC; rw [if_pos h]
theorem ms_ne {p : Pv} {l : List Mp} (h : l ≠ p.ms) : ({ p with ms := l } : Pv) ≠ p := fun e => h (congrArg Pv.ms e)
theorem cs_ne {p : Pv} {l : List Cr} (h : l ≠ p.cs) : ({ p with cs := l } : Pv) ≠ p := fun e => h (congrArg Pv.cs e)
theorem bs_ne {p : Pv} {l : List Mb} (h : l ≠ p.bs) : ({ p with bs := l } : Pv) ≠ p := fun e => h (congrArg Pv.bs e)
/-- With an error nothing changes. -/
theorem do_err {p : Pv} {c : Cd} (h : (doC p c).2 ≠ 0) : (doC p c).1 = p := by
  have hw : ∀ {q : Pv} {e : Int}, (whn p q e).2 ≠ 0 → (whn p q e).1 = p := fun {q e} h => by
    unfold whn at h ⊢
    split
    · rename_i h0
      rw [if_pos h0] at h
      exact absurd rfl h
    · rfl
  unfold doC at h ⊢
  split
  · rename_i hc
    rw [if_pos hc] at h
    unfold doK at h ⊢
    repeat' split
    all_goals first | rfl | skip
    all_goals simp_all
  · rfl
theorem un_map {p a : Pv} {m : Mp} (h : chk p = true) (c : Cr) (b : Mb) (hd : doC p ⟨1, m, c, b⟩ = (a, 0)) (c' : Cr) (b' : Mb) : doC a ⟨2, m, c', b'⟩ = (p, 0) ∧ a ≠ p := by
  have ha : chk a = true := by have := do_chk ⟨1, m, c, b⟩ h; rw [hd] at this; exact this
  rw [do_k h] at hd
  unfold doK at hd
  rw [if_pos rfl] at hd
  obtain ⟨h0, rfl⟩ := whn_ok hd
  obtain ⟨r1, r2, r3, r4, r5, r6, r7⟩ := refM_zero h0
  have hne : ∀ y ∈ p.ms, cmM y m ≠ 0 := fun y hy e => by
    have := fnd_false r4 y hy
    have h' := cmM_eq.1 e
    simp [h'.1, h'.2] at this
  refine ⟨?_, ms_ne (put_ne hne)⟩
  rw [do_k ha]
  unfold doK
  rw [if_neg (by show ¬ (2 : Int) = 1; decide), if_pos rfl]
  have hk : keepM { p with ms := putL (cmM · m) m p.ms } m = 0 := by
    unfold keepM
    rw [if_neg]
    have : (putL (cmM · m) m p.ms).any (eqM · m) = true := List.any_eq_true.2 ⟨m, put_self, by simp [eqM]⟩
    show ¬ (putL (cmM · m) m p.ms).any (eqM · m) = false
    rw [this]
    decide
  unfold whn
  rw [if_pos hk]
  show ({ p with ms := (putL (cmM · m) m p.ms).filter (fun y => cmM y m != 0) }, (0 : Int)) = (p, 0)
  rw [put_fil (c := (cmM · m)) (cmM_self m) hne]
theorem un_carry {p a : Pv} {c : Cr} (h : chk p = true) (m : Mp) (b : Mb) (hd : doC p ⟨3, m, c, b⟩ = (a, 0)) (m' : Mp) (b' : Mb) : doC a ⟨4, m', c, b'⟩ = (p, 0) ∧ a ≠ p := by
  have ha : chk a = true := by have := do_chk ⟨3, m, c, b⟩ h; rw [hd] at this; exact this
  rw [do_k h] at hd
  unfold doK at hd
  rw [if_neg (by show ¬ (3 : Int) = 1; decide), if_neg (by show ¬ (3 : Int) = 2; decide), if_pos rfl] at hd
  obtain ⟨h0, rfl⟩ := whn_ok hd
  obtain ⟨r1, r2, r3, r4, r5⟩ := refC_zero h0
  have hne : ∀ y ∈ p.cs, cmC y c ≠ 0 := fun y hy e => by
    have := fnd_false r3 y hy
    simp at this
    exact this (cmI_eq.1 e)
  refine ⟨?_, cs_ne (put_ne hne)⟩
  rw [do_k ha]
  unfold doK
  rw [if_neg (by show ¬ (4 : Int) = 1; decide), if_neg (by show ¬ (4 : Int) = 2; decide), if_neg (by show ¬ (4 : Int) = 3; decide), if_pos rfl]
  have hatt : att p c.s = [] := by
    refine List.map_eq_nil_iff.2 (List.filter_eq_nil_iff.2 fun m hm e => ?_)
    have hM' := (gM_iff p).1 ((chk_iff p).1 h).2.2.2.2.2
    have := hM'.1 m hm
    unfold okM0 at this
    simp only [Bool.and_eq_true] at this
    have e' : m.s = c.s := by simpa using e
    rw [e', r3] at this
    exact absurd this.2.2 (by decide)
  have hk : keepC { p with cs := putL (cmC · c) c p.cs } c = 0 := by
    unfold keepC
    have : (putL (cmC · c) c p.cs).any (eqC · c) = true := List.any_eq_true.2 ⟨c, put_self, by simp [eqC]⟩
    rw [if_neg (by show ¬ (putL (cmC · c) c p.cs).any (eqC · c) = false; rw [this]; decide), if_neg (by show ¬ 0 < (att p c.s).length; rw [hatt]; simp)]
  unfold whn
  rw [if_pos hk]
  show ({ p with cs := (putL (cmC · c) c p.cs).filter (fun y => cmC y c != 0) }, (0 : Int)) = (p, 0)
  rw [put_fil (c := (cmC · c)) (cmI_self c.s) hne]
theorem un_member {p a : Pv} {b : Mb} (h : chk p = true) (m : Mp) (c : Cr) (hw : pts p b.v = none) (hd : doC p ⟨5, m, c, b⟩ = (a, 0)) (m' : Mp) (c' : Cr) : doC a ⟨6, m', c', b⟩ = (p, 0) ∧ a ≠ p := by
  have ha : chk a = true := by have := do_chk ⟨5, m, c, b⟩ h; rw [hd] at this; exact this
  rw [do_k h] at hd
  unfold doK at hd
  rw [if_neg (by show ¬ (5 : Int) = 1; decide), if_neg (by show ¬ (5 : Int) = 2; decide), if_neg (by show ¬ (5 : Int) = 3; decide), if_neg (by show ¬ (5 : Int) = 4; decide), if_pos rfl] at hd
  obtain ⟨h0, rfl⟩ := whn_ok hd
  have hne : ∀ y ∈ p.bs, cmB y b ≠ 0 := fun y hy e => by
    have := (ptl_some (v := b.v) (l := p.bs)).2 ⟨y, hy, cmI_eq.1 e⟩
    have hw' : ptl b.v p.bs = none := hw
    rw [hw'] at this
    cases this
  refine ⟨?_, bs_ne (put_ne hne)⟩
  rw [do_k ha]
  unfold doK
  rw [if_neg (by show ¬ (6 : Int) = 1; decide), if_neg (by show ¬ (6 : Int) = 2; decide), if_neg (by show ¬ (6 : Int) = 3; decide), if_neg (by show ¬ (6 : Int) = 4; decide), if_neg (by show ¬ (6 : Int) = 5; decide), if_pos rfl]
  have hsv : svs p b.v = [] := by
    refine List.map_eq_nil_iff.2 (List.filter_eq_nil_iff.2 fun k hk e => ?_)
    have hC' := (gC_iff p).1 ((chk_iff p).1 h).2.2.2.2.1
    have := (hC'.1 k hk).2
    have e' : k.v = b.v := by simpa using e
    rw [e', hw] at this
    cases this
  have hk : keepB { p with bs := putL (cmB · b) b p.bs } b.v = 0 := by
    unfold keepB
    have : (pts { p with bs := putL (cmB · b) b p.bs } b.v).isSome = true := ptl_some.2 ⟨b, put_self, rfl⟩
    rw [if_neg (by rw [this]; decide), if_neg (by show ¬ 0 < (svs p b.v).length; rw [hsv]; simp)]
  unfold whn
  rw [if_pos hk]
  show ({ p with bs := (putL (cmB · b) b p.bs).filter (fun y => cmB y b != 0) }, (0 : Int)) = (p, 0)
  rw [put_fil (c := (cmB · b)) (cmI_self b.v) hne]
/-! ### sizes -/
theorem ris_len : ∀ {l : List Int} {lo hi : Int}, ris ltI l = true → (∀ x ∈ l, lo ≤ x ∧ x < hi) → lo ≤ hi → (l.length : Int) ≤ hi - lo
  | [], lo, hi, _, _, h => by simp; omega
  | x :: l, lo, hi, h, k, hl => by
    have h' := (ris_cons ltI_tr x l).1 h
    have hx := k x (by simp)
    have := ris_len (lo := x + 1) (hi := hi) h'.2 (fun y hy => ⟨by have := h'.1 y hy; simp [ltI] at this; omega, (k y (by simp [hy])).2⟩) (by omega)
    rw [List.length_cons]
    omega
theorem okB_len {p : Pv} (hk : p.ks.length ≤ 8) {m : Mb} (h : okB p m = true) : m.ps.length ≤ 8 := by
  unfold okB at h
  simp only [Bool.and_eq_true, List.all_eq_true] at h
  have := ris_len (lo := 0) (hi := p.ks.length) h.2.1 (fun x hx => by
    have := h.2.2 x hx
    unfold isK hasP at this
    simp at this
    omega) (by omega)
  omega
theorem chk_sz {p : Pv} (h : chk p = true) : Sz p := by
  rw [chk_iff] at h
  obtain ⟨h1, h2, ⟨l1, l2, l3⟩, hB, hC, hM⟩ := h
  unfold gK at h2
  simp only [Bool.and_eq_true, decide_eq_true_eq] at h2
  exact ⟨by omega, by omega, by omega, by omega, fun m hm => Nat.le_trans (okB_len h2.2.1 (((gB_iff p).1 hB).1 m hm)) (by decide)⟩
/-! ### commands, one behind the other -/
/-- A command whose member has not many more ports than there may be. -/
def shD (c : Cd) : Cd := { c with b := ⟨c.b.v, c.b.ps.take 10⟩ }
def stepP (p : Pv) (c : Cd) : Pv := (doC p (shD c)).1
/-- What comes of commands. -/
def runP (p : Pv) (l : List Cd) : Pv := l.foldl stepP p
theorem run_chk {p : Pv} (h : chk p = true) : ∀ (l : List Cd), chk (runP p l) = true
  | [] => h
  | c :: l => run_chk (do_chk (shD c) h) l
theorem run_next {p : Pv} {l : List Cd} {i : Nat} {c : Cd} (h : l[i]? = some c) : runP p (l.take (i + 1)) = stepP (runP p (l.take i)) c := by
  rw [List.take_add_one, h]
  simp [runP]
theorem sh_len (c : Cd) : (shD c).b.ps.length ≤ 1000 := Nat.le_trans (List.length_take_le ..) (by decide)
/-- Ports of kinds by bits. -/
def kdP (f : Nat → Bool) (n : Nat) : List Int := (List.range n).map fun i => if f i then 2 else 1
theorem kdP_next (f : Nat → Bool) (n : Nat) : kdP f (n + 1) = kdP f n ++ [if f n then 2 else 1] := by simp [kdP, List.range_succ]
theorem kdP_len (f : Nat → Bool) (n : Nat) : (kdP f n).length = n := by simp [kdP]
theorem kdP_ok {f : Nat → Bool} {n : Nat} (h1 : 1 ≤ n) (h2 : n ≤ 8) : gK (kdP f n) = true := by
  unfold gK
  rw [kdP_len]
  simp only [Bool.and_eq_true, decide_eq_true_eq, List.all_eq_true]
  refine ⟨h1, h2, fun k hk => ?_⟩
  obtain ⟨i, _, rfl⟩ := List.mem_map.1 hk
  split <;> rfl
end

section
set_option linter.unusedVariables false
set_option maxRecDepth 4000
set_option linter.unusedSimpArgs false
open Go.RowKit
attribute [local go_sem ↓] ldM stM ldC stC ldB stB ldP stP apI bsI
attribute [local go_sem] bsI_is bsI2_is
attribute [local go_sem ↓] stIs stKs stMs stCs stBs ldD stD apK bsK
attribute [local go_sem] bsK_is

def eD : El Cm := ⟨Cm.cs, 108, 54, 21, 144⟩
theorem slD : Try.prog.underlying 54 = some (.slice 108) := Try.underlying54
def zD : Cm := ⟨0, ⟨0, 0, 0⟩, ⟨0, 0⟩, ⟨0, none, 0, 0⟩, ⟨0, 0, 0, 0, 0, 0, 0, 0, false, 0, 0, 0, 0⟩⟩
theorem kD : eD.Ok := ⟨fun _ => rfl, by decide, fun _ => one_of rfl, slD, ⟨.agg zD.cs, by kernel_rfl, rfl⟩, by decide⟩
/-- A slice of commands, and what they are. -/
structure Cms (W : World) (a : Option Addr) (n c : Nat) (r : List Cm) (l : List Cd) : Prop where
  sl : SlAt eD W a n c r
  len : r.length = l.length
  at' : ∀ (i : Nat) (x : Cm) (y : Cd), r[i]? = some x → l[i]? = some y → IsCm W x y
theorem Cms.below {W W' : World} {a : Option Addr} {n c : Nat} {r : List Cm} {l : List Cd} (h : Cms W a n c r l) (hb : Below W.heap.size W W') : Cms W' a n c r l := ⟨h.sl.below hb, h.len, fun i x y hx hy => (h.at' i x y hx hy).below hb⟩
theorem Cms.nil (W : World) : Cms W none 0 0 [] [] := ⟨SlAt.none' W, rfl, fun i x y hx => by simp at hx⟩
theorem Cms.get {W : World} {a : Option Addr} {n c : Nat} {r : List Cm} {l : List Cd} (h : Cms W a n c r l) {i : Nat} (hi : i < n) : ∃ x y, r[i]? = some x ∧ l[i]? = some y ∧ IsCm W x y := by
  have hr : i < r.length := by rw [h.sl.len]; exact hi
  have hl : i < l.length := by rw [← h.len]; exact hr
  exact ⟨_, _, List.getElem?_eq_getElem hr, List.getElem?_eq_getElem hl, h.at' i _ _ (List.getElem?_eq_getElem hr) (List.getElem?_eq_getElem hl)⟩
theorem lD {W : World} {b o n c i : Nat} {l : List Cm} {x : Cm} (h : SlAt eD W (some ⟨b, o, none⟩) n c l) (hx : l[i]? = some x) : (ldS 108 (.pointer (some ⟨b, o + i * 21, none⟩))).run Try.prog W = .ok (.agg x.cs) W := h.ld kD hx Try.underlying108 rfl rfl
/-- A command's variable, new. -/
theorem CmAt.put (W : World) (x : Cm) : ∃ V, (stS 108 (.pointer (some ⟨W.heap.size, 0, none⟩)) (.agg x.cs)).run Try.prog (W.alloc (.cells #[.int .i64 0, .int .i64 0, .int .i64 0, .int .i64 0, .int .i64 0, .int .i64 0, .int .i64 0, .slice none 0 0, .int .i64 0, .int .u8 0, .int .u8 0, .int .u8 0, .int .u8 0, .int .u8 0, .int .u8 0, .int .i64 0, .bool false, .int .i64 0, .int .u64 0, .int .i64 0, .int .u32 0] 108)) = .ok () V ∧ CmAt V W.heap.size x ∧ Below W.heap.size W V := by
  obtain ⟨V, h1, h2, h3, _⟩ := row_new rtD W zD.cs x.cs rfl rfl (one_of rfl)
  exact ⟨V, h1, h2, h3⟩
/-- .. its member stored anew. -/
theorem CmAt.stB {W : World} {b : Nat} {x : Cm} (h : CmAt W b x) (z : Mr) : ∃ V, (stS 76 (.pointer (some ⟨b, 6, none⟩)) (.agg z.cs)).run Try.prog W = .ok () V ∧ CmAt V b { x with b := z } ∧ W.grownBy V (some b) := by
  have h' : W.heap[b]? = some (.cells x.cs 108 (0, 0)) := h
  have hs := store_cells (ty := 76) (o := 6) (cs := z.cs) h' infoB (by show 6 + 2 ≤ 21; decide) (one_of rfl)
  have e : (x.cs.toList.take 6 ++ z.cs.toList ++ x.cs.toList.drop (6 + z.cs.size)).toArray = ({ x with b := z } : Cm).cs := rfl
  rw [e] at hs
  exact ⟨_, hs, RvAt.set h, grown_row _ _ _⟩
/-- A law's variable of what is provisioned. -/
structure PvS (w W : World) (b : Nat) (x : Pr) (p : Pv) : Prop where
  bel : Below w.heap.size w W
  var : PrAt W b x
  pv : IsPv W x p
  lo : w.heap.size ≤ b
theorem PvS.below {w W W' : World} {b : Nat} {x : Pr} {p : Pv} (h : PvS w W b x p) (hb : Below W.heap.size W W') : PvS w W' b x p := ⟨below_over h.bel hb, h.var.below hb, h.pv.below hb, h.lo⟩
/-- .. where another such variable is stored into. -/
theorem PvS.other {w W W' : World} {b g : Nat} {x z : Pr} {p pz : Pv} (h : PvS w W b x p) (k : PvS w W g z pz) (hg : W.grownBy W' (some g)) (hn : b ≠ g) : PvS w W' b x p := ⟨gro h.bel hg k.lo h.bel.size, h.var.keptBut hg (by simpa using hn), h.pv.keptV k.var k.pv hg, h.lo⟩
/-- .. where it is itself. -/
theorem PvS.st {w W : World} {b : Nat} {x y : Pr} {p q : Pv} (h : PvS w W b x p) (hq : IsPv W y q) : ∃ V, (stS 29 (.pointer (some ⟨b, 0, none⟩)) (.agg y.cs)).run Try.prog W = .ok () V ∧ PvS w V b y q ∧ W.grownBy V (some b) := by
  obtain ⟨V, h1, h2, h3⟩ := h.var.st (y := y) hq.one
  exact ⟨V, h1, ⟨gro h.bel h3 h.lo h.bel.size, h2, hq.keptV h.var h.pv h3, h.lo⟩, h3⟩
theorem PvS.new {w W : World} {y : Pr} {q : Pv} (hb : Below w.heap.size w W) (hq : IsPv W y q) : ∃ V, (stS 29 (.pointer (some ⟨W.heap.size, 0, none⟩)) (.agg y.cs)).run Try.prog (W.alloc (.cells #[.int .u8 0, .int .u8 0, .int .u8 0, .int .u8 0, .int .u8 0, .int .u8 0, .slice none 0 0, .slice none 0 0, .slice none 0 0, .slice none 0 0] 29)) = .ok () V ∧ PvS w V W.heap.size y q ∧ Below W.heap.size W V := by
  obtain ⟨V, h1, h2, h3⟩ := PrAt.put W y hq.one
  exact ⟨V, h1, ⟨below_over hb h3, h2, hq.below h3, hb.size⟩, h3⟩
theorem PvS.ld {w W : World} {b : Nat} {x : Pr} {p : Pv} (h : PvS w W b x p) : (ldS 29 (.pointer (some ⟨b, 0, none⟩))).run Try.prog W = .ok (.agg x.cs) W := h.var.ld
theorem rdo_is {w : World} {p : Pv} {c : Cd} {x : Pr} {y : Cm} (h : IsPv w x p) (hz : Sz p) (hc : IsCm w y c) (hcl : c.b.ps.length ≤ 1000) :
    Calls Try.prog 48 #[.agg x.cs, .agg y.cs] w fun r w' => RdT w (doC p c) r w' := by
  exact rdo_any x p y c w h hz hc hcl
/-- A round's command: read, its member cut. -/
theorem IsCm.sh {W : World} {x : Cm} {d : Cd} {z : Mr} (h : IsCm W x d) (hv : z.v = x.b.v) (hp : SlAt eI W z.a z.n z.c (d.b.ps.take 10)) : IsCm W { x with b := z } (shD d) := ⟨h.k, h.m, h.c, hv.trans h.v, hp⟩
end

end Go.Proofs.Ytgjagedngdhdaaa
