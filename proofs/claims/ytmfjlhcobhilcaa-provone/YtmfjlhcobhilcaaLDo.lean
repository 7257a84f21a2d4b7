/-
  What a command makes of anything that is provisioned: the walk of the statement, for every input.
-/
import Derived.Test.YtmfjlhcobhilcaaMad
import Derived.Test.YtmfjlhcobhilcaaFw
namespace Go.Proofs.Ytmfjlhcobhilcaa
set_option linter.unusedVariables false
set_option maxRecDepth 4000
set_option linter.unusedSimpArgs false
open Go.RowKit
attribute [local go_sem ↓] ldM stM ldC stC ldB stB ldP stP apI bsI
attribute [local go_sem] bsI_is bsI2_is

attribute [local go_sem ↓] stIs stKs stMs stCs stBs ldD stD
theorem rsame_yes (x y : Pr) (q : Pv) (w : World) (h : IsPv w x q) (k : IsPv w y q) : Calls Try.prog 13 #[.agg x.cs, .agg y.cs] w fun r w' => r = .returned (.bool true) ∧ Below w.heap.size w w' :=
  (rsame_any x y q q w h k).mono fun _ _ h => ⟨h.1.is ⟨fun _ => rfl, fun _ => rfl⟩, h.2⟩
set_option maxHeartbeats 16000000 in
theorem ProvDoes_walk (x : Pr) (p : Pv) (y : Cm) (c : Cd) (w : World) (h : IsPv w x p) (k : IsCm w y c) :
    Calls Try.prog 4 #[.agg x.cs, .agg y.cs] w fun r w' => r = .returned (.bool true) ∧ Below w.heap.size w w' := by
  obtain ⟨W, hW, m0, bW, zW⟩ := PrAt.new w x
  obtain ⟨V0, hV, m1, bV, zV⟩ := CmAt.new W y
  have A0 : Hid (IsPv w x p ∧ IsCm w y c) := ⟨h, k⟩
  have M0 : Hid (PrAt V0 w.heap.size x ∧ CmAt V0 W.heap.size y ∧ Below w.heap.size w V0 ∧ W.heap.size = w.heap.size + 1 ∧ V0.heap.size = w.heap.size + 2) := ⟨m0.below bV, m1, below_over bW bV, zW, by omega⟩
  clear m0 m1 bW bV zW zV h k
  have l0 := M0.out.1.ld
  go_enter Try.func4, Try.ntmps4
  go_wp2_with fail
  refine (few_at x p w V0 A0.out.1 M0.out.2.2.1).mono ?_
  rintro _ X1 ⟨⟨x1, rfl, h1⟩, b1⟩
  obtain ⟨q, hq⟩ : ∃ z, fewP p = z := ⟨_, rfl⟩
  have SZ : Hid (Sz q) := by rw [← hq]; exact sz_few p
  rw [hq] at h1
  clear hq
  obtain ⟨V1, s1, q1, g1⟩ := (M0.out.1.below b1).st (y := x1) (h1.pv (below_over M0.out.2.2.1 b1)).one
  have M1 : Hid (PrAt V1 w.heap.size x1 ∧ CmAt V1 W.heap.size y ∧ Below w.heap.size w V1 ∧ FewK w V1 V0.heap.size x1 q) := ⟨q1, (M0.out.2.1.below b1).keptBut g1 (by rw [M0.out.2.2.2.1]; simp), gro (below_over M0.out.2.2.1 b1) g1 (Nat.le_refl _) (below_over M0.out.2.2.1 b1).size, h1.kept g1 (by rw [M0.out.2.2.2.2]; omega)⟩
  clear h1 b1 q1 g1 l0
  have l1 := M1.out.2.1.b
  go_wp2_with fail
  refine (short_any y.b c.b.ps V1 (A0.out.2.p.below M1.out.2.2.1)).mono ?_
  rintro _ X2 ⟨⟨z, rfl, hv, hs⟩, b2⟩
  obtain ⟨V2, s2, m2, g2⟩ := (M1.out.2.1.below b2).stB z
  obtain ⟨y', hy'⟩ : ∃ zz : Cm, { y with b := z } = zz := ⟨_, rfl⟩
  rw [hy'] at m2
  have M2 : Hid (PrAt V2 w.heap.size x1 ∧ CmAt V2 W.heap.size y' ∧ Below w.heap.size w V2 ∧ IsPv V2 x1 q ∧ IsCm V2 y' (shD c)) := by
    have bb : Below w.heap.size w V2 := gro (below_over M1.out.2.2.1 b2) g2 (by rw [M0.out.2.2.2.1]; omega) (below_over M1.out.2.2.1 b2).size
    refine ⟨(M1.out.1.below b2).keptBut g2 (by rw [M0.out.2.2.2.1]; simp), m2, bb, ((M1.out.2.2.2.below b2).kept g2 (by rw [M0.out.2.2.2.1, M0.out.2.2.2.2]; omega)).pv bb, ?_⟩
    rw [← hy']
    exact (A0.out.2.sh hv (hs w A0.out.2.p)).below bb
  clear hv hs b2 m2 g2 l1 hy'
  obtain ⟨⟨q2, e2⟩, h2⟩ : ∃ zz, doC q (shD c) = zz := ⟨_, rfl⟩
  have D : Hid (doC q (shD c) = (q2, e2)) := h2
  clear h2
  have l2 := M2.out.1.ld
  have l3 := M2.out.2.1.ld
  go_wp2_with fail
  refine (do_is M2.out.2.2.2.1 SZ.out M2.out.2.2.2.2 (sh_len c) D.out).mono ?_
  rintro _ X3 ⟨⟨x2, rfl, h1⟩, b1⟩
  obtain ⟨V3, s3, m3, b3⟩ := PrAt.put X3 x2 h1.pv.one
  have M3 : Hid (PrAt V3 w.heap.size x1 ∧ CmAt V3 W.heap.size y' ∧ Below w.heap.size w V3 ∧ IsPv V3 x1 q ∧ IsCm V3 y' (shD c) ∧ PrAt V3 X3.heap.size x2 ∧ IsPv V3 x2 q2) := ⟨(M2.out.1.below b1).below b3, (M2.out.2.1.below b1).below b3, below_over M2.out.2.2.1 (below_over b1 b3), (M2.out.2.2.2.1.below b1).below b3, (M2.out.2.2.2.2.below b1).below b3, m3, h1.pv.below b3⟩
  clear h1 b1 m3 b3 l2 l3
  have l2 := M3.out.1.ld
  have l3 := M3.out.2.1.ld
  go_wp2_with fail
  refine (rdo_is M3.out.2.2.2.1 SZ.out M3.out.2.2.2.2.1 (sh_len c)).mono ?_
  rintro _ X4 ⟨⟨x3, rfl, h1⟩, b1⟩
  rw [D.out] at h1
  rw [D.out]
  obtain ⟨V4, s4, m4, b4⟩ := PrAt.put X4 x3 h1.one
  have M4 : Hid (Below w.heap.size w V4 ∧ PrAt V4 X3.heap.size x2 ∧ IsPv V4 x2 q2 ∧ PrAt V4 X4.heap.size x3 ∧ IsPv V4 x3 q2) := ⟨below_over M3.out.2.2.1 (below_over b1 b4), (M3.out.2.2.2.2.2.1.below b1).below b4, (M3.out.2.2.2.2.2.2.below b1).below b4, m4, h1.below b4⟩
  clear h1 b1 m4 b4 l2 l3
  have l2 := M4.out.2.1.ld
  have l3 := M4.out.2.2.2.1.ld
  go_wp2_with fail
  refine (rsame_yes x2 x3 q2 V4 M4.out.2.2.1 M4.out.2.2.2.2).mono ?_
  rintro _ V5 ⟨rfl, b5⟩
  have M5 : Hid (Below w.heap.size w V5) := below_over M4.out.1 b5
  clear b5 l2 l3
  go_wp2_with fail
  refine (awake_any V5).mono ?_
  rintro _ V6 ⟨rfl, b6⟩
  have M6 : Hid (Below w.heap.size w V6) := below_over M5.out b6
  clear b6
  go_wp2
  go_ret
  exact ⟨rfl, M6.out⟩
end Go.Proofs.Ytmfjlhcobhilcaa
