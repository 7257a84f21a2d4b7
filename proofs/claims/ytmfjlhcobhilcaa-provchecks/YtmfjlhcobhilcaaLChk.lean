/-
  What may be provisioned, and what is the same: the walk of the statement, for every input.
-/
import Derived.Test.YtmfjlhcobhilcaaKp
import Derived.Test.YtmfjlhcobhilcaaFw
import Derived.Test.YtmfjlhcobhilcaaRch
namespace Go.Proofs.Ytmfjlhcobhilcaa
set_option linter.unusedVariables false
set_option maxRecDepth 4000
set_option linter.unusedSimpArgs false
open Go.RowKit
attribute [local go_sem ↓] ldM stM ldC stC ldB stB ldP stP apI bsI
attribute [local go_sem] bsI_is bsI2_is

set_option maxHeartbeats 8000000 in
theorem ProvChecks_walk (x : Pr) (p : Pv) (y : Pr) (q : Pv) (w : World) (h : IsPv w x p) (k : IsPv w y q) :
    Calls Try.prog 3 #[.agg x.cs, .agg y.cs] w fun r w' => r = .returned (.bool true) ∧ Below w.heap.size w w' := by
  obtain ⟨W, hW, m0, bW, zW⟩ := PrAt.new w x
  obtain ⟨V0, hV, m1, bV, zV⟩ := PrAt.new W y
  have M0 : Hid (PrAt V0 w.heap.size x ∧ PrAt V0 W.heap.size y ∧ Below w.heap.size w V0 ∧ W.heap.size = w.heap.size + 1 ∧ IsPv V0 x p ∧ IsPv V0 y q) := ⟨m0.below bV, m1, below_over bW bV, zW, h.below (below_over bW bV), k.below (below_over bW bV)⟩
  clear m0 m1 bW bV zW zV h k
  have l0 := M0.out.1.ld
  go_enter Try.func3, Try.ntmps3
  go_wp2_with fail
  refine (few_any x p V0 M0.out.2.2.2.2.1).mono ?_
  rintro _ X1 ⟨⟨x1, rfl, h1⟩, b1⟩
  obtain ⟨V1, s1, q1, g1⟩ := (M0.out.1.below b1).st (y := x1) h1.one
  have M1 : Hid (PrAt V1 w.heap.size x1 ∧ PrAt V1 W.heap.size y ∧ Below w.heap.size w V1 ∧ IsPv V1 x1 (fewP p) ∧ IsPv V1 y q) := ⟨q1, (M0.out.2.1.below b1).keptBut g1 (by rw [M0.out.2.2.2.1]; simp), gro (below_over M0.out.2.2.1 b1) g1 (Nat.le_refl _) (below_over M0.out.2.2.1 b1).size, h1.keptV (M0.out.1.below b1) (M0.out.2.2.2.2.1.below b1) g1, (M0.out.2.2.2.2.2.below b1).keptV (M0.out.1.below b1) (M0.out.2.2.2.2.1.below b1) g1⟩
  clear h1 b1 q1 g1 l0
  have l1 := M1.out.2.1.ld
  go_wp2_with fail
  refine (few_any y q V1 M1.out.2.2.2.2).mono ?_
  rintro _ X2 ⟨⟨y1, rfl, h1⟩, b1⟩
  obtain ⟨V2, s2, q1, g1⟩ := (M1.out.2.1.below b1).st (y := y1) h1.one
  have M2 : Hid (PrAt V2 w.heap.size x1 ∧ PrAt V2 W.heap.size y1 ∧ Below w.heap.size w V2 ∧ IsPv V2 x1 (fewP p) ∧ IsPv V2 y1 (fewP q)) := ⟨(M1.out.1.below b1).keptBut g1 (by rw [M0.out.2.2.2.1]; simp), q1, gro (below_over M1.out.2.2.1 b1) g1 (by rw [M0.out.2.2.2.1]; omega) (below_over M1.out.2.2.1 b1).size, (M1.out.2.2.2.1.below b1).keptV (M1.out.2.1.below b1) (M1.out.2.2.2.2.below b1) g1, h1.keptV (M1.out.2.1.below b1) (M1.out.2.2.2.2.below b1) g1⟩
  clear h1 b1 q1 g1 l1
  go_wp2_with fail
  have f0 := fun k : Later V2 => (M2.out.1.below k.below).ld
  have f1 := fun k : Later V2 => (M2.out.2.1.below k.below).ld
  obtain ⟨E, hE⟩ : ∃ z, erC (chk (fewP p)) = z := ⟨_, rfl⟩
  obtain ⟨T, hT⟩ := tell_is (P := fewP p = fewP q)
  have P0 : Hid (∀ k : Later V2, _) := fun k : Later V2 => ret_i (chk_any x1 (fewP p) k.val (M2.out.2.2.2.1.below k.below) (sz_few p).2.2.2.2) hE
  have P1 : Hid (∀ k : Later V2, _) := fun k : Later V2 => ret_i (rchk_is x1 (fewP p) k.val (M2.out.2.2.2.1.below k.below) (sz_few p)) hE
  have P2 : Hid (∀ k : Later V2, Calls Try.prog 12 #[.agg x1.cs, .agg y1.cs] k.val fun r w' => r = .returned (.bool T) ∧ Below k.val.heap.size k.val w') := fun k : Later V2 => (same_pv x1 y1 (fewP p) (fewP q) k.val (M2.out.2.2.2.1.below k.below) (M2.out.2.2.2.2.below k.below)).mono fun _ _ h => ⟨h.1.is hT, h.2⟩
  have P3 : Hid (∀ k : Later V2, Calls Try.prog 13 #[.agg x1.cs, .agg y1.cs] k.val fun r w' => r = .returned (.bool T) ∧ Below k.val.heap.size k.val w') := fun k : Later V2 => (rsame_any x1 y1 (fewP p) (fewP q) k.val (M2.out.2.2.2.1.below k.below) (M2.out.2.2.2.2.below k.below)).mono fun _ _ h => ⟨h.1.is hT, h.2⟩
  have P4 : Hid (∀ k : Later V2, Calls Try.prog 12 #[.agg x1.cs, .agg x1.cs] k.val fun r w' => r = .returned (.bool true) ∧ Below k.val.heap.size k.val w') := fun k : Later V2 => (same_pv x1 x1 (fewP p) (fewP p) k.val (M2.out.2.2.2.1.below k.below) (M2.out.2.2.2.1.below k.below)).mono fun _ _ h => ⟨h.1.is ⟨fun _ => rfl, fun _ => rfl⟩, h.2⟩
  have P5 : Hid (∀ k : Later V2, _) := fun k : Later V2 => awake_any k.val
  clear hE hT
  refine wp_region_later (by kernel_rfl) (by kernel_rfl) ?_
  repeat (go_big_quiet_step (first | exact rfl | (go_at_call 10; with_reducible exact Calls.later_of (P0.out _)) | (go_at_call 11; with_reducible exact Calls.later_of (P1.out _)) | (go_at_call 12; first | with_reducible exact Calls.later_of (P2.out _) | with_reducible exact Calls.later_of (P4.out _)) | (go_at_call 13; with_reducible exact Calls.later_of (P3.out _)) | (go_at_call 14; with_reducible exact Calls.later_of (P5.out _))))
  refine wpQuiet_nil ?_
  intro _ hw'
  obtain ⟨q, rfl⟩ := hw'
  clear f0 f1 P0 P1 P2 P3 P4 P5
  go_wp2
  go_ret
  exact ⟨rfl, below_later M2.out.2.2.1 q⟩
end Go.Proofs.Ytmfjlhcobhilcaa
