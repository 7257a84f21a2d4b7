/-
  EtherEncodes: which frames may be, and the bytes of any frame, as defined: the walk.
-/
import Derived.Test.YtnkchahjdacboaaStart
import Derived.Test.YtnkchahjdacboaaEncodeRef
namespace Go.Proofs.Ytnkchahjdacboaa
set_option linter.unusedVariables false
set_option linter.unusedSimpArgs false
open Go.RowKit

attribute [local go_sem ↓] slS_eq ldS23 ldS25 ldS28 stS28 nqS_eq eqS_eq eqM_eq

set_option maxHeartbeats 2000000 in
theorem EtherEncodes_walk (f : Fr) (x : Value) (l : List Int) (w : World) (hf : f.ok) (h : Src w x l) (hb : ∀ x ∈ l, 0 ≤ x ∧ x ≤ 255) :
    Calls Try.prog 3 #[.agg (fcs f x)] w fun r w' => r = .returned (.bool true) ∧ Below w.heap.size w w' := by
  have hF := FrAt.new w f x
  have hB : Below w.heap.size w (w.alloc (.cells (fcs f x) 28)) := (Below.refl _ _).alloc (Nat.le_refl _) _
  have ld := hF.ld
  have H : Hid (Src w x l ∧ f.ok ∧ ∀ x ∈ l.take 1600, 0 ≤ x ∧ x ≤ 255) := ⟨h, hf, take_b hb 1600⟩
  have N0 : Hid (FrAt (w.alloc (.cells (fcs f x) 28)) w.heap.size f x ∧ Below w.heap.size w (w.alloc (.cells (fcs f x) 28))) := ⟨hF, hB⟩
  clear h hf hb hF hB
  go_enter Try.func3, Try.ntmps3
  go_wp2_with fail
  refine (light_any f x l w _ H.out.1).mono ?_
  rintro _ w1 ⟨y, rfl, s1, b1⟩
  obtain ⟨L, hL⟩ : ∃ L, l.take 1600 = L := ⟨_, rfl⟩
  rw [hL] at s1 H
  obtain ⟨W1, st1, F1, B1, _, _⟩ := (N0.out.1.below b1).stx (w := w) (g := f) (y := y) (src_one s1) (Nat.le_refl _) (below_over N0.out.2 b1)
  have N1 : Hid (FrAt W1 w.heap.size f y ∧ Below w.heap.size w W1) := ⟨F1, B1⟩
  have S1 : Hid (Src W1 y L) := s1.below B1
  have l1 := F1.ld
  clear s1 b1 F1 B1 N0 ld hL
  go_wp2_with fail
  refine (encode_any f y L _ S1.out H.out.2.2 H.out.2.1).mono ?_
  rintro _ w2 ⟨s2, rfl, o2, b2⟩
  have N2 : Hid (FrAt w2 w.heap.size f y ∧ Below w.heap.size w w2) := ⟨N1.out.1.below b2, below_over N1.out.2 b2⟩
  have S2 : Hid (Src w2 y L ∧ Src w2 s2 (encO f L)) := ⟨S1.out.below b2, o2.src⟩
  have l2 := N2.out.1.ld
  clear o2 b2 N1 S1 l1 st1
  go_wp2_with fail
  refine (encref_any f y L _ S2.out.1 H.out.2.2 H.out.2.1).mono ?_
  rintro _ w3 ⟨s3, rfl, o3, b3⟩
  have N3 : Hid (FrAt w3 w.heap.size f y ∧ Below w.heap.size w w3) := ⟨N2.out.1.below b3, below_over N2.out.2 b3⟩
  have S3 : Hid (Src w3 y L) := S2.out.1.below b3
  have q2 := (S2.out.2.below b3).string
  have q3 := o3.src.string
  have l3 := N3.out.1.ld
  have HK : Hid _ := check_fr f y L w3 S3.out H.out.2.2 H.out.2.1
  obtain ⟨E, hE⟩ : ∃ E, chkF f L = E := ⟨_, rfl⟩
  rw [hE] at HK ⊢
  clear o3 b3 N2 S2 l2 hE
  go_wp2_with fail
  refine Calls.mono HK.out ?_
  rintro _ w4 ⟨rfl, b4⟩
  have B4 : Hid (Below w.heap.size w w4) := below_over N3.out.2 b4
  clear b4 HK q2 q3 l3 N3 S3
  go_wp2_with fail
  refine Calls.on_later (awake_any _) ?_
  intro y5
  go_wp2
  go_ret
  exact ⟨rfl, below_later B4.out y5⟩
end Go.Proofs.Ytnkchahjdacboaa
