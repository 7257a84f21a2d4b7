/-
  PbbDecodes: which frame of the backbone any bytes are, as defined: the walk.
-/
import Derived.Test.YteljcgdenagcmaaBBegin
import Derived.Test.YteljcgdenagcmaaBDecRef
namespace Go.Proofs.Yteljcgdenagcmaa
set_option linter.unusedVariables false
set_option maxRecDepth 4000
set_option linter.unusedSimpArgs false
open Go.RowKit

attribute [local go_sem ↓] slS_eq ldS23 ldS25 ldI27 ldS30 ldS38 stS38 stS30 stS25

set_option maxHeartbeats 2000000 in
theorem PbbDecodes_walk (a : Option Addr) (n c : Nat) (l : List Int) (w : World) (h : Src w (.slice a n c) l) (hb : ∀ x ∈ l, 0 ≤ x ∧ x ≤ 255) :
    Calls Try.prog 4 #[.slice a n c] w fun r w' => r = .returned (.bool true) ∧ Below w.heap.size w w' := by
  have H : Hid (Src w (.slice a n c) l ∧ ∀ x ∈ l.take 1600, 0 ≤ x ∧ x ≤ 255) := ⟨h, take_b hb 1600⟩
  clear h hb
  go_enter Try.func4, Try.ntmps4
  go_wp2_with fail
  refine (cut_any _ l w _ H.out.1).mono ?_
  rintro _ w1 ⟨y, rfl, s1, b1⟩
  obtain ⟨L, hL⟩ : ∃ L, l.take 1600 = L := ⟨_, rfl⟩
  rw [hL] at s1 H
  have S1 : Hid (Src w1 y L ∧ Below w.heap.size w w1) := ⟨s1.below b1, b1⟩
  clear s1 b1 hL
  go_wp2_with fail
  refine (bdec_any y L _ S1.out.1 H.out.2).mono ?_
  rintro _ w2 ⟨s2, rfl, o2, b2⟩
  obtain ⟨W2, st2, F2, B2⟩ := bstore_new w2 (bdF L) s2 (src_one o2.src)
  have e2 := below_over b2 B2
  have N2 : Hid (BfAt W2 w2.heap.size (bdF L) s2 ∧ Src W2 s2 (bdR L) ∧ Src W2 y L ∧ Below w.heap.size w W2) := ⟨F2, o2.src.below B2, S1.out.1.below e2, below_over S1.out.2 e2⟩
  clear o2 b2 F2 B2 e2 S1
  go_wp2_with fail
  refine (bdref_any y L _ N2.out.2.2.1 H.out.2).mono ?_
  rintro _ w3 ⟨s3, rfl, o3, b3⟩
  obtain ⟨W3, st3, F3, B3⟩ := bstore_new w3 (bdF L) s3 (src_one o3.src)
  have e3 := below_over b3 B3
  have N3 : Hid (Src W3 s2 (bdR L) ∧ Src W3 s3 (bdR L) ∧ Below w.heap.size w W3) := ⟨N2.out.2.1.below e3, o3.src.below B3, below_over N2.out.2.2.2 e3⟩
  have l3 := (N2.out.1.below e3).ld
  have k3 := F3.ld
  clear o3 b3 F3 B3 e3 st2 N2
  go_wp2_with fail
  refine (bsameref_any (bdF L) (bdF L) s2 s3 _ _ _ N3.out.1 N3.out.2.1).mono ?_
  rintro _ w4 ⟨rfl, b4⟩
  rw [sameBb_self]
  have B4 : Hid (Below w.heap.size w w4) := below_over N3.out.2.2 b4
  clear b4 st3 l3 k3 N3
  go_wp2_with fail
  refine Calls.on_later (awake_any _) ?_
  intro y5
  go_wp2
  go_ret
  exact ⟨rfl, below_later B4.out y5⟩
end Go.Proofs.Yteljcgdenagcmaa
