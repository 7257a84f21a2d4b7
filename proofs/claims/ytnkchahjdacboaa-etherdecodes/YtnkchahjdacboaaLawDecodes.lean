/-
  EtherDecodes: the frame of all bytes, as defined: the walk.
-/
import Derived.Test.YtnkchahjdacboaaStart
import Derived.Test.YtnkchahjdacboaaDecRef
namespace Go.Proofs.Ytnkchahjdacboaa
set_option linter.unusedVariables false
set_option linter.unusedSimpArgs false
open Go.RowKit

attribute [local go_sem ↓] slS_eq ldS23 ldS25 ldS28 stS28 nqS_eq eqS_eq eqM_eq

set_option maxHeartbeats 2000000 in
theorem EtherDecodes_walk (a : Option Addr) (n c : Nat) (l : List Int) (w : World) (h : Src w (.slice a n c) l) (hb : ∀ x ∈ l, 0 ≤ x ∧ x ≤ 255) :
    Calls Try.prog 4 #[.slice a n c] w fun r w' => r = .returned (.bool true) ∧ Below w.heap.size w w' := by
  obtain ⟨L, hL⟩ : ∃ L, l.take 1700 = L := ⟨_, rfl⟩
  have H : Hid (L.length ≤ 1900 ∧ ∀ x ∈ L, 0 ≤ x ∧ x ≤ 255) := by rw [← hL]; exact ⟨by have := take_le l 1700; omega, take_b hb 1700⟩
  have S0 : Hid (Src w (.slice a n c) l) := h
  clear h hb
  go_enter Try.func4, Try.ntmps4
  go_wp2_with fail
  refine (cut_any a n c l w _ S0.out).mono ?_
  rintro _ w0 ⟨m, rfl, e0, s0⟩
  rw [e0]
  rw [hL] at s0
  have S1 : Hid (Src w (.slice a m c) L) := s0
  clear e0 s0 S0 hL
  go_wp2_with fail
  refine (decode_any _ L _ S1.out H.out.2 H.out.1).mono ?_
  rintro _ w1 ⟨y1, rfl, o1, b1⟩
  obtain ⟨W1, st1, F1, B1⟩ := store_new w1 (dcF L) y1 (src_one o1.src)
  have N1 : Hid (FrAt W1 w1.heap.size (dcF L) y1 ∧ Src W1 y1 (dcR L) ∧ Below w.heap.size w W1) := ⟨F1, o1.src.below B1, below_over b1 B1⟩
  clear o1 b1 F1 B1
  go_wp2_with fail
  refine (dref_any _ L _ (S1.out.below N1.out.2.2) H.out.2 H.out.1).mono ?_
  rintro _ w2 ⟨y2, rfl, o2, b2⟩
  obtain ⟨W2, st2, F2, B2⟩ := store_new w2 (dcF L) y2 (src_one o2.src)
  have bb := below_over b2 B2
  have N2 : Hid (FrAt W2 w1.heap.size (dcF L) y1 ∧ Src W2 y1 (dcR L) ∧ FrAt W2 w2.heap.size (dcF L) y2 ∧ Src W2 y2 (dcR L) ∧ Below w.heap.size w W2) := ⟨N1.out.1.below bb, N1.out.2.1.below bb, F2, o2.src.below B2, below_over N1.out.2.2 bb⟩
  have l1 := N2.out.1.ld
  have l2 := N2.out.2.2.1.ld
  clear o2 b2 F2 B2 bb N1 st1
  go_wp2_with fail
  refine Calls.mono (sameref_any (dcF L) (dcF L) y1 y2 (dcR L) (dcR L) _ N2.out.2.1 N2.out.2.2.2.1) ?_
  rintro _ w3 ⟨rfl, b3⟩
  rw [same_self]
  have B3 : Hid (Below w.heap.size w w3) := below_over N2.out.2.2.2.2 b3
  clear b3 N2 l1 l2 st2
  go_wp2_with fail
  refine Calls.on_later (awake_any _) ?_
  intro y5
  go_wp2
  go_ret
  exact ⟨rfl, below_later B3.out y5⟩
end Go.Proofs.Ytnkchahjdacboaa
