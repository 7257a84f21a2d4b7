/-
  SpanNodes and SpanEnds: the walks, for every input.
-/
import Derived.Test.YtcagdfdhpbeolaaLawS
namespace Go.Proofs.Ytcagdfdhpbeolaa
set_option linter.unusedVariables false
set_option maxRecDepth 8000
set_option linter.unusedSimpArgs false
open Go.RowKit

set_option maxHeartbeats 8000000 in
theorem SpanNodes_walk (a : Option Addr) (n c : Nat) (ids0 : List Nat) (a' : Option Addr) (n' c' : Nat) (es0 : List Eg) (w : World) (hs : SlAt eU w a n c ids0) (hl : ∀ x ∈ ids0, x < 18446744073709551616) (ht : SlAt eE w a' n' c' es0) (_hx : ∀ u ∈ es0, True) :
    Calls Try.prog 3 #[.slice a n c, .slice a' n' c'] w fun r w' => r = .returned (.bool true) ∧ Below w.heap.size w w' := by
  have H0 : Hid (SlAt eU w a n c ids0 ∧ SlAt eE w a' n' c' es0 ∧ ∀ x ∈ ids0, x < 18446744073709551616) := ⟨hs, ht, hl⟩
  clear hs ht hl _hx
  go_enter Try.func3, Try.ntmps3
  go_wp2_with fail
  refine (short_any a n c ids0 w H0.out.1).mono ?_
  rintro _ W1 ⟨⟨m, rfl, hm, s1⟩, b1⟩
  have H1 : Hid (SlAt eU W1 a m c (ids0.take 9) ∧ m ≤ 9 ∧ Below w.heap.size w W1) := ⟨s1, hm, b1⟩
  clear s1 hm b1
  go_wp2_with fail
  refine (few_any a' n' c' es0 W1 (H0.out.2.1.below H1.out.2.2)).mono ?_
  rintro _ W2 ⟨⟨m', rfl, hm', s2⟩, b2⟩
  obtain ⟨ids, hids⟩ : ∃ z, ids0.take 9 = z := ⟨_, rfl⟩
  obtain ⟨es, hes⟩ : ∃ z, es0.take 26 = z := ⟨_, rfl⟩
  have GS2 : Hid (GS w W2 a m c a' m' c' ids es) := ⟨by rw [← hids]; exact H1.out.1.below b2, by rw [← hes]; exact s2, by rw [← hids]; exact take_u H0.out.2.2 9, H1.out.2.1, hm', below_over H1.out.2.2 b2⟩
  clear s2 hm' b2 H1 H0 hids hes
  go_wp2_with fail
  refine (nodes_any a m c ids a' m' c' es W2 GS2.out.sl GS2.out.ed GS2.out.u64 (by have := GS2.out.n9; omega) (by have := GS2.out.m26; omega)).mono ?_
  rintro _ W3 ⟨⟨a2, n2, c2, N, rfl, hN, hO⟩, b3⟩
  have G3 : Hid (GS w W3 a m c a' m' c' ids es ∧ SlAt eN W3 a2 n2 c2 N ∧ nodO ids es N) := ⟨GS2.out.below b3, hN, hO⟩
  clear hN hO b3 GS2
  go_wp2_with fail
  refine (rnodes_any a m c ids a' m' c' es W3 G3.out.1.sl G3.out.1.ed G3.out.1.u64 (by have := G3.out.1.n9; omega) (by have := G3.out.1.m26; omega)).mono ?_
  rintro _ W4 ⟨⟨a3, n3, c3, N', rfl, hN, hO⟩, b4⟩
  have e1 := nodO_one G3.out.2.2 hO
  subst e1
  have e2 : n3 = n2 := by rw [← hN.len, ← G3.out.2.1.len]
  subst e2
  have G4 : Hid (GS w W4 a m c a' m' c' ids es ∧ SlAt eN W4 a2 n3 c2 N ∧ SlAt eM W4 a3 n3 c3 N) := ⟨G3.out.1.below b4, G3.out.2.1.below b4, hN⟩
  have C1 : Hid (∀ X, Below W4.heap.size W4 X → _) := fun X k => scheck_any a m c ids a' m' c' es X (G4.out.1.sl.below k) (G4.out.1.ed.below k) G4.out.1.u64 (by have := G4.out.1.n9; omega) (by have := G4.out.1.m26; omega)
  have C2 : Hid (∀ X, Below W4.heap.size W4 X → _) := fun X k => rcheck_any a m c ids a' m' c' es X (G4.out.1.sl.below k) (G4.out.1.ed.below k) G4.out.1.u64 (by have := G4.out.1.n9; omega) (by have := G4.out.1.m26; omega)
  obtain ⟨E, hE⟩ : ∃ z, errI ids es = z := ⟨_, rfl⟩
  rw [hE] at C1 C2 ⊢
  clear hN hO b4 G3 hE
  go_wp2_with fail
  refine (C1.out W4 (Below.refl _ _)).mono ?_
  rintro _ W5 ⟨rfl, b5⟩
  have B5 : Hid (Below W4.heap.size W4 W5) := b5
  clear b5
  go_wp2_with fail
  refine (C2.out W5 B5.out).mono ?_
  rintro _ W6 ⟨rfl, b6⟩
  have B6 : Hid (Below W4.heap.size W4 W6) := below_over B5.out b6
  clear b6
  go_wp2_with fail
  refine (sameNodes_any a2 n3 c2 a3 c3 N W6 (G4.out.2.1.below B6.out) (G4.out.2.2.below B6.out)).mono ?_
  rintro _ W7 ⟨rfl, b7⟩
  have B7 : Hid (Below W4.heap.size W4 W7) := below_over B6.out b7
  clear b7
  go_wp2_with fail
  refine (awake_any W7).mono ?_
  rintro _ W8 ⟨rfl, b8⟩
  have B8 : Hid (Below w.heap.size w W8) := below_over G4.out.1.bel (below_over B7.out b8)
  clear b8
  go_wp2
  go_ret
  exact ⟨rfl, B8.out⟩
set_option maxHeartbeats 8000000 in
theorem SpanEnds_walk (a : Option Addr) (n c : Nat) (ids0 : List Nat) (a' : Option Addr) (n' c' : Nat) (es0 : List Eg) (w : World) (hs : SlAt eU w a n c ids0) (hl : ∀ x ∈ ids0, x < 18446744073709551616) (ht : SlAt eE w a' n' c' es0) (_hx : ∀ u ∈ es0, True) :
    Calls Try.prog 4 #[.slice a n c, .slice a' n' c'] w fun r w' => r = .returned (.bool true) ∧ Below w.heap.size w w' := by
  have H0 : Hid (SlAt eU w a n c ids0 ∧ SlAt eE w a' n' c' es0 ∧ ∀ x ∈ ids0, x < 18446744073709551616) := ⟨hs, ht, hl⟩
  clear hs ht hl _hx
  go_enter Try.func4, Try.ntmps4
  go_wp2_with fail
  refine (short_any a n c ids0 w H0.out.1).mono ?_
  rintro _ W1 ⟨⟨m, rfl, hm, s1⟩, b1⟩
  have H1 : Hid (SlAt eU W1 a m c (ids0.take 9) ∧ m ≤ 9 ∧ Below w.heap.size w W1) := ⟨s1, hm, b1⟩
  clear s1 hm b1
  go_wp2_with fail
  refine (few_any a' n' c' es0 W1 (H0.out.2.1.below H1.out.2.2)).mono ?_
  rintro _ W2 ⟨⟨m', rfl, hm', s2⟩, b2⟩
  obtain ⟨ids, hids⟩ : ∃ z, ids0.take 9 = z := ⟨_, rfl⟩
  obtain ⟨es, hes⟩ : ∃ z, es0.take 26 = z := ⟨_, rfl⟩
  have GS2 : Hid (GS w W2 a m c a' m' c' ids es) := ⟨by rw [← hids]; exact H1.out.1.below b2, by rw [← hes]; exact s2, by rw [← hids]; exact take_u H0.out.2.2 9, H1.out.2.1, hm', below_over H1.out.2.2 b2⟩
  clear s2 hm' b2 H1 H0 hids hes
  go_wp2_with fail
  refine (ends_any a m c ids a' m' c' es W2 GS2.out.sl GS2.out.ed GS2.out.u64 (by have := GS2.out.n9; omega) (by have := GS2.out.m26; omega)).mono ?_
  rintro _ W3 ⟨⟨a2, n2, c2, N, rfl, hN, hO⟩, b3⟩
  have G3 : Hid (GS w W3 a m c a' m' c' ids es ∧ SlAt eX W3 a2 n2 c2 N ∧ endO ids es N) := ⟨GS2.out.below b3, hN, hO⟩
  clear hN hO b3 GS2
  go_wp2_with fail
  refine (rends_any a m c ids a' m' c' es W3 G3.out.1.sl G3.out.1.ed G3.out.1.u64 (by have := G3.out.1.n9; omega) (by have := G3.out.1.m26; omega)).mono ?_
  rintro _ W4 ⟨⟨a3, n3, c3, N', rfl, hN, hO⟩, b4⟩
  have e1 := endO_one G3.out.2.2 hO
  subst e1
  have e2 : n3 = n2 := by rw [← hN.len, ← G3.out.2.1.len]
  subst e2
  have G4 : Hid (GS w W4 a m c a' m' c' ids es ∧ SlAt eX W4 a2 n3 c2 N ∧ SlAt eY W4 a3 n3 c3 N) := ⟨G3.out.1.below b4, G3.out.2.1.below b4, hN⟩
  clear hN hO b4 G3
  go_wp2_with fail
  refine (tree_any a m c ids a' m' c' es W4 G4.out.1.sl G4.out.1.ed G4.out.1.u64 (by have := G4.out.1.n9; omega) (by have := G4.out.1.m26; omega)).mono ?_
  rintro _ W5 ⟨⟨a4, n4, c4, T, rfl, hT, hO⟩, b5⟩
  have G5 : Hid (GS w W5 a m c a' m' c' ids es ∧ SlAt eX W5 a2 n3 c2 N ∧ SlAt eY W5 a3 n3 c3 N ∧ SlAt eI W5 a4 n4 c4 T ∧ treO ids es T) := ⟨G4.out.1.below b5, G4.out.2.1.below b5, G4.out.2.2.below b5, hT, hO⟩
  clear hT hO b5 G4
  go_wp2_with fail
  refine (rtree_any a m c ids a' m' c' es W5 G5.out.1.sl G5.out.1.ed G5.out.1.u64 (by have := G5.out.1.n9; omega) (by have := G5.out.1.m26; omega)).mono ?_
  rintro _ W6 ⟨⟨a5, n5, c5, T', rfl, hT, hO⟩, b6⟩
  have e3 := treO_one G5.out.2.2.2.2 hO
  subst e3
  have e4 : n5 = n4 := by rw [← hT.len, ← G5.out.2.2.2.1.len]
  subst e4
  have G6 : Hid (GS w W6 a m c a' m' c' ids es ∧ SlAt eX W6 a2 n3 c2 N ∧ SlAt eY W6 a3 n3 c3 N ∧ SlAt eI W6 a4 n5 c4 T ∧ SlAt eI W6 a5 n5 c5 T) := ⟨G5.out.1.below b6, G5.out.2.1.below b6, G5.out.2.2.1.below b6, G5.out.2.2.2.1.below b6, hT⟩
  obtain ⟨E, hE⟩ : ∃ z, errI ids es = z := ⟨_, rfl⟩
  rw [hE]
  clear hT hO b6 G5 hE
  go_wp2_with fail
  refine (sameEnds_any a2 n3 c2 a3 c3 N W6 G6.out.2.1 G6.out.2.2.1).mono ?_
  rintro _ W7 ⟨rfl, b7⟩
  have B7 : Hid (Below W6.heap.size W6 W7) := b7
  clear b7
  go_wp2_with fail
  refine (sameInts_any a4 n5 c4 a5 c5 T W7 (G6.out.2.2.2.1.below B7.out) (G6.out.2.2.2.2.below B7.out)).mono ?_
  rintro _ W8 ⟨rfl, b8⟩
  have B8 : Hid (Below W6.heap.size W6 W8) := below_over B7.out b8
  clear b8
  go_wp2_with fail
  refine (awake_any W8).mono ?_
  rintro _ W9 ⟨rfl, b9⟩
  have B9 : Hid (Below w.heap.size w W9) := below_over G6.out.1.bel (below_over B8.out b9)
  clear b9
  go_wp2
  go_ret
  exact ⟨rfl, B9.out⟩
end Go.Proofs.Ytcagdfdhpbeolaa
