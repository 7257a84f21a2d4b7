/-
  TagTypes: types ahead of any bytes, and a tag of another VLAN, as defined: the walk.
-/
import Derived.Test.YtmhnoggihnhenaaTType
import Derived.Test.YtmhnoggihnhenaaLawTakes
namespace Go.Proofs.Ytmhnoggihnhenaa
set_option linter.unusedVariables false
set_option linter.unusedSimpArgs false
open Go.RowKit

/-- The bytes that are told of a type and its parts. -/
def ptE (n : Int) : Int := if 0 ≤ n ∧ n ≤ 65535 then 0 else 1
def ptL (n : Int) (lf : Nat → List Int) (k : Nat) : List Int := if 0 ≤ n ∧ n ≤ 65535 then joined (typeL n) lf k else []

theorem ptype_any (n : Int) (pb k c : Nat) (vf : Nat → Value) (lf : Nat → List Int) (w : World) (hk : k ≤ 2) (hkc : k ≤ c) (hP : Parts w pb k vf lf) :
    Calls Try.prog 22 #[.int .i64 n, .slice (some ⟨pb, 0, none⟩) k c] w fun r w' => ∃ s, r = .returned (.tuple #[s, .int .i64 (ptE n)]) ∧ Own w' w.heap.size s (ptL n lf k) ∧ Below w.heap.size w w' := by
  unfold ptE ptL
  by_cases h : 0 ≤ n ∧ n ≤ 65535
  · rw [if_pos h, if_pos h]
    exact ptype_yes n pb k c vf lf w h hk hkc hP
  · rw [if_neg h, if_neg h]
    exact (ptype_no n _ w (by omega)).mono fun r w' ⟨hr, hb⟩ => ⟨_, hr, own_nil _ _, hb⟩

theorem ptyperef_any (n : Int) (pb k c : Nat) (vf : Nat → Value) (lf : Nat → List Int) (w : World) (hk : k ≤ 2) (hkc : k ≤ c) (hP : Parts w pb k vf lf) :
    Calls Try.prog 23 #[.int .i64 n, .slice (some ⟨pb, 0, none⟩) k c] w fun r w' => ∃ s, r = .returned (.tuple #[s, .int .i64 (ptE n)]) ∧ Own w' w.heap.size s (ptL n lf k) ∧ Below w.heap.size w w' := by
  unfold ptE ptL
  by_cases h : 0 ≤ n ∧ n ≤ 65535
  · rw [if_pos h, if_pos h]
    exact ptyperef_nat n pb k c vf lf w h hk hkc hP
  · rw [if_neg h, if_neg h]
    exact (ptyperef_no n _ w (by omega)).mono fun r w' ⟨hr, hb⟩ => ⟨_, hr, own_nil _ _, hb⟩

/-- Two slices of a list of two, and their bytes. -/
def two {A : Type} (x y : A) : Nat → A
  | 0 => x
  | _ => y

theorem parts_two (W : World) (v0 v1 : Value) (l0 l1 : List Int) (h0 : Src W v0 l0) (h1 : Src W v1 l1) (k0 : l0.length ≤ 1000) (k1 : l1.length ≤ 1000) : Parts (W.alloc (.cells #[v0, v1] 28)) W.heap.size 2 (two v0 v1) (two l0 l1) := by
  intro j hj
  have hb : Below W.heap.size W (W.alloc (.cells #[v0, v1] 28)) := (Below.refl _ _).alloc (Nat.le_refl _) _
  have hc := alloc_at W (.cells #[v0, v1] 28)
  have hj' : j = 0 ∨ j = 1 := by omega
  rcases hj' with rfl | rfl
  · exact ⟨cell_at hc 0 _ rfl, h0.below hb, k0⟩
  · exact ⟨cell_at hc 1 _ rfl, h1.below hb, k1⟩

attribute [local go_sem ↓] eqS23_eq

set_option maxHeartbeats 1000000 in
theorem TagTypes_walk (n : Int) (a0 : Option Addr) (n0 c0 : Nat) (l0 : List Int) (a1 : Option Addr) (n1 c1 : Nat) (l1 : List Int) (p v : Int) (d : Bool) (x : Int) (w : World) (wn : (Lit.int .i64 n).wf = true) (f0 : Src w (.slice a0 n0 c0) l0) (g0 : ∀ x ∈ l0, 0 ≤ x ∧ x ≤ 255) (f1 : Src w (.slice a1 n1 c1) l1) (g1 : ∀ x ∈ l1, 0 ≤ x ∧ x ≤ 255) (wx : (Lit.int .i64 x).wf = true) :
    Calls Try.prog 5 #[.int .i64 n, .slice a0 n0 c0, .slice a1 n1 c1, .agg #[.int .i64 p, .bool d, .int .i64 v], .int .i64 x] w fun r w' => r = .returned (.bool true) ∧ Below w.heap.size w w' := by
  clear wn wx
  obtain ⟨L0, hL0⟩ : ∃ L, l0.take 400 = L := ⟨_, rfl⟩
  obtain ⟨L1, hL1⟩ : ∃ L, l1.take 400 = L := ⟨_, rfl⟩
  have k0 : L0.length ≤ 1000 := by rw [← hL0]; simp; omega
  have k1 : L1.length ≤ 1000 := by rw [← hL1]; simp; omega
  have kb : ∀ x ∈ L0, 0 ≤ x ∧ x ≤ 255 := by rw [← hL0]; intro x hx; exact g0 x (List.mem_of_mem_take hx)
  have HL : Hid (L0.length ≤ 1000 ∧ L1.length ≤ 1000 ∧ ∀ x ∈ L0, 0 ≤ x ∧ x ≤ 255) := ⟨k0, k1, kb⟩
  have B0 : Below w.heap.size w (w.alloc (.cells #[.int .i64 p, .bool d, .int .i64 v] 23)) := (Below.refl _ _).alloc (Nat.le_refl _) _
  have F0 : Hid (Src (w.alloc (.cells #[.int .i64 p, .bool d, .int .i64 v] 23)) (.slice a0 n0 c0) l0) := f0.below B0
  have F1 : Hid (Src (w.alloc (.cells #[.int .i64 p, .bool d, .int .i64 v] 23)) (.slice a1 n1 c1) l1) := f1.below B0
  have K8 : Hid ((w.alloc (.cells #[.int .i64 p, .bool d, .int .i64 v] 23)).heap[w.heap.size]? = some (.cells #[.int .i64 p, .bool d, .int .i64 v] 23 (0, 0))) := alloc_at _ _
  have BW : Hid (Below w.heap.size w (w.alloc (.cells #[.int .i64 p, .bool d, .int .i64 v] 23))) := B0
  clear f0 f1 g0 g1 k0 k1 kb B0
  go_enter Try.func5, Try.ntmps5
  go_wp2_with fail
  obtain ⟨W0, hW0⟩ : ∃ W0, w.alloc (.cells #[.int .i64 p, .bool d, .int .i64 v] 23) = W0 := ⟨_, rfl⟩
  rw [hW0] at F0 F1 K8 BW ⊢
  clear hW0
  refine (cut_any a0 n0 c0 l0 _ F0.out).mono ?_
  rintro _ z0 ⟨m0, rfl, hz0, hS0⟩
  rw [hz0]
  rw [hL0] at hS0
  have S0 : Hid (Src W0 (.slice a0 m0 c0) L0) := hS0
  clear hS0 hL0 F0 hz0
  go_wp2_with fail
  refine (cut_any a1 n1 c1 l1 _ F1.out).mono ?_
  rintro _ z1 ⟨m1, rfl, hz1, hS1⟩
  rw [hz1]
  rw [hL1] at hS1
  have S1 : Hid (Src W0 (.slice a1 m1 c1) L1) := hS1
  clear hS1 hL1 F1 hz1
  go_wp2_with fail
  refine (ptype_any n _ 2 2 _ _ _ (by omega) (by omega) (parts_two W0 _ _ _ _ S0.out S1.out HL.out.1 HL.out.2.1)).mono ?_
  rintro _ w1 ⟨s1, rfl, ho1, hb1⟩
  have b1 : Below W0.heap.size W0 w1 := below_over ((Below.refl _ _).alloc (Nat.le_refl _) _) hb1
  have R1 : Hid (Src w1 s1 _) := ho1.src
  have B1 : Hid (Below W0.heap.size W0 w1) := b1
  clear ho1 hb1 b1
  go_wp2_with fail
  refine (ptyperef_any n _ 2 2 _ _ _ (by omega) (by omega) (parts_two w1 _ _ _ _ (S0.out.below B1.out) (S1.out.below B1.out) HL.out.1 HL.out.2.1)).mono ?_
  rintro _ w2 ⟨s2, rfl, ho2, hb2⟩
  have b2 : Below w1.heap.size w1 w2 := below_over ((Below.refl _ _).alloc (Nat.le_refl _) _) hb2
  have R1' : Hid (Src w2 s1 _) := R1.out.below b2
  have R2 : Hid (Src w2 s2 _) := ho2.src
  have B2 : Hid (Below W0.heap.size W0 w2) := below_over B1.out b2
  clear ho2 hb2 b2 R1 B1 S1
  go_wp2_with fail
  refine (ttype_any a0 m0 c0 L0 _ (S0.out.below B2.out) HL.out.1 HL.out.2.2).mono ?_
  rintro _ w3 ⟨s3, rfl, ho3, hb3⟩
  have R1 : Hid (Src w3 s1 _) := R1'.out.below hb3
  have R2' : Hid (Src w3 s2 _) := R2.out.below hb3
  have R3 : Hid (Src w3 s3 _) := ho3.src
  have B3 : Hid (Below W0.heap.size W0 w3) := below_over B2.out hb3
  clear ho3 hb3 R1' R2 B2
  go_wp2_with fail
  refine (ttyperef_any a0 m0 c0 L0 _ (S0.out.below B3.out) HL.out.1 HL.out.2.2).mono ?_
  rintro _ w4 ⟨s4, rfl, ho4, hb4⟩
  have R1' : Hid (Src w4 s1 _) := R1.out.below hb4
  have R2 : Hid (Src w4 s2 _) := R2'.out.below hb4
  have R3' : Hid (Src w4 s3 _) := R3.out.below hb4
  have R4 : Hid (Src w4 s4 _) := ho4.src
  have B4 : Hid (Below W0.heap.size W0 w4) := below_over B3.out hb4
  have K4 := (B4.out.block _ (lt_of_block K8.out)).trans K8.out
  have k40 := cell3_0 K4
  have k41 := cell3_1 K4
  have k42 := cell3_2 K4
  clear ho4 hb4 R1 R2' R3 B3 K4 S0
  go_wp2_with fail
  refine (carried_any p v x d _).mono ?_
  rintro _ w5 ⟨rfl, hb5⟩
  have hb5' := hb5.alloc hb5.size (.cells #[.int .i64 (carP p v x), .bool (carD d p v x), .int .i64 (carV p v x)] 23)
  have R1 : Hid (Src (w5.alloc (.cells #[.int .i64 (carP p v x), .bool (carD d p v x), .int .i64 (carV p v x)] 23)) s1 _) := R1'.out.below hb5'
  have R2' : Hid (Src (w5.alloc (.cells #[.int .i64 (carP p v x), .bool (carD d p v x), .int .i64 (carV p v x)] 23)) s2 _) := R2.out.below hb5'
  have R3 : Hid (Src (w5.alloc (.cells #[.int .i64 (carP p v x), .bool (carD d p v x), .int .i64 (carV p v x)] 23)) s3 _) := R3'.out.below hb5'
  have R4' : Hid (Src (w5.alloc (.cells #[.int .i64 (carP p v x), .bool (carD d p v x), .int .i64 (carV p v x)] 23)) s4 _) := R4.out.below hb5'
  have B5 : Hid (Below W0.heap.size W0 (w5.alloc (.cells #[.int .i64 (carP p v x), .bool (carD d p v x), .int .i64 (carV p v x)] 23))) := below_over B4.out hb5'
  have K21 : Hid ((w5.alloc (.cells #[.int .i64 (carP p v x), .bool (carD d p v x), .int .i64 (carV p v x)] 23)).heap[w5.heap.size]? = some (.cells #[.int .i64 (carP p v x), .bool (carD d p v x), .int .i64 (carV p v x)] 23 (0, 0))) := alloc_at _ _
  have K5 := (B5.out.block _ (lt_of_block K8.out)).trans K8.out
  have k50 := cell3_0 K5
  have k51 := cell3_1 K5
  have k52 := cell3_2 K5
  clear hb5 hb5' R1' R2 R3' R4 B4 K5 k40 k41 k42
  go_wp2_with fail
  refine (carriedref_any p v x d _).mono ?_
  rintro _ w6 ⟨rfl, hb6⟩
  have hb6' := hb6.alloc hb6.size (.cells #[.int .i64 (carP p v x), .bool (carD d p v x), .int .i64 (carV p v x)] 23)
  have q1 := (R1.out.below hb6').string
  have q2 := (R2'.out.below hb6').string
  have q3 := (R3.out.below hb6').string
  have q4 := (R4'.out.below hb6').string
  have K21' := (hb6'.block _ (lt_of_block K21.out)).trans K21.out
  have u0 := cell3_0 K21'
  have u1 := cell3_1 K21'
  have u2 := cell3_2 K21'
  have q23 : ∀ W, (eqS23 (.agg #[.int .i64 (carP p v x), .bool (carD d p v x), .int .i64 (carV p v x)]) (.agg #[.int .i64 (carP p v x), .bool (carD d p v x), .int .i64 (carV p v x)])).run Try.prog W = .ok (.bool true) W := fun W => eq23_self _ _ _ W
  have B6 : Hid (Below w.heap.size w (w6.alloc (.cells #[.int .i64 (carP p v x), .bool (carD d p v x), .int .i64 (carV p v x)] 23))) := below_over BW.out (below_over B5.out hb6')
  clear hb6 hb6' R1 R2' R3 R4' B5 K21 K21' k50 k51 k52
  go_wp2_with fail
  refine Calls.on_later (awake_any _) ?_
  intro y5
  go_wp2
  go_ret
  exact ⟨rfl, below_later B6.out y5⟩
end Go.Proofs.Ytmhnoggihnhenaa
