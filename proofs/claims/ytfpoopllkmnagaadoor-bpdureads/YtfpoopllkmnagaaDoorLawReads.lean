/-
  BpduReads: the message of any bytes, as defined: the walk.
-/
import Derived.Test.YtfpoopllkmnagaaDoorAwake
import Derived.Test.YtfpoopllkmnagaaDoorRead
import Derived.Test.YtfpoopllkmnagaaDoorRRd
namespace Go.Proofs.YtfpoopllkmnagaaDoor
set_option linter.unusedVariables false
set_option maxRecDepth 4000
set_option linter.unusedSimpArgs false
open Go.RowKit

attribute [local go_sem ↓] ldS32 ldS49 ldS28 ldS30 ldS83 stS32 stS49 stS28 stS30 eqP_eq nqP_eq eqM_eq nqM_eq nqV_eq nqT_eq slS_eq


set_option maxHeartbeats 4000000 in
theorem BpduReads_walk (a : Option Addr) (n c : Nat) (l : List Int) (w : World) (hR : Rl w) (h : Src w (.slice a n c) l) (hb : ∀ x ∈ l, 0 ≤ x ∧ x ≤ 255) :
    Calls Tryd.prog 4 #[.slice a n c] w fun r w' => r = .returned (.bool true) ∧ Below w.heap.size w w' := by
  have H : Hid (Src w (.slice a n c) l ∧ (∀ x ∈ l, 0 ≤ x ∧ x ≤ 255) ∧ Rl w) := ⟨h, hb, hR⟩
  clear h hb hR
  go_enter Tryd.func4, Tryd.ntmps4
  go_wp2_with fail
  refine (cut_any a n c l w H.out.1).mono ?_
  rintro _ Y ⟨n1, rfl, s1, hY⟩
  rw [hY]
  have HL : Hid (∀ x ∈ l.take 100, 0 ≤ x ∧ x ≤ 255) := take_b H.out.2.1 100
  obtain ⟨L, hL⟩ : ∃ L, l.take 100 = L := ⟨_, rfl⟩
  rw [hL] at s1 HL
  have H1 : Hid (Src w (.slice a n1 c) L ∧ Rl w) := ⟨s1, H.out.2.2⟩
  clear s1 hY Y H hL
  go_wp2_with fail
  refine (read_any a n1 c L w H1.out.2 H1.out.1 HL.out).mono ?_
  rintro _ W2 ⟨m, e, rfl, ro, b2⟩
  obtain ⟨W3, st3, r3, b3, z3⟩ := row_new rt32 W2 #[.int .i64 0, .bool false, .bool false, .bool false, .bool false, .bool false, .bool false, .int .i64 0, .int .u64 0, .int .u32 0, .int .u64 0, .int .u16 0, .int .u8 0, .int .u8 0, .int .u8 0, .int .u8 0] m.cs rfl rfl m.one
  have r3' : PvAt W3 W2.heap.size m := r3
  have H3 : Hid (RdOut L m e ∧ PvAt W3 W2.heap.size m ∧ Below w.heap.size w W3 ∧ Rl W3) := ⟨ro, r3', below_over b2 b3, H1.out.2.below (below_over b2 b3) H1.out.2.lt⟩
  clear ro r3 r3' b2 b3 z3
  go_wp2_with fail
  refine (rref_any a n1 c L W3 (H1.out.1.below H3.out.2.2.1) HL.out).mono ?_
  rintro _ W4 ⟨m', e', rfl, ro, b4⟩
  obtain ⟨rfl, rfl⟩ := ro.inj H3.out.1
  obtain ⟨W5, st5, r5, b5, z5⟩ := row_new rt32 W4 #[.int .i64 0, .bool false, .bool false, .bool false, .bool false, .bool false, .bool false, .int .i64 0, .int .u64 0, .int .u32 0, .int .u64 0, .int .u16 0, .int .u8 0, .int .u8 0, .int .u8 0, .int .u8 0] m'.cs rfl rfl m'.one
  have r5' : PvAt W5 W4.heap.size m' := r5
  have H5 : Hid (Below w.heap.size w W5 ∧ Rl W5) := ⟨below_over (below_over H3.out.2.2.1 b4) b5, (H3.out.2.2.2.below b4 H3.out.2.2.2.lt).below b5 (H3.out.2.2.2.below b4 H3.out.2.2.2.lt).lt⟩
  have l3 := ((H3.out.2.1.below b4).below b5).ld
  have l5 := r5'.ld
  have ep := eqP_any m' m'
  rw [Bp.same_self] at ep
  have gp := guard_p .eql
  clear ro r5 r5' b4 b5 z5 H3 H1 st3
  go_wp2_with fail
  refine (awake_any _ H5.out.2).mono ?_
  rintro _ W6 ⟨rfl, b6⟩
  have B6 : Hid (Below w.heap.size w W6) := below_over H5.out.1 b6
  clear b6 H5 l3 l5 st5
  go_wp2
  go_ret
  exact ⟨rfl, B6.out⟩
end Go.Proofs.YtfpoopllkmnagaaDoor
