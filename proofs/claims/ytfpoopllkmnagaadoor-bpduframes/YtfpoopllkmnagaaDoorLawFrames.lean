/-
  BpduFrames: any message's frame from any station, and what any bytes are, as defined: the walk.
-/
import Derived.Test.YtfpoopllkmnagaaDoorAwake
import Derived.Test.YtfpoopllkmnagaaDoorRead
import Derived.Test.YtfpoopllkmnagaaDoorRRd
namespace Go.Proofs.YtfpoopllkmnagaaDoor
set_option linter.unusedVariables false
set_option maxRecDepth 4000
set_option linter.unusedSimpArgs false
open Go.RowKit

attribute [local go_sem ↓] ldS32 ldS49 ldS28 ldS30 ldS83 stS32 stS49 stS28 stS30 eqP_eq nqP_eq eqM_eq nqM_eq nqV_eq nqT_eq slS_eq


set_option maxHeartbeats 8000000 in
theorem BpduFrames_walk (s : M6) (m : Bp) (a : Option Addr) (n c : Nat) (l : List Int) (w : World) (hR : Rl w) (hs : s.ok) (hm : m.wf) (h : Src w (.slice a n c) l) (hb : ∀ x ∈ l, 0 ≤ x ∧ x ≤ 255) :
    Calls Tryd.prog 5 #[.agg s.cs, .agg m.cs, .slice a n c] w fun r w' => r = .returned (.bool true) ∧ Below w.heap.size w w' := by
  have h0 := ESt.start w s m hR
  obtain ⟨W0, hW0⟩ : ∃ W, (w.alloc (.cells s.cs 49)).alloc (.cells m.cs 32) = W := ⟨_, rfl⟩
  rw [hW0] at h0
  have lm := h0.mv.ld
  have lp := h0.pv.ld
  have H0 : Hid (ESt w W0 s m) := h0
  have HV : Hid (s.ok ∧ m.wf) := ⟨hs, hm⟩
  have H : Hid (Src w (.slice a n c) l ∧ (∀ x ∈ l, 0 ≤ x ∧ x ≤ 255)) := ⟨h, hb⟩
  clear h hb hR hs hm h0
  go_enter Tryd.func5, Tryd.ntmps5
  go_wp2_with fail
  try rw [hW0]
  clear hW0
  refine (cut_any a n c l W0 (H.out.1.below H0.out.below)).mono ?_
  rintro _ Y ⟨n1, rfl, s1, hY⟩
  rw [hY]
  have HL : Hid (∀ x ∈ l.take 100, 0 ≤ x ∧ x ≤ 255) := take_b H.out.2 100
  obtain ⟨L, hL⟩ : ∃ L, l.take 100 = L := ⟨_, rfl⟩
  rw [hL] at s1 HL
  have S0 : Hid (Src W0 (.slice a n1 c) L) := s1
  clear s1 hY Y H hL
  go_wp2_with fail
  refine (encode_any s m _ H0.out.rl HV.out.1 HV.out.2).mono ?_
  rintro _ W1 ⟨v1, rfl, o1, b1⟩
  have H1 : Hid (ESt w W1 s m ∧ Src W1 (.slice a n1 c) L ∧ Src W1 v1 (encO s m)) := ⟨H0.out.later b1, S0.out.below b1, o1.src⟩
  have lm1 := H1.out.1.mv.ld
  have lp1 := H1.out.1.pv.ld
  clear o1 b1 H0 S0 lm lp
  go_wp2_with fail
  refine (eref_any s m _ H1.out.1.rl HV.out.1 HV.out.2).mono ?_
  rintro _ W2 ⟨v2, rfl, o2, b2⟩
  obtain ⟨E, hE⟩ : ∃ E, encE s m = E := ⟨_, rfl⟩
  obtain ⟨O, hO⟩ : ∃ O, encO s m = O := ⟨_, rfl⟩
  rw [hO] at o2 H1
  rw [hE]
  have H2 : Hid (ESt w W2 s m ∧ Src W2 (.slice a n1 c) L ∧ Src W2 v1 O ∧ Src W2 v2 O) := ⟨H1.out.1.later b2, H1.out.2.1.below b2, H1.out.2.2.below b2, o2.src⟩
  clear o2 b2 H1 lm1 lp1 hE hO
  go_wp2_with fail
  refine (decode_any a n1 c L W2 H2.out.1.rl H2.out.2.1 HL.out).mono ?_
  rintro _ W3 ⟨s3, m3, e3, rfl, d3, b3⟩
  obtain ⟨V3, W4, st3, st4, v4, p4, b4⟩ := two_new W3 (H2.out.1.rl.below b3 H2.out.1.rl.lt) s3 m3
  have st3' : (stS 49 (.pointer (some ⟨W3.heap.size, 0, none⟩)) (.agg s3.cs)).run Tryd.prog ((W3.alloc (.cells #[.int .u8 0, .int .u8 0, .int .u8 0, .int .u8 0, .int .u8 0, .int .u8 0] 49)).alloc (.cells #[.int .i64 0, .bool false, .bool false, .bool false, .bool false, .bool false, .bool false, .int .i64 0, .int .u64 0, .int .u32 0, .int .u64 0, .int .u16 0, .int .u8 0, .int .u8 0, .int .u8 0, .int .u8 0] 32)) = .ok () V3 := st3
  have H4 : Hid (ESt w W4 s m ∧ Src W4 (.slice a n1 c) L ∧ Src W4 v1 O ∧ Src W4 v2 O) := ⟨(H2.out.1.later b3).later b4, (H2.out.2.1.below b3).below b4, (H2.out.2.2.1.below b3).below b4, (H2.out.2.2.2.below b3).below b4⟩
  have X4 : Hid (MvAt W4 W3.heap.size s3 ∧ PvAt W4 (W3.heap.size + 1) m3 ∧ DcOut L s3 m3 e3) := ⟨v4, p4, d3⟩
  clear H2 b3 b4 v4 p4 d3 st3
  go_wp2_with fail
  refine (dref_any a n1 c L W4 H4.out.1.rl H4.out.2.1 HL.out).mono ?_
  rintro _ W5 ⟨s5, m5, e5, rfl, d5, b5⟩
  obtain ⟨rfl, rfl, rfl⟩ := d5.inj X4.out.2.2
  obtain ⟨V5, W6, st5, st6, v6, p6, b6⟩ := two_new W5 (H4.out.1.rl.below b5 H4.out.1.rl.lt) s5 m5
  have st5' : (stS 49 (.pointer (some ⟨W5.heap.size, 0, none⟩)) (.agg s5.cs)).run Tryd.prog ((W5.alloc (.cells #[.int .u8 0, .int .u8 0, .int .u8 0, .int .u8 0, .int .u8 0, .int .u8 0] 49)).alloc (.cells #[.int .i64 0, .bool false, .bool false, .bool false, .bool false, .bool false, .bool false, .int .i64 0, .int .u64 0, .int .u32 0, .int .u64 0, .int .u16 0, .int .u8 0, .int .u8 0, .int .u8 0, .int .u8 0] 32)) = .ok () V5 := st5
  have H6 : Hid (ESt w W6 s m ∧ Src W6 (.slice a n1 c) L) := ⟨(H4.out.1.later b5).later b6, (H4.out.2.1.below b5).below b6⟩
  have q1 := ((H4.out.2.2.1.below b5).below b6).string
  have q2 := ((H4.out.2.2.2.below b5).below b6).string
  have k1 := ((X4.out.1.below b5).below b6).ld
  have k2 := ((X4.out.2.1.below b5).below b6).ld
  have k3 := v6.ld
  have k4 := p6.ld
  have ep := eqP_any m5 m5
  rw [Bp.same_self] at ep
  have em := eqM_mac s5 s5
  rw [M6.same_self] at em
  have gp := guard_p .eql
  have gm := guard_m .eql
  clear H4 b5 b6 v6 p6 d5 st5 X4 st3' st4
  go_wp2_with fail
  refine (is_any a n1 c L W6 H6.out.2 HL.out).mono ?_
  rintro _ W7 ⟨rfl, b7⟩
  have H7 : Hid (ESt w W7 s m ∧ Src W7 (.slice a n1 c) L) := ⟨H6.out.1.later b7, H6.out.2.below b7⟩
  obtain ⟨I, hI⟩ : ∃ I, isB L = I := ⟨_, rfl⟩
  have EI : Hid (isB L = I) := hI
  rw [hI]
  clear b7 H6 q1 q2 k1 k2 k3 k4 st5' st6 hI
  go_wp2_with fail
  refine (iref_any a n1 c L W7 H7.out.2 HL.out).mono ?_
  rintro _ W8 ⟨rfl, b8⟩
  rw [EI.out]
  have H8 : Hid (ESt w W8 s m) := H7.out.1.later b8
  clear b8 H7
  go_wp2_with fail
  refine (awake_any _ H8.out.rl).mono ?_
  rintro _ W9 ⟨rfl, b9⟩
  have B9 : Hid (Below w.heap.size w W9) := below_over H8.out.below b9
  clear b9 H8
  go_wp2
  go_ret
  exact ⟨rfl, B9.out⟩
end Go.Proofs.YtfpoopllkmnagaaDoor
