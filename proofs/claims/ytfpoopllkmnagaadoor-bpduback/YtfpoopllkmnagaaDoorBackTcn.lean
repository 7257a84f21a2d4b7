/-
  BpduBack: there and back: the walk, of a kind.
-/
import Derived.Test.YtfpoopllkmnagaaDoorAwake
import Derived.Test.YtfpoopllkmnagaaDoorRead
import Derived.Test.YtfpoopllkmnagaaDoorRRd
namespace Go.Proofs.YtfpoopllkmnagaaDoor
set_option linter.unusedVariables false
set_option maxRecDepth 4000
set_option linter.unusedSimpArgs false
open Go.RowKit

attribute [local go_sem ↓] ldS32 ldS49 ldS28 ldS30 ldS83 stS32 stS49 stS28 stS30 eqP_eq nqP_eq eqM_eq nqM_eq nqV_eq nqT_eq slS_eq


set_option maxHeartbeats 16000000 in
theorem back_tcn (s : M6) (m : Bp) (a : Option Addr) (n c : Nat) (l : List Int) (w : World) (hR : Rl w) (hs : s.ok) (hm : m.wf) (h : Src w (.slice a n c) l) (hb : ∀ x ∈ l, 0 ≤ x ∧ x ≤ 255) (hk : s.kd = 1) (ho : okB m = true) (hK : m.k = 2) :
    Calls Tryd.prog 6 #[.agg s.cs, .agg m.cs, .slice a n c] w fun r w' => r = .returned (.bool true) ∧ Below w.heap.size w w' := by
  have h0 := ESt.start w s m hR
  obtain ⟨W0, hW0⟩ : ∃ W, (w.alloc (.cells s.cs 49)).alloc (.cells m.cs 32) = W := ⟨_, rfl⟩
  rw [hW0] at h0
  have lm := h0.mv.ld
  have lp := h0.pv.ld
  have H0 : Hid (ESt w W0 s m) := h0
  have HV : Hid (s.ok ∧ m.wf) := ⟨hs, hm⟩
  have H : Hid (Src w (.slice a n c) l ∧ (∀ x ∈ l, 0 ≤ x ∧ x ≤ 255)) := ⟨h, hb⟩
  have EE : Hid (s.kd = 1 ∧ okB m = true ∧ m.k = 2) := ⟨hk, ho, hK⟩
  clear hk ho hK
  clear h hb hR hs hm h0
  go_enter Tryd.func6, Tryd.ntmps6
  go_wp2_with fail
  try rw [hW0]
  clear hW0
  refine (cut_any a n c l W0 (H.out.1.below H0.out.below)).mono ?_
  rintro _ Y ⟨n1, rfl, s1, hY⟩
  rw [hY]
  have HL : Hid (∀ x ∈ l.take 100, 0 ≤ x ∧ x ≤ 255) := take_b H.out.2 100
  obtain ⟨L, hL⟩ : ∃ L, l.take 100 = L := ⟨_, rfl⟩
  rw [hL] at s1 HL
  have S0 : Hid (Src W0 (.slice a n1 c) L) := s1
  clear s1 hY Y H hL
  go_wp2_with fail
  refine (encode_any s m _ H0.out.rl HV.out.1 HV.out.2).mono ?_
  rintro _ W1 ⟨v1, rfl, o1, b1⟩
  have eE : encE s m = 0 := by unfold encE chkP; rw [if_pos EE.out.1, EE.out.2.1]; rfl
  have eO : encO s m = menc s m := by unfold encO; rw [if_pos EE.out.1, if_pos EE.out.2.1]
  have hlen : (menc s m).length = 21 := by rw [menc_len EE.out.2.1, EE.out.2.2]; rfl
  rw [eO] at o1
  rw [eE]
  obtain ⟨a1, m1, c1, rfl⟩ := src_form o1.src
  obtain ⟨hm1, _, _⟩ := src_short o1.src
  obtain rfl : m1 = 21 := by omega
  obtain ⟨X, hX⟩ : ∃ X, menc s m = X := ⟨_, rfl⟩
  have EX : Hid (DcOk X s m ∧ (∀ x ∈ X, 0 ≤ x ∧ x ≤ 255) ∧ 21 ≤ X.length) := by
    rw [← hX]
    exact ⟨⟨HV.out.1, EE.out.1, HV.out.2, EE.out.2.1, rfl⟩, menc_ok HV.out.1 HV.out.2, by omega⟩
  rw [hX] at o1
  have H1 : Hid (ESt w W1 s m ∧ Src W1 (.slice a n1 c) L ∧ Src W1 (.slice a1 21 c1) X) := ⟨H0.out.later b1, S0.out.below b1, o1.src⟩
  clear o1 b1 H0 S0 lm lp eE eO hlen hm1 hX
  go_wp2_with fail
  refine (decode_any _ _ _ X W1 H1.out.1.rl H1.out.2.2 EX.out.2.1).mono ?_
  rintro _ W2 ⟨s2, m2, e2, rfl, d2, b2⟩
  obtain ⟨rfl, rfl, rfl⟩ := d2.inj (.inr (.inl ⟨EX.out.2.2, EX.out.1, rfl⟩))
  obtain ⟨V2, W3, st2, st3, v3, p3, b3⟩ := two_new W2 (H1.out.1.rl.below b2 H1.out.1.rl.lt) s2 m2
  have st2' : (stS 49 (.pointer (some ⟨W2.heap.size, 0, none⟩)) (.agg s2.cs)).run Tryd.prog ((W2.alloc (.cells #[.int .u8 0, .int .u8 0, .int .u8 0, .int .u8 0, .int .u8 0, .int .u8 0] 49)).alloc (.cells #[.int .i64 0, .bool false, .bool false, .bool false, .bool false, .bool false, .bool false, .int .i64 0, .int .u64 0, .int .u32 0, .int .u64 0, .int .u16 0, .int .u8 0, .int .u8 0, .int .u8 0, .int .u8 0] 32)) = .ok () V2 := st2
  have H3 : Hid (ESt w W3 s2 m2 ∧ Src W3 (.slice a n1 c) L ∧ Src W3 (.slice a1 21 c1) X) := ⟨(H1.out.1.later b2).later b3, (H1.out.2.1.below b2).below b3, (H1.out.2.2.below b2).below b3⟩
  have k1 := v3.ld
  have k2 := p3.ld
  have k3 := H3.out.1.mv.ld
  have k4 := H3.out.1.pv.ld
  have ep := nqP_any m2 m2
  rw [Bp.same_self] at ep
  have em := nqM_mac s2 s2
  rw [M6.same_self] at em
  have gp := guard_p .neq
  have gm := guard_m .neq
  clear st2 v3 p3 d2 b2 b3 H1
  go_wp2_with fail
  refine (is_any _ _ _ X W3 H3.out.2.2 EX.out.2.1).mono ?_
  rintro _ W4 ⟨rfl, b4⟩
  have eI : isB X = true := by
    have := (dc_fwd EX.out.1).2.2
    unfold frB at this
    simp only [Bool.and_eq_true] at this
    exact this.1
  rw [eI]
  have H4 : Hid (ESt w W4 s2 m2 ∧ Src W4 (.slice a n1 c) L) := ⟨H3.out.1.later b4, H3.out.2.1.below b4⟩
  have k0 := H4.out.1.pv.c0
  rw [EE.out.2.2] at k0
  have k5 := H4.out.1.pv.ld
  clear b4 H3 k1 k2 k3 k4 st2' st3 eI ep em gp gm
  go_wp2_with fail
  refine (bytes_any m2 _ H4.out.1.rl HV.out.2).mono ?_
  rintro _ W5 ⟨v5, rfl, o5, b5⟩
  have eC : chkP m2 = 0 := by unfold chkP; rw [EE.out.2.1]; rfl
  have eM : mbO m2 = mbytes m2 := by unfold mbO; rw [EE.out.2.1]; rfl
  rw [eM] at o5
  rw [eC]
  have hl5 : (mbytes m2).length = 4 := by rw [mbytes_len EE.out.2.1, EE.out.2.2]; rfl
  obtain ⟨a5, n5, c5, rfl⟩ := src_form o5.src
  obtain ⟨hn5, _, _⟩ := src_short o5.src
  obtain rfl : n5 = 4 := by omega
  have H5 : Hid (ESt w W5 s2 m2 ∧ Src W5 (.slice a n1 c) L) := ⟨H4.out.1.later b5, H4.out.2.below b5⟩
  clear o5 b5 H4 k0 k5 eC eM hl5 hn5
  go_wp2_with fail
  refine (decode_any a n1 c L W5 H5.out.1.rl H5.out.2 HL.out).mono ?_
  rintro _ X1 ⟨t1, u1, e1, rfl, d1, bx⟩
  obtain ⟨VX, X2, sx1, sx2, vx, px, by2⟩ := two_new X1 (H5.out.1.rl.below bx H5.out.1.rl.lt) t1 u1
  have sx1' : (stS 49 (.pointer (some ⟨X1.heap.size, 0, none⟩)) (.agg t1.cs)).run Tryd.prog ((X1.alloc (.cells #[.int .u8 0, .int .u8 0, .int .u8 0, .int .u8 0, .int .u8 0, .int .u8 0] 49)).alloc (.cells #[.int .i64 0, .bool false, .bool false, .bool false, .bool false, .bool false, .bool false, .int .i64 0, .int .u64 0, .int .u32 0, .int .u64 0, .int .u16 0, .int .u8 0, .int .u8 0, .int .u8 0, .int .u8 0] 32)) = .ok () VX := sx1
  have HX : Hid (ESt w X2 s2 m2 ∧ Src X2 (.slice a n1 c) L ∧ DcOut L t1 u1 e1) := ⟨(H5.out.1.later bx).later by2, (H5.out.2.below bx).below by2, d1⟩
  have lx1 := vx.ld
  have lx2 := px.ld
  clear sx1 vx px d1 bx by2 H5
  by_cases he : e1 = 0
  rotate_left
  · have hz : t1 = zeroM ∧ u1 = zeroP := by
      rcases HX.out.2.2 with ⟨_, h1, h2, _⟩ | ⟨_, _, h3⟩ | ⟨_, _, h1, h2, _⟩
      · exact ⟨h1, h2⟩
      · exact absurd h3 he
      · exact ⟨h1, h2⟩
    obtain ⟨rfl, rfl⟩ := hz
    have em : ∀ W, (eqM zeroM.v (.agg #[.int .u8 0, .int .u8 0, .int .u8 0, .int .u8 0, .int .u8 0, .int .u8 0])).run Tryd.prog W = .ok (.bool true) W := fun W => by have := eqM_mac zeroM zeroM W; rw [M6.same_self] at this; exact this
    have ep : ∀ W, (eqP (.agg zeroP.cs) (.agg #[.int .i64 0, .bool false, .bool false, .bool false, .bool false, .bool false, .bool false, .int .i64 0, .int .u64 0, .int .u32 0, .int .u64 0, .int .u16 0, .int .u8 0, .int .u8 0, .int .u8 0, .int .u8 0])).run Tryd.prog W = .ok (.bool true) W := fun W => by have := eqP_any zeroP zeroP W; rw [Bp.same_self] at this; exact this
    have gp := guard_p .eql
    have gm : ∀ (x y : Operand) (w : World), (eqGuard .eql 49 x y zeroM.v (.agg #[.int .u8 0, .int .u8 0, .int .u8 0, .int .u8 0, .int .u8 0, .int .u8 0])).run Tryd.prog w = .ok () w := fun x y w => guard_m .eql x y zeroM zeroM w
    go_wp2_with fail
    refine (awake_any _ HX.out.1.rl).mono ?_
    rintro _ X3 ⟨rfl, b3⟩
    have B3 : Hid (Below w.heap.size w X3) := below_over HX.out.1.below b3
    clear b3 HX lx1 lx2 sx1' sx2
    go_wp2
    go_ret
    exact ⟨rfl, B3.out⟩
  subst he
  have DK : Hid (DcOk L t1 u1) := by
    rcases HX.out.2.2 with ⟨_, _, _, h⟩ | ⟨_, h2, _⟩ | ⟨_, _, _, _, h⟩
    · cases h
    · exact h2
    · cases h
  go_wp2_with fail
  refine (encode_any t1 u1 _ HX.out.1.rl DK.out.so DK.out.wf).mono ?_
  rintro _ X3 ⟨v3, rfl, o3, b3⟩
  have eE : encE t1 u1 = 0 := by unfold encE chkP; rw [if_pos DK.out.kd, DK.out.ok]; rfl
  have eO : encO t1 u1 = L := by unfold encO; rw [if_pos DK.out.kd, if_pos DK.out.ok]; exact DK.out.eq
  rw [eO] at o3
  rw [eE]
  have q3 := o3.src.string
  have q4 := (HX.out.2.1.below b3).string
  have H3 : Hid (ESt w X3 s2 m2) := HX.out.1.later b3
  clear o3 b3 HX lx1 lx2 sx1' sx2 eE eO
  go_wp2_with fail
  refine (awake_any _ H3.out.rl).mono ?_
  rintro _ X4 ⟨rfl, b4⟩
  have B4 : Hid (Below w.heap.size w X4) := below_over H3.out.below b4
  clear b4 H3 q3 q4
  go_wp2
  go_ret
  exact ⟨rfl, B4.out⟩
end Go.Proofs.YtfpoopllkmnagaaDoor
