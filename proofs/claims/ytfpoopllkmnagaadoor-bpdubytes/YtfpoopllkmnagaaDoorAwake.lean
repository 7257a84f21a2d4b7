/-
  The walks of the page's example, and of the statements' own cut.
-/
import Derived.Test.YtfpoopllkmnagaaDoorDecode
import Derived.Test.YtfpoopllkmnagaaDoorRefDec
import Derived.Test.YtfpoopllkmnagaaDoorRefIs
import Derived.Test.YtfpoopllkmnagaaDoorRefEnc
namespace Go.Proofs.YtfpoopllkmnagaaDoor
set_option linter.unusedVariables false
set_option maxRecDepth 4000
set_option linter.unusedSimpArgs false
open Go.RowKit

set_option maxHeartbeats 1000000 in
theorem cut_any (a : Option Addr) (n c : Nat) (l : List Int) (w : World) (h : Src w (.slice a n c) l) :
    Calls Tryd.prog 11 #[.slice a n c] w fun r w' => ∃ n', r = .returned (.slice a n' c) ∧ Src w (.slice a n' c) (l.take 100) ∧ w' = w := by
  obtain ⟨hn, hc, hm⟩ := src_short h
  have hm' : c ≤ 9223372036854775807 := by unfold maxLen at hm; omega
  by_cases h4 : 100 < n
  · obtain ⟨b, o, rfl, _, _⟩ := src_some h (by omega)
    have HS : Hid (Src w (.slice (some ⟨b, o, none⟩) 100 c) (l.take 100)) := h.take 100 (by omega) (by simp)
    have h5 : (100 : Int) ≤ (n : Int) := by omega
    have h6 : (100 : Int) ≤ (c : Int) := by omega
    have h7 : ¬ (n : Int) ≤ 100 := by omega
    have h8 : ¬ (n : Int) < 100 := by omega
    clear h hn
    go_enter Tryd.func11, Tryd.ntmps11
    go_wp2
    all_goals try omega
    go_ret
    exact ⟨100, rfl, HS.out, by first | trivial | rfl⟩
  · have HS : Hid (Src w (.slice a n c) (l.take 100)) := by
      show Src _ _ _
      rw [List.take_of_length_le (by omega)]
      exact h
    have h5 : (n : Int) ≤ 100 := by omega
    have h6 : (n : Int) ≤ (c : Int) := by omega
    have h7 : ¬ (100 : Int) < (n : Int) := by omega
    clear h hn
    cases a
    all_goals
      go_enter Tryd.func11, Tryd.ntmps11
      go_wp2
      all_goals try omega
      go_ret
      exact ⟨n, rfl, HS.out, by first | trivial | rfl⟩

/-- The page's station. -/
def s0 : M6 := ⟨2, 0, 0, 0, 0, 1⟩
theorem s0_ok : s0.ok := by
  intro x hx
  simp [s0, M6.l] at hx
  omega
theorem s0_enc : encE s0 (kP 2) = 0 ∧ encO s0 (kP 2) = [1, 128, 194, 0, 0, 0, 2, 0, 0, 0, 0, 1, 0, 7, 66, 66, 3, 0, 0, 0, 128] := by decide +kernel
theorem s0_dc : DcOk [1, 128, 194, 0, 0, 0, 2, 0, 0, 0, 0, 1, 0, 7, 66, 66, 3, 0, 0, 0, 128] s0 (kP 2) := ⟨s0_ok, by decide +kernel, kP_wf 2, by decide +kernel, by decide +kernel⟩
theorem s0_out {s : M6} {m : Bp} {e : Int} (h : DcOut [1, 128, 194, 0, 0, 0, 2, 0, 0, 0, 0, 1, 0, 7, 66, 66, 3, 0, 0, 0, 128] s m e) : s = s0 ∧ m = kP 2 ∧ e = 0 :=
  h.inj (.inr (.inl ⟨by decide, s0_dc, rfl⟩))
theorem s0_ok' : ∀ x ∈ ([1, 128, 194, 0, 0, 0, 2, 0, 0, 0, 0, 1, 0, 7, 66, 66, 3, 0, 0, 0, 128] : List Int), 0 ≤ x ∧ x ≤ 255 := by decide +kernel
theorem s0_is : isB [1, 128, 194, 0, 0, 0, 2, 0, 0, 0, 0, 1, 0, 7, 66, 66, 3, 0, 0, 0, 128] = true := by decide +kernel
theorem s0_bs : bs [1, 128, 194, 0, 0, 0, 2, 0, 0, 0, 0, 1, 0, 7, 66, 66, 3, 0, 0, 0, 128] = ⟨#[1, 128, 194, 0, 0, 0, 2, 0, 0, 0, 0, 1, 0, 7, 66, 66, 3, 0, 0, 0, 128]⟩ := by decide +kernel

/-- Two new variables, an address's and a message's, and what is stored into them. -/
theorem two_new (W : World) (hR : Rl W) (s : M6) (m : Bp) : ∃ V W', (stS 49 (.pointer (some ⟨W.heap.size, 0, none⟩)) s.v).run Tryd.prog ((W.alloc (.cells #[.int .u8 0, .int .u8 0, .int .u8 0, .int .u8 0, .int .u8 0, .int .u8 0] 49)).alloc (.cells #[.int .i64 0, .bool false, .bool false, .bool false, .bool false, .bool false, .bool false, .int .i64 0, .int .u64 0, .int .u32 0, .int .u64 0, .int .u16 0, .int .u8 0, .int .u8 0, .int .u8 0, .int .u8 0] 32)) = .ok () V ∧ (stS 32 (.pointer (some ⟨W.heap.size + 1, 0, none⟩)) (.agg m.cs)).run Tryd.prog V = .ok () W' ∧ MvAt W' W.heap.size s ∧ PvAt W' (W.heap.size + 1) m ∧ Below W.heap.size W W' := by
  have h := DSt.start W hR
  obtain ⟨h1, h2, h3⟩ := h.two s m
  exact ⟨_, _, h.zm.st (n := s), h.st2 s m, h1, h2, h3⟩

attribute [local go_sem ↓] ldS32 ldS49 ldS28 ldS30 ldS83 stS32 stS49 stS28 stS30 eqP_eq nqP_eq eqM_eq nqM_eq nqV_eq nqT_eq slS_eq

set_option maxHeartbeats 4000000 in
theorem awake_any (w : World) (hR : Rl w) :
    Calls Tryd.prog 10 #[] w fun r w' => r = .returned (.bool true) ∧ Below w.heap.size w w' := by
  have HR : Hid (Rl w) := hR
  obtain ⟨L, hL⟩ : ∃ L : List Int, [1, 128, 194, 0, 0, 0, 2, 0, 0, 0, 0, 1, 0, 7, 66, 66, 3, 0, 0, 0, 128] = L := ⟨_, rfl⟩
  have EL : Hid ([1, 128, 194, 0, 0, 0, 2, 0, 0, 0, 0, 1, 0, 7, 66, 66, 3, 0, 0, 0, 128] = L) := hL
  have EB : Hid (bs L = ⟨#[1, 128, 194, 0, 0, 0, 2, 0, 0, 0, 0, 1, 0, 7, 66, 66, 3, 0, 0, 0, 128]⟩ ∧ (∀ x ∈ L, 0 ≤ x ∧ x ≤ 255) ∧ isB L = true) := by rw [← hL]; exact ⟨s0_bs, s0_ok', s0_is⟩
  have ED : Hid (∀ s m e, DcOut L s m e → s = s0 ∧ m = kP 2 ∧ e = 0) := by rw [← hL]; exact fun s m e h => s0_out h
  have EE : Hid (encE s0 (kP 2) = 0 ∧ encO s0 (kP 2) = L) := by rw [← hL]; exact s0_enc
  clear hL EL hR
  go_enter Tryd.func10, Tryd.ntmps10
  go_wp2_with fail
  refine (encode_any s0 (kP 2) w HR.out s0_ok (kP_wf 2)).mono ?_
  rintro _ W1 ⟨v1, rfl, o1, b1⟩
  rw [EE.out.2] at o1
  rw [EE.out.1]
  obtain ⟨a1, n1, c1, rfl⟩ := src_form o1.src
  have O1 : Hid (Src W1 (.slice a1 n1 c1) L ∧ Below w.heap.size w W1 ∧ Rl W1) := ⟨o1.src, b1, HR.out.below b1 HR.out.lt⟩
  clear o1 b1
  go_wp2_with fail
  refine (decode_any a1 n1 c1 L W1 O1.out.2.2 O1.out.1 EB.out.2.1).mono ?_
  rintro _ W2 ⟨s, m, e, rfl, dc, b2⟩
  obtain ⟨rfl, rfl, rfl⟩ := ED.out s m e dc
  have R2 : Hid (Rl W2) := O1.out.2.2.below b2 O1.out.2.2.lt
  obtain ⟨V, W3, st1, st2, v3, p3, b3⟩ := two_new W2 R2.out s0 (kP 2)
  have O3 : Hid (Src W3 (.slice a1 n1 c1) L ∧ Below w.heap.size w W3 ∧ Rl W3 ∧ MvAt W3 W2.heap.size s0 ∧ PvAt W3 (W2.heap.size + 1) (kP 2)) := ⟨(O1.out.1.below b2).below b3, below_over (below_over O1.out.2.1 b2) b3, R2.out.below b3 R2.out.lt, v3, p3⟩
  have st1' : (stS 49 (.pointer (some ⟨W2.heap.size, 0, none⟩)) (.agg s0.cs)).run Tryd.prog ((W2.alloc (.cells #[.int .u8 0, .int .u8 0, .int .u8 0, .int .u8 0, .int .u8 0, .int .u8 0] 49)).alloc (.cells #[.int .i64 0, .bool false, .bool false, .bool false, .bool false, .bool false, .bool false, .int .i64 0, .int .u64 0, .int .u32 0, .int .u64 0, .int .u16 0, .int .u8 0, .int .u8 0, .int .u8 0, .int .u8 0] 32)) = .ok () V := st1
  clear dc b2 b3 v3 p3 O1 R2 st1
  go_wp2_with fail
  refine (read_any none 0 0 [] W3 O3.out.2.2.1 (src_nil _) (by simp)).mono ?_
  rintro _ W4 ⟨m, e, rfl, ro, b4⟩
  have re : m = zeroP ∧ e = 6 := by
    rcases ro with ⟨_, h1, h2⟩ | ⟨h, _⟩ | ⟨h, _⟩
    · exact ⟨h1, h2⟩
    · simp at h
    · simp at h
  obtain ⟨rfl, rfl⟩ := re
  obtain ⟨W5, st5, r5, b5, z5⟩ := row_new rt32 W4 #[.int .i64 0, .bool false, .bool false, .bool false, .bool false, .bool false, .bool false, .int .i64 0, .int .u64 0, .int .u32 0, .int .u64 0, .int .u16 0, .int .u8 0, .int .u8 0, .int .u8 0, .int .u8 0] zeroP.cs rfl rfl zeroP.one
  have O5 : Hid (Src W5 (.slice a1 n1 c1) L ∧ Below w.heap.size w W5 ∧ Rl W5 ∧ MvAt W5 W2.heap.size s0 ∧ PvAt W5 (W2.heap.size + 1) (kP 2)) := ⟨(O3.out.1.below b4).below b5, below_over (below_over O3.out.2.1 b4) b5, (O3.out.2.2.1.below b4 O3.out.2.2.1.lt).below b5 (O3.out.2.2.1.below b4 O3.out.2.2.1.lt).lt, (O3.out.2.2.2.1.below b4).below b5, (O3.out.2.2.2.2.below b4).below b5⟩
  have q5 := O5.out.1.string
  rw [EB.out.1] at q5
  have l5 := O5.out.2.2.2.1.ld
  have l6 := O5.out.2.2.2.2.ld
  have em : ∀ W, (eqM s0.v (.agg #[.int .u8 2, .int .u8 0, .int .u8 0, .int .u8 0, .int .u8 0, .int .u8 1])).run Tryd.prog W = .ok (.bool true) W := fun W => by have := eqM_mac s0 s0 W; rw [M6.same_self] at this; exact this
  have ep : ∀ W, (eqP (.agg (kP 2).cs) (.agg #[.int .i64 2, .bool false, .bool false, .bool false, .bool false, .bool false, .bool false, .int .i64 0, .int .u64 0, .int .u32 0, .int .u64 0, .int .u16 0, .int .u8 0, .int .u8 0, .int .u8 0, .int .u8 0])).run Tryd.prog W = .ok (.bool true) W := fun W => by have := eqP_any (kP 2) (kP 2) W; rw [Bp.same_self] at this; exact this
  have gp := guard_p .eql
  have gm : ∀ (x y : Operand) (w : World), (eqGuard .eql 49 x y s0.v (.agg #[.int .u8 2, .int .u8 0, .int .u8 0, .int .u8 0, .int .u8 0, .int .u8 1])).run Tryd.prog w = .ok () w := fun x y w => guard_m .eql x y s0 s0 w
  clear r5 b4 b5 z5 O3 ro st1' st2
  go_wp2_with fail
  refine (is_any a1 n1 c1 L W5 O5.out.1 EB.out.2.1).mono ?_
  rintro _ W6 ⟨rfl, b6⟩
  rw [EB.out.2.2]
  have O6 : Hid (Below w.heap.size w W6 ∧ Rl W6) := ⟨below_over O5.out.2.1 b6, O5.out.2.2.1.below b6 O5.out.2.2.1.lt⟩
  clear b6 O5 q5 l5 l6 st5
  go_wp2_with fail
  refine (check_any zeroP W6 O6.out.2).mono ?_
  rintro _ W7 ⟨rfl, b7⟩
  rw [show chkP zeroP = 50 from rfl]
  have O7 : Hid (Below w.heap.size w W7) := below_over O6.out.1 b7
  clear b7 O6
  go_wp2
  go_ret
  exact ⟨rfl, O7.out⟩
end Go.Proofs.YtfpoopllkmnagaaDoor
