/-
  VectorBack: a number is made of its parts, and has the parts that it is made of: the walk.
-/
import Derived.Test.YtdpaclfnjiegbabAwake
namespace Go.Proofs.Ytdpaclfnjiegbab
set_option linter.unusedVariables false
set_option maxRecDepth 4000
set_option linter.unusedSimpArgs false
open Go.RowKit

theorem num_parts (n : Int) : num (n / 281474976710656) (n / 1099511627776 % 256) (n / 4294967296 % 256) (n / 16777216 % 256) (n / 65536 % 256) (n / 256 % 256) (n % 256) = n := by
  unfold num
  omega
theorem num_in (q a b c d e f : Int) (hq : 0 ≤ q ∧ q ≤ 65535) (ha : 0 ≤ a ∧ a ≤ 255) (hb : 0 ≤ b ∧ b ≤ 255) (hc : 0 ≤ c ∧ c ≤ 255) (hd : 0 ≤ d ∧ d ≤ 255) (he : 0 ≤ e ∧ e ≤ 255) (hf : 0 ≤ f ∧ f ≤ 255) :
    (0 ≤ num q a b c d e f ∧ num q a b c d e f ≤ 18446744073709551615) ∧ num q a b c d e f / 281474976710656 = q ∧ num q a b c d e f / 1099511627776 % 256 = a ∧ num q a b c d e f / 4294967296 % 256 = b ∧ num q a b c d e f / 16777216 % 256 = c ∧ num q a b c d e f / 65536 % 256 = d ∧ num q a b c d e f / 256 % 256 = e ∧ num q a b c d e f % 256 = f := by
  unfold num
  omega
theorem byte_in (n : Int) : 0 ≤ n % 256 ∧ n % 256 ≤ 255 := by omega
set_option maxHeartbeats 2000000 in
theorem VectorBack_walk (n q a b c d e f : Int) (w : World) (hn : 0 ≤ n ∧ n ≤ 18446744073709551615) (hq : 0 ≤ q ∧ q ≤ 65535) (ha : 0 ≤ a ∧ a ≤ 255) (hb : 0 ≤ b ∧ b ≤ 255) (hc : 0 ≤ c ∧ c ≤ 255) (hd : 0 ≤ d ∧ d ≤ 255) (he : 0 ≤ e ∧ e ≤ 255) (hf : 0 ≤ f ∧ f ≤ 255) :
    Calls Try.prog 3 #[.int .u64 n, .int .u16 q, .agg #[.int .u8 a, .int .u8 b, .int .u8 c, .int .u8 d, .int .u8 e, .int .u8 f]] w fun e w' => e = .returned (.bool true) ∧ Below w.heap.size w w' := by
  obtain ⟨h0, h1, h2, h3, h4, h5, h6, h7⟩ := num_in q a b c d e f hq ha hb hc hd he hf
  obtain ⟨N, hN⟩ : ∃ N, num q a b c d e f = N := ⟨_, rfl⟩
  have P1 : Hid (∀ W : World, _) := fun W : World => id_any q a b c d e f W hq ha hb hc hd he hf
  rw [hN] at h0 h1 h2 h3 h4 h5 h6 h7 P1
  have P2 : Hid (∀ W : World, _) := fun W : World => priority_any n W hn
  have P3 : Hid (∀ W : World, _) := fun W : World => address_any n W hn
  have P4 : Hid (∀ W : World, _) := fun W : World => id_any (n / 281474976710656) (n / 1099511627776 % 256) (n / 4294967296 % 256) (n / 16777216 % 256) (n / 65536 % 256) (n / 256 % 256) (n % 256) W (by omega) (byte_in _) (byte_in _) (byte_in _) (byte_in _) (byte_in _) (byte_in _)
  rw [num_parts] at P4
  have P5 : Hid (∀ W : World, _) := fun W : World => priority_any N W h0
  have P6 : Hid (∀ W : World, _) := fun W : World => address_any N W h0
  rw [h1] at P5
  rw [h2, h3, h4, h5, h6, h7] at P6
  clear h0 h1 h2 h3 h4 h5 h6 h7 hN hn hq ha hb hc hd he hf
  have hs := eq6_self
  go_enter Try.func3, Try.ntmps3
  go_wp2_with fail
  refine (P1.out _).mono ?_
  rintro _ X ⟨rfl, b1⟩
  have r1 : RvAt X w.heap.size 25 #[.int .u8 a, .int .u8 b, .int .u8 c, .int .u8 d, .int .u8 e, .int .u8 f] := (RvAt.new w _ _).below b1
  have H : Hid (Below w.heap.size w X) := below_over ((Below.refl _ _).alloc (Nat.le_refl _) _) b1
  have c0 := fun q : Later X => (r1.below q.below).cell 0 (.int .u8 a) rfl
  have c1 := fun q : Later X => (r1.below q.below).cell 1 (.int .u8 b) rfl
  have c2 := fun q : Later X => (r1.below q.below).cell 2 (.int .u8 c) rfl
  have c3 := fun q : Later X => (r1.below q.below).cell 3 (.int .u8 d) rfl
  have c4 := fun q : Later X => (r1.below q.below).cell 4 (.int .u8 e) rfl
  have c5 := fun q : Later X => (r1.below q.below).cell 5 (.int .u8 f) rfl
  clear b1 r1
  go_wp2_with fail
  refine wp_region_later (by kernel_rfl) (by kernel_rfl) ?_
  repeat (go_big_quiet_step (first
    | exact rfl
    | (go_at_call 5; with_reducible exact Calls.later_of (P2.out _))
    | (go_at_call 6; with_reducible exact Calls.later_of (P3.out _))
    | (go_at_call 4; with_reducible exact Calls.later_of (P4.out _))
    | (go_at_call 5; with_reducible exact Calls.later_of (P5.out _))
    | (go_at_call 6; with_reducible exact Calls.later_of (P6.out _))
    | (go_at_call 7; with_reducible exact Calls.later_of (awake_any _))))
  refine wpQuiet_nil ?_
  intro _ hw'
  obtain ⟨x, rfl⟩ := hw'
  go_wp2
  go_ret
  exact ⟨rfl, below_later H.out x⟩
end Go.Proofs.Ytdpaclfnjiegbab
