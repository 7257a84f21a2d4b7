/-
  SendMay: its walk, for every tree.
-/
import Derived.Test.YtllmadgonobdnaaFin
import Derived.Test.YtllmadgonobdnaaOpen
namespace Go.Proofs.Ytllmadgonobdnaa
set_option linter.unusedVariables false
set_option maxRecDepth 4000
set_option linter.unusedSimpArgs false
open Go.RowKit

attribute [local go_sem ↓] ldP stP ldT stT ldM eqgM neqM
set_option maxHeartbeats 16000000 in
theorem SendMay_walk (h : Hd) (a0 : Option Addr) (n0 c0 : Nat) (l : List Pt) (i : Int) (w : World) (hs : SlAt w a0 n0 c0 l) (hi : -9223372036854775808 ≤ i ∧ i ≤ 9223372036854775807) :
    Calls Try.prog 4 #[.agg (trc h (.slice a0 n0 c0)), .int .i64 i] w fun r w' => r = .returned (.bool true) ∧ Below w.heap.size w w' := by
  obtain ⟨W, hW, r0, bW, zW⟩ := one_t w h (.slice a0 n0 c0)
  have l0 := r0.tld
  have H : Hid (SlAt W a0 n0 c0 l ∧ RvAt W w.heap.size 31 (trc h (.slice a0 n0 c0)) ∧ Below w.heap.size w W) := ⟨hs.below bW, r0, bW⟩
  clear hs r0 bW zW hi
  go_enter Try.func4, Try.ntmps4
  go_wp2_with fail
  refine (few_any h a0 n0 c0 l W H.out.1).mono ?_
  rintro _ W1 ⟨v, rfl, o1, b1⟩
  obtain ⟨ls, a, n, c, V, hlen, hn, rfl, sV, t, gV⟩ := few_in H.out.2.1 H.out.2.2 (Nat.le_refl _) b1 o1
  have G : Hid (TQ w V w.heap.size h a n c ls) := t
  have HN : Hid (ls.length = n) := hlen
  have hn1 : n ≤ 1000 := by omega
  have hn10 : n ≤ 10 := hn
  have lV := t.ld
  clear o1 b1 gV t l0 H hlen hW hn
  obtain ⟨O1, hO1⟩ : ∃ z, ptxI h ls i = z := ⟨_, rfl⟩
  obtain ⟨U1, hU1⟩ : ∃ z, ptxV h ls i = z := ⟨_, rfl⟩
  have EO1 : Hid (ptxI h ls i = O1) := hO1
  have EU1 : Hid (ptxV h ls i = U1) := hU1
  clear hO1 hU1
  go_wp2_with fail
  refine (ptx_any h a n c ls i V G.out.sl hn1).mono ?_
  rintro _ X1 ⟨a1, c1, v1, rfl, s1, u1, b1⟩
  rw [EO1.out] at s1 ⊢
  rw [EU1.out] at u1
  obtain ⟨Y1, y1, t1, d1⟩ := TQ.new (w := w) (h := h) s1 (below_over G.out.bel b1)
  obtain ⟨i1, hi1⟩ : ∃ z, X1.heap.size = z := ⟨_, rfl⟩
  rw [hi1] at y1 t1
  have G1 : Hid (TQ w Y1 w.heap.size h a n c ls ∧ OutAt Y1 v1 U1) := ⟨(G.out.below b1).below d1, u1.below d1⟩
  have F : Hid (Below w.heap.size w Y1) := G1.out.1.bel
  clear s1 b1 t1 d1 u1 G lV sV
  cases U1 with
  | none =>
    have e : v1 = .slice none 0 0 := G1.out.2
    subst e
    clear G1
    go_wp2_with fail
    refine wp_loop_rounds 1 ?_
    rw [rounds_succ]
    go_wp2_with fail
    refine (awake_any _).mono ?_
    rintro _ VA ⟨rfl, bA⟩
    have FA : Hid (Below w.heap.size w VA) := below_over F.out bA
    clear bA
    go_wp2
    go_ret
    exact ⟨rfl, FA.out⟩
  | some r =>
    obtain ⟨hin, hr, p, hp⟩ := ptxV_is EU1.out
    rw [HN.out] at hin
    obtain ⟨b, e, ro⟩ := G1.out.2
    subst e
    have hw : (Lit.int .i64 i).wf = true := by
      have := wi_k (k := i.toNat) (by omega)
      rw [show ((i.toNat : Nat) : Int) = i from Int.toNat_of_nonneg hin.1] at this
      exact this
    rw [hr, outI_is hw] at ro
    have f0 := fun q : Later Y1 => (ro.below q.below).num (j := 0) (k := .i64) rfl
    rw [show (outR i hw (msgI ls i)).nm 0 = i from rfl] at f0
    have f1 := fun q : Later Y1 => (ro.below q.below).oM
    have f2 := fun q : Later Y1 => (G1.out.1.below q.below).ld
    have P1 : Hid (∀ q : Later Y1, Calls Try.prog 17 #[.agg (msgI ls i).cs] q.val fun r w' => r = .returned (.int .i64 0) ∧ Below q.val.heap.size q.val w') := fun q => by rw [hp]; exact chk_any p q.val
    have P2 : Hid (∀ q : Later Y1, Calls Try.prog 14 #[.agg (trc h (.slice a n c)), .int .i64 i] q.val fun r w' => r = .returned (.agg (msgI ls i).cs) ∧ Below q.val.heap.size q.val w') := fun q => mes_any h a n c ls i q.val (G1.out.1.below q.below).sl hn1
    obtain ⟨M, hM⟩ : ∃ z, msgI ls i = z := ⟨_, rfl⟩
    rw [hM] at f1 P1 P2
    have em : M.eq M = true := Row.eq_self M
    have ei : (i != i) = false := by simp
    clear G1 hM hp hr ro hin EU1 EO1
    go_wp2_with fail
    refine wp_loop_rounds 2 ?_
    rw [rounds_succ]
    go_wp2_with fail
    refine wp_region_later (by kernel_rfl) (by kernel_rfl) ?_
    repeat (go_big_quiet_step (first | exact rfl | (go_at_call 17; with_reducible exact Calls.later_of (P1.out _)) | (go_at_call 14; with_reducible exact Calls.later_of (P2.out _))))
    refine wpQuiet_nil ?_
    rintro _ ⟨z, rfl⟩
    have FZ : Hid (Below w.heap.size w z.val) := below_over F.out z.below
    clear f0 f1 f2 P1 P2
    go_wp2_with fail
    rw [rounds_succ]
    go_wp2_with fail
    refine (awake_any _).mono ?_
    rintro _ VA ⟨rfl, bA⟩
    have FA : Hid (Below w.heap.size w VA) := below_over FZ.out bA
    clear bA
    go_wp2
    go_ret
    exact ⟨rfl, FA.out⟩
end Go.Proofs.Ytllmadgonobdnaa
