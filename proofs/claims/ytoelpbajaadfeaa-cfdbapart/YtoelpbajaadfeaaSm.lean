/-
  The walks of mayBe, compare, elder, Len, New, each for every input.
-/
import Derived.Test.YtoelpbajaadfeaaDb
namespace Go.Proofs.Ytoelpbajaadfeaa
set_option linter.unusedVariables false
set_option maxRecDepth 4000
set_option linter.unusedSimpArgs false
open Go.RowKit

/-- May an entry be? -/
def mayOf (x : En) : Bool := inn x.k.vid 1 16777215 && decide (kindOf x.k.a x.k.b x.k.c x.k.d x.k.e x.k.f = 1) && decide (kindOf x.bm.a x.bm.b x.bm.c x.bm.d x.bm.e x.bm.f = 1) && inn x.seen 0 1099511627776
theorem two_kp (w : World) (e : En) : ∃ W, (w.alloc (.cells e.k.cs 74)).alloc (.cells e.pc 76) = W ∧ RvAt W w.heap.size 74 e.k.cs ∧ RvAt W (w.heap.size + 1) 76 e.pc ∧ Below w.heap.size w W :=
  ⟨_, rfl, (RvAt.new w _ _).below ((Below.refl _ _).alloc (Nat.le_refl _) _), by have := RvAt.new (w.alloc (.cells e.k.cs 74)) 76 e.pc; simpa using this, ((Below.refl _ _).alloc (Nat.le_refl _) _).alloc (by simp) _⟩
attribute [local go_sem ↓] ldK stK ldM stM ldP stP
set_option maxHeartbeats 800000 in
theorem mayBe_any (x : En) (w : World) (hk : x.k.wf) (hx : x.bm.wf) :
    Calls Try.prog 32 #[.agg x.k.cs, .agg x.pc] w fun r w' => r = .returned (.bool (mayOf x)) ∧ Below w.heap.size w w' := by
  obtain ⟨W, hW, r1, r2, bW⟩ := two_kp w x
  have c0 := r1.cell 0 (.int .i64 x.k.vid) rfl
  have lm := r1.mac
  have H : Hid (RvAt W w.heap.size 74 x.k.cs ∧ RvAt W (w.heap.size + 1) 76 x.pc ∧ Below w.heap.size w W) := ⟨r1, r2, bW⟩
  have HK : Hid (x.k.wf ∧ x.bm.wf) := ⟨hk, hx⟩
  clear r1 r2 bW hk hx
  cases h1 : inn x.k.vid 1 16777215
  · have W1 : ∀ w, Calls Try.prog 24 #[.int .i64 x.k.vid, .int .i64 1, .int .i64 16777215] w fun r w' => r = .returned (.bool false) ∧ w' = w := fun w => by rw [← h1]; exact within_any _ _ _ w
    go_enter Try.func32, Try.ntmps32
    go_wp2_with (go_at_call 24; refine (W1 _).mono ?_; rintro _ _ ⟨rfl, rfl⟩)
    go_ret
    exact ⟨by simp [mayOf, h1], H.out.2.2⟩
  · have W1 : ∀ w, Calls Try.prog 24 #[.int .i64 x.k.vid, .int .i64 1, .int .i64 16777215] w fun r w' => r = .returned (.bool true) ∧ w' = w := fun w => by rw [← h1]; exact within_any _ _ _ w
    go_enter Try.func32, Try.ntmps32
    go_wp2_with fail
    refine (W1 _).mono ?_
    rintro _ Y ⟨rfl, hY⟩
    rw [hY]
    clear hY Y
    go_wp2_with fail
    refine (kind_any _ _ _ _ _ _ _ HK.out.1.a).mono ?_
    rintro _ W2 ⟨rfl, b2⟩
    have lp := (H.out.2.1.below b2).pmac
    have G : Hid (RvAt W2 (w.heap.size + 1) 76 x.pc ∧ Below w.heap.size w W2) := ⟨H.out.2.1.below b2, below_over H.out.2.2 b2⟩
    clear b2 c0 lm W1 hW
    by_cases h2 : kindOf x.k.a x.k.b x.k.c x.k.d x.k.e x.k.f = 1
    · rw [h2]
      go_wp2_with fail
      refine (kind_any _ _ _ _ _ _ _ HK.out.2.a).mono ?_
      rintro _ W3 ⟨rfl, b3⟩
      have c6 := (G.out.1.below b3).cell 6 (.int .i64 x.seen) rfl
      have B3 : Hid (Below w.heap.size w W3) := below_over G.out.2 b3
      clear b3 lp
      by_cases h3 : kindOf x.bm.a x.bm.b x.bm.c x.bm.d x.bm.e x.bm.f = 1
      · rw [h3]
        go_wp2_with fail
        refine (within_any _ _ _ _).mono ?_
        rintro _ Y ⟨rfl, hY⟩
        rw [hY]
        clear hY Y
        go_wp2
        go_ret
        exact ⟨by simp [mayOf, h1, h2, h3], B3.out⟩
      · go_wp2
        go_ret
        exact ⟨by simp [mayOf, h3], B3.out⟩
    · go_wp2
      go_ret
      exact ⟨by simp [mayOf, h2], G.out.2⟩
/-- Two keys, which is ahead. -/
def cmpK (k q : Ky) : Int := if k.rk = q.rk then 0 else if k.rk < q.rk then -1 else 1
theorem num_ky (k : Ky) : num k.a k.b k.c k.d k.e k.f = k.num := rfl
set_option maxHeartbeats 800000 in
theorem compare_any (k q : Ky) (w : World) (hk : k.wf) (hq : q.wf) :
    Calls Try.prog 36 #[.agg k.cs, .agg q.cs] w fun r w' => r = .returned (.int .i64 (cmpK k q)) ∧ Bd w w' := by
  obtain ⟨W, hW⟩ : ∃ W, (w.alloc (.cells k.cs 74)).alloc (.cells q.cs 74) = W := ⟨_, rfl⟩
  have bW : Bd w W := by rw [← hW]; exact ((Bd.refl w).alloc _).alloc _
  have r1 : RvAt W w.heap.size 74 k.cs := by rw [← hW]; exact (RvAt.new w _ _).below ((Below.refl _ _).alloc (Nat.le_refl _) _)
  have r2 : RvAt W (w.heap.size + 1) 74 q.cs := by rw [← hW]; have := RvAt.new (w.alloc (.cells k.cs 74)) 74 q.cs; simpa using this
  have l1 := r1.ld rtK k.size
  have l2 := r2.ld rtK q.size
  have e1 := eqlK k q
  rw [beqK_rk hk hq] at e1
  have a0 := r1.cell 0 (.int .i64 k.vid) rfl
  have b0 := r2.cell 0 (.int .i64 q.vid) rfl
  have H : Hid (Bd w W ∧ k.wf ∧ q.wf) := ⟨bW, hk, hq⟩
  have lm1 := r1.mac
  have lm2 := r2.mac
  have L := fun W' => less_any k.a k.b k.c k.d k.e k.f q.a q.b q.c q.d q.e q.f W' hk.a hk.b hk.c hk.d hk.e hk.f hq.a hq.b hq.c hq.d hq.e hq.f
  simp only [num_ky] at L
  have R := Ky.rk_iff hk hq
  have R2 := Ky.rk_lt hk hq
  have HL : Hid (∀ W', _) := L
  clear r1 r2 bW hk hq L
  by_cases hr : k.rk = q.rk
  · have hc : cmpK k q = 0 := by simp [cmpK, hr]
    rw [hc]
    simp only [hr, decide_true] at e1
    clear R R2 hr hc
    go_enter Try.func36, Try.ntmps36
    go_wp2
    go_ret
    exact ⟨rfl, H.out.1⟩
  · simp only [hr, decide_false] at e1
    by_cases hv : k.vid < q.vid
    · have hc : cmpK k q = -1 := by unfold cmpK; rw [if_neg hr, if_pos (R2.2 (.inl hv))]
      rw [hc]
      clear R R2 hr hc
      go_enter Try.func36, Try.ntmps36
      go_wp2
      go_ret
      exact ⟨rfl, H.out.1⟩
    · by_cases hv2 : k.vid = q.vid
      · have hc : cmpK k q = if k.num < q.num then -1 else 1 := by
          unfold cmpK
          rw [if_neg hr]
          by_cases hn : k.num < q.num
          · rw [if_pos hn, if_pos (R2.2 (.inr ⟨hv2, hn⟩))]
          · rw [if_neg hn, if_neg (fun h => by rcases R2.1 h with h | h; exact hv h; exact hn h.2)]
        rw [hc]
        clear R R2 hr hc
        go_enter Try.func36, Try.ntmps36
        go_wp2_with fail
        refine (HL.out _).mono ?_
        rintro _ W2 ⟨rfl, b2⟩
        have B2 := H.out.1.trans b2
        clear b2 H HL e1 l1 l2 a0 b0 lm1 lm2 hW
        by_cases hn : k.num < q.num
        · simp only [hn, decide_true, if_true]
          go_wp2
          go_ret
          exact ⟨rfl, B2⟩
        · simp only [hn, decide_false, if_false]
          go_wp2
          go_ret
          exact ⟨rfl, B2⟩
      · have hc : cmpK k q = 1 := by
          unfold cmpK
          rw [if_neg hr, if_neg (fun h => by rcases R2.1 h with h | h; exact hv h; exact hv2 h.1)]
        rw [hc]
        clear R R2 hr hc
        go_enter Try.func36, Try.ntmps36
        go_wp2
        go_ret
        exact ⟨rfl, H.out.1⟩
end Go.Proofs.Ytoelpbajaadfeaa
