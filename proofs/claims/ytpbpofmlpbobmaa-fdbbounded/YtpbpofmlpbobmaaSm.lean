/-
  The walks of mayBe, compare, elder, Len, New, each for every input.
-/
import Derived.Test.YtpbpofmlpbobmaaDb
namespace Go.Proofs.Ytpbpofmlpbobmaa
set_option linter.unusedVariables false
set_option maxRecDepth 4000
set_option linter.unusedSimpArgs false
open Go.RowKit

/-- May an entry be? -/
def mayOf (ports : Int) (k : Ky) (port : Int) : Bool := inn k.vid 1 4094 && decide (kindOf k.a k.b k.c k.d k.e k.f = 1) && inn port 0 (ports - 1)
set_option maxHeartbeats 800000 in
theorem mayBe_any (p : Nat) (ports : Int) (k : Ky) (port : Int) (w : World) (h : w.cell? ⟨p, 0, none⟩ = some (.int .i64 ports)) (hp : 1 ≤ ports ∧ ports ≤ 8) (hk : k.wf) :
    Calls Try.prog 33 #[.pointer (some ⟨p, 0, none⟩), .agg k.cs, .int .i64 port] w fun r w' => r = .returned (.bool (mayOf ports k port)) ∧ Below w.heap.size w w' := by
  obtain ⟨v, a, b, c, d, e, f⟩ := k
  obtain ⟨hv, ha, hb, hc, hd, he, hf⟩ := hk
  simp only at hv ha hb hc hd he hf
  have hpl : p < w.heap.size := World.block_lt_of_cell? w _ h
  simp only [mayOf]
  show Calls Try.prog 33 #[.pointer (some ⟨p, 0, none⟩), .agg #[.int .i64 v, .int .u8 a, .int .u8 b, .int .u8 c, .int .u8 d, .int .u8 e, .int .u8 f], .int .i64 port] w _
  cases h1 : inn v 1 4094
  · have W1 : ∀ w, Calls Try.prog 30 #[.int .i64 v, .int .i64 1, .int .i64 4094] w fun r w' => r = .returned (.bool false) ∧ w' = w := fun w => by rw [← h1]; exact within_any _ _ _ w
    go_enter Try.func33, Try.ntmps33
    go_wp2_with (go_at_call 30; refine (W1 _).mono ?_; rintro _ _ ⟨rfl, rfl⟩)
    go_ret
    exact ⟨rfl, by go_grown⟩
  · have W1 : ∀ w, Calls Try.prog 30 #[.int .i64 v, .int .i64 1, .int .i64 4094] w fun r w' => r = .returned (.bool true) ∧ w' = w := fun w => by rw [← h1]; exact within_any _ _ _ w
    go_enter Try.func33, Try.ntmps33
    go_wp2_with fail
    refine (W1 _).mono ?_
    rintro _ _ ⟨rfl, rfl⟩
    go_wp2_with fail
    refine (kind_any a b c d e f _ ha).mono ?_
    rintro _ W2 ⟨rfl, b2⟩
    have hc2 : W2.cell? ⟨p, 0, none⟩ = some (.int .i64 ports) := by
      rw [b2.cell (p := ⟨p, 0, none⟩) (by simp; omega)]
      exact (Below.cell (B := w.heap.size) (p := ⟨p, 0, none⟩) (by go_grown) hpl).trans h
    have B2 : Below w.heap.size w W2 := below_over (by go_grown) b2
    clear b2 h
    by_cases h2 : kindOf a b c d e f = 1
    · rw [h2]
      go_wp2_with fail
      refine (within_any _ _ _ _).mono ?_
      rintro _ _ ⟨rfl, rfl⟩
      go_wp2
      go_ret
      exact ⟨by simp [h2], B2⟩
    · go_wp2
      go_ret
      exact ⟨by simp [h2], B2⟩
/-- Two keys, which is ahead. -/
def cmpK (k q : Ky) : Int := if k.rk = q.rk then 0 else if k.rk < q.rk then -1 else 1
theorem num_ky (k : Ky) : num k.a k.b k.c k.d k.e k.f = k.num := rfl
attribute [local go_sem ↓] ldK stK ldM stM
set_option maxHeartbeats 800000 in
theorem compare_any (k q : Ky) (w : World) (hk : k.wf) (hq : q.wf) :
    Calls Try.prog 46 #[.agg k.cs, .agg q.cs] w fun r w' => r = .returned (.int .i64 (cmpK k q)) ∧ Bd w w' := by
  obtain ⟨W, hW⟩ : ∃ W, (w.alloc (.cells k.cs 68)).alloc (.cells q.cs 68) = W := ⟨_, rfl⟩
  have bW : Bd w W := by rw [← hW]; exact ((Bd.refl w).alloc _).alloc _
  have r1 : RvAt W w.heap.size 68 k.cs := by rw [← hW]; exact (RvAt.new w _ _).below ((Below.refl _ _).alloc (Nat.le_refl _) _)
  have r2 : RvAt W (w.heap.size + 1) 68 q.cs := by rw [← hW]; have := RvAt.new (w.alloc (.cells k.cs 68)) 68 q.cs; simpa using this
  have l1 := r1.ld rtK k.size
  have l2 := r2.ld rtK q.size
  have e1 := eqlK k q
  rw [beqK_rk hk hq] at e1
  have a0 := r1.cell 0 (.int .i64 k.vid) rfl
  have b0 := r2.cell 0 (.int .i64 q.vid) rfl
  have H : Hid (Bd w W ∧ k.wf ∧ q.wf) := ⟨bW, hk, hq⟩
  have lm1 := r1.mac
  have lm2 := r2.mac
  have L := fun W' => less_any k.a k.b k.c k.d k.e k.f q.a q.b q.c q.d q.e q.f W' hk.a hk.b hk.c hk.d hk.e hk.f hq.a hq.b hq.c hq.d hq.e hq.f
  simp only [num_ky] at L
  have R := Ky.rk_iff hk hq
  have R2 := Ky.rk_lt hk hq
  have HL : Hid (∀ W', _) := L
  clear r1 r2 bW hk hq L
  by_cases hr : k.rk = q.rk
  · have hc : cmpK k q = 0 := by simp [cmpK, hr]
    rw [hc]
    simp only [hr, decide_true] at e1
    clear R R2 hr hc
    go_enter Try.func46, Try.ntmps46
    go_wp2
    go_ret
    exact ⟨rfl, H.out.1⟩
  · simp only [hr, decide_false] at e1
    by_cases hv : k.vid < q.vid
    · have hc : cmpK k q = -1 := by unfold cmpK; rw [if_neg hr, if_pos (R2.2 (.inl hv))]
      rw [hc]
      clear R R2 hr hc
      go_enter Try.func46, Try.ntmps46
      go_wp2
      go_ret
      exact ⟨rfl, H.out.1⟩
    · by_cases hv2 : k.vid = q.vid
      · have hc : cmpK k q = if k.num < q.num then -1 else 1 := by
          unfold cmpK
          rw [if_neg hr]
          by_cases hn : k.num < q.num
          · rw [if_pos hn, if_pos (R2.2 (.inr ⟨hv2, hn⟩))]
          · rw [if_neg hn, if_neg (fun h => by rcases R2.1 h with h | h; exact hv h; exact hn h.2)]
        rw [hc]
        clear R R2 hr hc
        go_enter Try.func46, Try.ntmps46
        go_wp2_with fail
        refine (HL.out _).mono ?_
        rintro _ W2 ⟨rfl, b2⟩
        have B2 := H.out.1.trans b2
        clear b2 H HL e1 l1 l2 a0 b0 lm1 lm2 hW
        by_cases hn : k.num < q.num
        · simp only [hn, decide_true, if_true]
          go_wp2
          go_ret
          exact ⟨rfl, B2⟩
        · simp only [hn, decide_false, if_false]
          go_wp2
          go_ret
          exact ⟨rfl, B2⟩
      · have hc : cmpK k q = 1 := by
          unfold cmpK
          rw [if_neg hr, if_neg (fun h => by rcases R2.1 h with h | h; exact hv h; exact hv2 h.1)]
        rw [hc]
        clear R R2 hr hc
        go_enter Try.func46, Try.ntmps46
        go_wp2
        go_ret
        exact ⟨rfl, H.out.1⟩
end Go.Proofs.Ytpbpofmlpbobmaa
