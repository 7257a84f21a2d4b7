/-
  The walks of six statements, each for every input.
-/
import Derived.Test.YtdpaclfnjiegbaaSmall
import Derived.Test.YtdpaclfnjiegbaaAwake
namespace Go.Proofs.Ytdpaclfnjiegbaa
set_option linter.unusedVariables false
set_option maxRecDepth 4000
set_option linter.unusedSimpArgs false
open Go.RowKit

theorem one_new (w : World) (a : Vc) : ∃ W, w.alloc (.cells a.cs 26) = W ∧ VvAt W w.heap.size a ∧ Below w.heap.size w W :=
  ⟨_, rfl, VvAt.new w a, (Below.refl _ _).alloc (Nat.le_refl _) _⟩
theorem three_new (w : World) (a b c : Vc) : ∃ W, ((w.alloc (.cells a.cs 26)).alloc (.cells b.cs 26)).alloc (.cells c.cs 26) = W ∧ VvAt W w.heap.size a ∧ VvAt W (w.heap.size + 1) b ∧ VvAt W (w.heap.size + 1 + 1) c ∧ Below w.heap.size w W := by
  obtain ⟨W, hW, va, vb, bW⟩ := two_new w a b
  have hs : W.heap.size = w.heap.size + 1 + 1 := by rw [← hW]; simp
  have hB : Below W.heap.size W (W.alloc (.cells c.cs 26)) := (Below.refl _ _).alloc (Nat.le_refl _) _
  refine ⟨_, rfl, ?_, ?_, ?_, ?_⟩
  · rw [hW]; exact va.below hB
  · rw [hW]; exact vb.below hB
  · rw [hW, ← hs]; exact VvAt.new W c
  · rw [hW]; exact below_over bW hB
/-- Are vectors one? -/
def eqB (a b : Vc) : Bool := eq4 a.r a.c a.b a.p b.r b.c b.b b.p
def nqV (x y : Value) : Sem Value := binOp .neq 26 x y
theorem nqV_eq (x y : Value) : binOp .neq 26 x y = nqV x y := rfl
theorem nqV_any (a b : Vc) (w : World) : (nqV (.agg a.cs) (.agg b.cs)).run Try.prog w = .ok (.bool (!eqB a b)) w := by
  unfold nqV Vc.cs eqB eq4
  go_simp
  by_cases h1 : a.r = b.r <;> by_cases h2 : a.c = b.c <;> by_cases h3 : a.b = b.b <;> by_cases h4 : a.p = b.p <;> simp [h1, h2, h3, h4]
theorem guard_v (op : BinOp) (x y : Operand) (cs ds : Array Value) (w : World) : (eqGuard op 26 x y (.agg cs) (.agg ds)).run Try.prog w = .ok () w := run_eqGuard_agg w op 26 x y _ _ Try.eqGuardType26
attribute [local go_sem ↓] ldV stV nqV_eq
set_option maxHeartbeats 2000000 in
theorem VectorCompares_walk (a b : Vc) (w : World) (ha : a.wf) (hb : b.wf) :
    Calls Try.prog 3 #[.agg a.cs, .agg b.cs] w fun e w' => e = .returned (.bool true) ∧ Below w.heap.size w w' := by
  obtain ⟨W, hW, va, vb, bW⟩ := two_new w a b
  have H : Hid (Below w.heap.size w W) := bW
  have la := fun q : Later W => (va.below q.below).ld
  have lb := fun q : Later W => (vb.below q.below).ld
  obtain ⟨C, hC⟩ : ∃ C, cmpV a b = C := ⟨_, rfl⟩
  obtain ⟨B, hB⟩ : ∃ B, betV a b = B := ⟨_, rfl⟩
  obtain ⟨S, hS⟩ : ∃ S, supV a b = S := ⟨_, rfl⟩
  have P1 : Hid (∀ q : Later W, _) := fun q : Later W => compare_any a b q.val ha hb
  have P2 : Hid (∀ q : Later W, _) := fun q : Later W => cmpref_any a b q.val
  have P3 : Hid (∀ q : Later W, _) := fun q : Later W => better_any a b q.val ha hb
  have P4 : Hid (∀ q : Later W, _) := fun q : Later W => betref_any a b q.val
  have P5 : Hid (∀ q : Later W, _) := fun q : Later W => superior_any a b q.val ha hb
  have P6 : Hid (∀ q : Later W, _) := fun q : Later W => supref_any a b q.val ha hb
  rw [hC] at P1 P2
  rw [hB] at P3 P4
  rw [hS] at P5 P6
  clear va vb bW ha hb hC hB hS
  go_enter Try.func3, Try.ntmps3
  go_wp2_with fail
  refine wp_region_later (by kernel_rfl) (by kernel_rfl) ?_
  repeat (go_big_quiet_step (first
    | exact rfl
    | (go_at_call 9; with_reducible exact Calls.later_of (P1.out _))
    | (go_at_call 10; with_reducible exact Calls.later_of (P2.out _))
    | (go_at_call 11; with_reducible exact Calls.later_of (P3.out _))
    | (go_at_call 12; with_reducible exact Calls.later_of (P4.out _))
    | (go_at_call 13; with_reducible exact Calls.later_of (P5.out _))
    | (go_at_call 14; with_reducible exact Calls.later_of (P6.out _))
    | (go_at_call 15; with_reducible exact Calls.later_of (awake_any _))))
  refine wpQuiet_nil ?_
  intro _ hw'
  obtain ⟨x, rfl⟩ := hw'
  go_wp2
  go_ret
  exact ⟨rfl, below_later H.out x⟩
theorem VsAt.take {W : World} {a : Option Addr} {n c : Nat} {l : List Vc} (h : VsAt W a n c l) (k : Nat) (hk : k ≤ n) : VsAt W a k c (l.take k) := by
  obtain ⟨h1, h2, h3, h4, h5⟩ := h
  refine ⟨by simp; omega, by omega, h3, fun hp => h4 (by omega), fun b o e j hj => ?_⟩
  have e1 : gtV (l.take k) j = gtV l j := by simp [gtV, List.getD_eq_getElem?_getD, List.getElem?_take_of_lt hj]
  rw [e1]
  exact h5 b o e j (by omega)
/-- The end of VectorMakes. -/
theorem makes_any (v : Vc) (k i : Int) (a : Option Addr) (n c : Nat) (l : List Vc) (W : World) (hv : v.wf) (hk : 0 ≤ k ∧ k ≤ 4294967295) (h : VsAt W a n c l) (hl : ∀ u ∈ l, u.wf) (q : Later W) :
    (Calls Try.prog 16 #[.agg v.cs, .int .u32 k] q.val fun e w' => e = .returned (.agg #[.int .u64 v.r, .int .u32 (IntKind.u32.wrap (v.c + k)), .int .u64 v.b, .int .u16 v.p]) ∧ Below q.val.heap.size q.val w') ∧
    (Calls Try.prog 17 #[.agg v.cs, .int .u32 k] q.val fun e w' => e = .returned (.agg #[.int .u64 v.r, .int .u32 (IntKind.u32.wrap (v.c + k)), .int .u64 v.b, .int .u16 v.p]) ∧ Below q.val.heap.size q.val w') ∧
    (Calls Try.prog 20 #[.slice a n c] q.val fun e w' => e = .returned (.int .i64 (bestAt l n)) ∧ Below q.val.heap.size q.val w') ∧
    (Calls Try.prog 21 #[.slice a n c] q.val fun e w' => e = .returned (.int .i64 (bestAt l n)) ∧ Below q.val.heap.size q.val w') :=
  ⟨add_any v k _ hv hk, addref_any v k _ hv hk, best_any a n c l _ (h.below q.below) hl, bestref_any a n c l _ (h.below q.below) hl⟩
set_option maxHeartbeats 2000000 in
theorem VectorMakes_walk (v : Vc) (k i : Int) (a : Option Addr) (n c : Nat) (l : List Vc) (w : World) (hv : v.wf) (hk : 0 ≤ k ∧ k ≤ 4294967295) (h : VsAt w a n c l) (hl : ∀ u ∈ l, u.wf) :
    Calls Try.prog 4 #[.agg v.cs, .int .u32 k, .int .u64 i, .slice a n c] w fun e w' => e = .returned (.bool true) ∧ Below w.heap.size w w' := by
  obtain ⟨W, hW, va, bW⟩ := one_new w v
  have H : Hid (Below w.heap.size w W) := bW
  have la := fun q : Later W => (va.below q.below).ld
  have hq := eq4_self
  have hc : n ≤ c := h.2.1
  have hm : c ≤ 9223372036854775807 := by have := h.2.2.1; unfold maxLen at this; omega
  by_cases h4 : 40 < n
  · obtain ⟨b, o, rfl⟩ := h.2.2.2.1 (by omega)
    have P : Hid (∀ q : Later W, _) := makes_any v k i (some ⟨b, o, none⟩) 40 c (l.take 40) W hv hk ((h.take 40 (by omega)).below bW) (fun u hu => hl u (List.mem_of_mem_take hu))
    obtain ⟨N, hN⟩ : ∃ N, bestAt (l.take 40) 40 = N := ⟨_, rfl⟩
    rw [hN] at P
    have h5 : (40 : Int) < (n : Int) := by omega
    have h6 : (40 : Int) ≤ (c : Int) := by omega
    clear va bW hv hk h hl hN
    go_enter Try.func4, Try.ntmps4
    go_wp2_with fail
    all_goals try omega
    refine wp_region_later (by kernel_rfl) (by kernel_rfl) ?_
    repeat (go_big_quiet_step (first
      | exact rfl
      | (go_at_call 16; with_reducible exact Calls.later_of (P.out _).1)
      | (go_at_call 17; with_reducible exact Calls.later_of (P.out _).2.1)
      | (go_at_call 18; with_reducible exact Calls.later_of (own_any _ _))
      | (go_at_call 19; with_reducible exact Calls.later_of (ownref_any _ _))
      | (go_at_call 20; with_reducible exact Calls.later_of (P.out _).2.2.1)
      | (go_at_call 21; with_reducible exact Calls.later_of (P.out _).2.2.2)
      | (go_at_call 15; with_reducible exact Calls.later_of (awake_any _))))
    refine wpQuiet_nil ?_
    intro _ hw'
    obtain ⟨x, rfl⟩ := hw'
    go_wp2
    go_ret
    exact ⟨rfl, below_later H.out x⟩
  · have P : Hid (∀ q : Later W, _) := makes_any v k i a n c l W hv hk (h.below bW) hl
    obtain ⟨N, hN⟩ : ∃ N, bestAt l n = N := ⟨_, rfl⟩
    rw [hN] at P
    have h5 : ¬ (40 : Int) < (n : Int) := by omega
    clear va bW hv hk h hl hN
    go_enter Try.func4, Try.ntmps4
    go_wp2_with fail
    refine wp_region_later (by kernel_rfl) (by kernel_rfl) ?_
    repeat (go_big_quiet_step (first
      | exact rfl
      | (go_at_call 16; with_reducible exact Calls.later_of (P.out _).1)
      | (go_at_call 17; with_reducible exact Calls.later_of (P.out _).2.1)
      | (go_at_call 18; with_reducible exact Calls.later_of (own_any _ _))
      | (go_at_call 19; with_reducible exact Calls.later_of (ownref_any _ _))
      | (go_at_call 20; with_reducible exact Calls.later_of (P.out _).2.2.1)
      | (go_at_call 21; with_reducible exact Calls.later_of (P.out _).2.2.2)
      | (go_at_call 15; with_reducible exact Calls.later_of (awake_any _))))
    refine wpQuiet_nil ?_
    intro _ hw'
    obtain ⟨x, rfl⟩ := hw'
    go_wp2
    go_ret
    exact ⟨rfl, below_later H.out x⟩
set_option maxHeartbeats 2000000 in
theorem VectorNumbers_walk (n q a b c d e f p : Int) (w : World) (hn : 0 ≤ n ∧ n ≤ 18446744073709551615) (hq : 0 ≤ q ∧ q ≤ 65535) (ha : 0 ≤ a ∧ a ≤ 255) (hb : 0 ≤ b ∧ b ≤ 255) (hc : 0 ≤ c ∧ c ≤ 255) (hd : 0 ≤ d ∧ d ≤ 255) (he : 0 ≤ e ∧ e ≤ 255) (hf : 0 ≤ f ∧ f ≤ 255) (hp : 0 ≤ p ∧ p ≤ 65535) :
    Calls Try.prog 5 #[.int .u64 n, .int .u16 q, .agg #[.int .u8 a, .int .u8 b, .int .u8 c, .int .u8 d, .int .u8 e, .int .u8 f], .int .u16 p] w fun e w' => e = .returned (.bool true) ∧ Below w.heap.size w w' := by
  have hx := @Later.cell
  have h6 := eq6_self
  go_enter Try.func5, Try.ntmps5
  go_wp2_with fail
  refine wp_region_later (by kernel_rfl) (by kernel_rfl) ?_
  repeat (go_big_quiet_step (first
    | exact rfl
    | (go_at_call 22; exact Calls.later_of (priority_any _ _ hn))
    | (go_at_call 23; exact Calls.later_of (prioref_any _ _ hn))
    | (go_at_call 24; exact Calls.later_of (address_any _ _ hn))
    | (go_at_call 25; exact Calls.later_of (addrref_any _ _ hn))
    | (go_at_call 26; exact Calls.later_of (id_any _ _ _ _ _ _ _ _ hq ha hb hc hd he hf))
    | (go_at_call 27; exact Calls.later_of (idref_any _ _ _ _ _ _ _ _ hq ha hb hc hd he hf))
    | (go_at_call 28; exact Calls.later_of (number_any _ _ hp))
    | (go_at_call 29; exact Calls.later_of (numref_any _ _ hp))
    | (go_at_call 15; with_reducible exact Calls.later_of (awake_any _))))
  refine wpQuiet_nil ?_
  intro _ hw'
  obtain ⟨x, rfl⟩ := hw'
  go_wp2
  go_ret
  exact ⟨rfl, below_later (by go_grown) x⟩
set_option maxHeartbeats 2000000 in
theorem VectorTimes_walk (a x h d : Int) (w : World) (ha : 0 ≤ a ∧ a ≤ 255) (hx : 0 ≤ x ∧ x ≤ 255) (hh : 0 ≤ h ∧ h ≤ 255) (hd : 0 ≤ d ∧ d ≤ 255) :
    Calls Try.prog 6 #[.agg #[.int .u8 a, .int .u8 x, .int .u8 h, .int .u8 d]] w fun e w' => e = .returned (.bool true) ∧ Below w.heap.size w w' := by
  have hx' := @Later.cell
  have h6 := eq4_self
  have P1 : Hid (∀ W : World, _) := fun W : World => check_any a x h d W hx hh hd
  have P2 : Hid (∀ W : World, _) := fun W : World => chkref_any a x h d W hx hh hd
  have P3 : Hid (∀ W : World, _) := fun W : World => older_any a x h d W ha
  have P4 : Hid (∀ W : World, _) := fun W : World => oldref_any a x h d W ha
  obtain ⟨C, hC⟩ : ∃ C, chkT x h d = C := ⟨_, rfl⟩
  obtain ⟨O, hO⟩ : ∃ O, (if a < 255 then a + 1 else 255) = O := ⟨_, rfl⟩
  rw [hC] at P1 P2
  rw [hO] at P3 P4
  clear hC hO
  go_enter Try.func6, Try.ntmps6
  go_wp2_with fail
  refine wp_region_later (by kernel_rfl) (by kernel_rfl) ?_
  repeat (go_big_quiet_step (first
    | exact rfl
    | (go_at_call 30; with_reducible exact Calls.later_of (P1.out _))
    | (go_at_call 31; with_reducible exact Calls.later_of (P2.out _))
    | (go_at_call 32; with_reducible exact Calls.later_of (P3.out _))
    | (go_at_call 33; with_reducible exact Calls.later_of (P4.out _))
    | (go_at_call 15; with_reducible exact Calls.later_of (awake_any _))))
  refine wpQuiet_nil ?_
  intro _ hw'
  obtain ⟨x, rfl⟩ := hw'
  go_wp2
  go_ret
  exact ⟨rfl, below_later (by go_grown) x⟩
end Go.Proofs.Ytdpaclfnjiegbaa
