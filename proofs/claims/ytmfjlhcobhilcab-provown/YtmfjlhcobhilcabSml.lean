/-
  Small functions of the code: numbers that may be, how two are held against each other, places of ports. Each for every input.
-/
import Derived.Test.YtmfjlhcobhilcabPd
namespace Go.Proofs.Ytmfjlhcobhilcab
set_option linter.unusedVariables false
set_option maxRecDepth 4000
set_option linter.unusedSimpArgs false
open Go.RowKit
attribute [local go_sem ↓] ldM stM ldC stC ldB stB ldP stP apI bsI
attribute [local go_sem] bsI_is bsI2_is

theorem isv_any (n : Int) (w : World) : Calls Try.prog 45 #[.int .i64 n] w fun r w' => r = .returned (.bool (isV n)) ∧ Below w.heap.size w w' := by
  by_cases h1 : 1 ≤ n
  · have e1 : decide (n ≥ 1) = true := by simp; omega
    have e2 : decide (1 ≤ n) = true := by simp; omega
    by_cases h2 : n ≤ 4094
    · have e3 : decide (n ≤ 4094) = true := by simp; omega
      have E : Hid (isV n = true) := by show (decide (1 ≤ n) && decide (n ≤ 4094)) = true; rw [e2, e3]; rfl
      go_enter Try.func45, Try.ntmps45
      go_wp2
      go_ret
      exact ⟨ret_bool E.out.symm, Below.refl _ _⟩
    · have e3 : decide (n ≤ 4094) = false := by simp; omega
      have E : Hid (isV n = false) := by show (decide (1 ≤ n) && decide (n ≤ 4094)) = false; rw [e2, e3]; rfl
      go_enter Try.func45, Try.ntmps45
      go_wp2
      go_ret
      exact ⟨ret_bool E.out.symm, Below.refl _ _⟩
  · have e1 : decide (n ≥ 1) = false := by simp; omega
    have e2 : decide (1 ≤ n) = false := by simp; omega
    have E : Hid (isV n = false) := by show (decide (1 ≤ n) && decide (n ≤ 4094)) = false; rw [e2]; rfl
    go_enter Try.func45, Try.ntmps45
    go_wp2
    go_ret
    exact ⟨ret_bool E.out.symm, Below.refl _ _⟩
theorem iss_any (n : Int) (w : World) : Calls Try.prog 46 #[.int .i64 n] w fun r w' => r = .returned (.bool (isS n)) ∧ Below w.heap.size w w' := by
  by_cases h1 : 1 ≤ n
  · have e1 : decide (n ≥ 1) = true := by simp; omega
    have e2 : decide (1 ≤ n) = true := by simp; omega
    by_cases h2 : n ≤ 16777215
    · have e3 : decide (n ≤ 16777215) = true := by simp; omega
      have E : Hid (isS n = true) := by show (decide (1 ≤ n) && decide (n ≤ 16777215)) = true; rw [e2, e3]; rfl
      go_enter Try.func46, Try.ntmps46
      go_wp2
      go_ret
      exact ⟨ret_bool E.out.symm, Below.refl _ _⟩
    · have e3 : decide (n ≤ 16777215) = false := by simp; omega
      have E : Hid (isS n = false) := by show (decide (1 ≤ n) && decide (n ≤ 16777215)) = false; rw [e2, e3]; rfl
      go_enter Try.func46, Try.ntmps46
      go_wp2
      go_ret
      exact ⟨ret_bool E.out.symm, Below.refl _ _⟩
  · have e1 : decide (n ≥ 1) = false := by simp; omega
    have e2 : decide (1 ≤ n) = false := by simp; omega
    have E : Hid (isS n = false) := by show (decide (1 ≤ n) && decide (n ≤ 16777215)) = false; rw [e2]; rfl
    go_enter Try.func46, Try.ntmps46
    go_wp2
    go_ret
    exact ⟨ret_bool E.out.symm, Below.refl _ _⟩
theorem nan_any (n : Int) (w : World) : Calls Try.prog 76 #[.int .i64 n] w fun r w' => r = .returned (.bool false) ∧ w' = w := by
  have e : (n != n) = false := by simp
  go_enter Try.func76, Try.ntmps76
  go_wp2
  go_ret
  exact ⟨rfl, rfl⟩
theorem cmp_any (a b : Int) (w : World) : Calls Try.prog 52 #[.int .i64 a, .int .i64 b] w fun r w' => r = .returned (.int .i64 (cmI a b)) ∧ w' = w := by
  by_cases h1 : a < b
  · have e1 : decide (a < b) = true := by simpa using h1
    have E : Hid (cmI a b = -1) := by unfold cmI; rw [if_pos h1]; exact rfl
    clear h1
    go_enter Try.func52, Try.ntmps52
    go_wp2_with fail
    refine (nan_any a _).mono ?_
    rintro _ y ⟨rfl, hy⟩
    rw [hy]; clear hy y
    go_wp2_with fail
    refine (nan_any b _).mono ?_
    rintro _ y ⟨rfl, hy⟩
    rw [hy]; clear hy y
    go_wp2
    go_ret
    exact ⟨ret_int E.out.symm, rfl⟩
  · have e1 : decide (a < b) = false := by simpa using h1
    by_cases h2 : b < a
    · have e2 : decide (a > b) = true := by simpa using h2
      have e2' : decide (b < a) = true := by simpa using h2
      have E : Hid (cmI a b = 1) := by unfold cmI; rw [if_neg h1, if_pos h2]; exact rfl
      clear h1 h2
      go_enter Try.func52, Try.ntmps52
      go_wp2_with fail
      refine (nan_any a _).mono ?_
      rintro _ y ⟨rfl, hy⟩
      rw [hy]; clear hy y
      go_wp2_with fail
      refine (nan_any b _).mono ?_
      rintro _ y ⟨rfl, hy⟩
      rw [hy]; clear hy y
      go_wp2
      go_ret
      exact ⟨ret_int E.out.symm, rfl⟩
    · have e2 : decide (a > b) = false := by simpa using h2
      have e2' : decide (b < a) = false := by simpa using h2
      have E : Hid (cmI a b = 0) := by unfold cmI; rw [if_neg h1, if_neg h2]; exact rfl
      clear h1 h2
      go_enter Try.func52, Try.ntmps52
      go_wp2_with fail
      refine (nan_any a _).mono ?_
      rintro _ y ⟨rfl, hy⟩
      rw [hy]; clear hy y
      go_wp2_with fail
      refine (nan_any b _).mono ?_
      rintro _ y ⟨rfl, hy⟩
      rw [hy]; clear hy y
      go_wp2
      go_ret
      exact ⟨ret_int E.out.symm, rfl⟩
def orI (x y : Int) : Int := if x = 0 then y else x
theorem or_any (b : Nat) (x y : Int) (w : World) (h : RvAt w b 3 #[.int .i64 x, .int .i64 y]) :
    Calls Try.prog 51 #[.slice (some ⟨b, 0, none⟩) 2 2] w fun r w' => r = .returned (.int .i64 (orI x y)) ∧ w' = w := by
  have c0 := h.cell 0 _ rfl
  have c1 := h.cell 1 _ rfl
  by_cases e0 : x = 0
  · subst e0
    by_cases e1 : y = 0
    · subst e1
      clear h
      go_enter Try.func51, Try.ntmps51
      go_wp2
      go_rounds 3
      go_ret
      exact ⟨rfl, rfl⟩
    · have q : (y != 0) = true := by simp [e1]
      clear h e1
      go_enter Try.func51, Try.ntmps51
      go_wp2
      go_rounds 3
      go_ret
      exact ⟨rfl, rfl⟩
  · have q : (x != 0) = true := by simp [e0]
    have E : Hid (orI x y = x) := by unfold orI; rw [if_neg e0]; exact rfl
    rw [E.out]
    clear h e0
    go_enter Try.func51, Try.ntmps51
    go_wp2
    go_rounds 3
    go_ret
    exact ⟨rfl, rfl⟩
theorem byB_any (x y : Mr) (w : World) : Calls Try.prog 27 #[.agg x.cs, .agg y.cs] w fun r w' => r = .returned (.int .i64 (cmI x.v y.v)) ∧ Below w.heap.size w w' := by
  obtain ⟨W, hW, m0, bW, zW⟩ := MrAt.new w x
  obtain ⟨V, hV, m1, bV, zV⟩ := MrAt.new W y
  have k0 := (m0.below bV).c0
  have k1 := m1.c0
  have B : Hid (Below w.heap.size w V) := below_over bW bV
  clear m0 m1 bW bV zW zV
  go_enter Try.func27, Try.ntmps27
  go_wp2_with fail
  refine (cmp_any _ _ _).mono ?_
  rintro _ y ⟨rfl, hy⟩
  rw [hy]; clear hy y
  go_wp2
  go_ret
  exact ⟨rfl, B.out⟩
theorem byC_any (x y : Cr) (w : World) : Calls Try.prog 21 #[.agg x.cs, .agg y.cs] w fun r w' => r = .returned (.int .i64 (cmC x y)) ∧ Below w.heap.size w w' := by
  obtain ⟨W, hW, m0, bW, zW⟩ := CrAt.new w x
  obtain ⟨V, hV, m1, bV, zV⟩ := CrAt.new W y
  have k0 := (m0.below bV).c0
  have k1 := m1.c0
  have B : Hid (Below w.heap.size w V) := below_over bW bV
  clear m0 m1 bW bV zW zV
  go_enter Try.func21, Try.ntmps21
  go_wp2_with fail
  refine (cmp_any _ _ _).mono ?_
  rintro _ y ⟨rfl, hy⟩
  rw [hy]; clear hy y
  go_wp2
  go_ret
  exact ⟨rfl, B.out⟩
theorem cmp_bel (a b : Int) (w : World) : Calls Try.prog 52 #[.int .i64 a, .int .i64 b] w fun r w' => r = .returned (.int .i64 (cmI a b)) ∧ Below w.heap.size w w' :=
  (cmp_any a b w).mono fun _ y ⟨h1, h2⟩ => ⟨h1, by rw [h2]; exact Below.refl _ _⟩
set_option maxHeartbeats 1000000 in
theorem byM_any (x y : Mp) (w : World) : Calls Try.prog 16 #[.agg x.cs, .agg y.cs] w fun r w' => r = .returned (.int .i64 (cmM x y)) ∧ Below w.heap.size w w' := by
  obtain ⟨W, hW, m0, bW, zW⟩ := MpAt.new w x
  obtain ⟨V, hV, m1, bV, zV⟩ := MpAt.new W y
  have B : Hid (Below w.heap.size w V ∧ MpAt V w.heap.size x ∧ MpAt V W.heap.size y) := ⟨below_over bW bV, m0.below bV, m1⟩
  clear m0 m1 bW bV zW zV
  go_enter Try.func16, Try.ntmps16
  go_wp2_with fail
  have k0 := fun q : Later V => (B.out.2.1.below q.below).c0
  have k1 := fun q : Later V => (B.out.2.1.below q.below).c1
  have j0 := fun q : Later V => (B.out.2.2.below q.below).c0
  have j1 := fun q : Later V => (B.out.2.2.below q.below).c1
  have P0 : Hid (∀ q : Later V, _) := fun q : Later V => cmp_bel x.p y.p q.val
  have P1 : Hid (∀ q : Later V, _) := fun q : Later V => cmp_bel x.v y.v q.val
  obtain ⟨u, hu⟩ : ∃ z, cmI x.p y.p = z := ⟨_, rfl⟩
  obtain ⟨v, hv⟩ : ∃ z, cmI x.v y.v = z := ⟨_, rfl⟩
  rw [hu] at P0
  rw [hv] at P1
  have E : Hid (cmM x y = orI u v) := by unfold cmM orI; rw [hu, hv]; exact rfl
  clear hu hv
  refine wp_region_later_tail 10 (by kernel_rfl) (by kernel_rfl) ?_
  simp only [List.take_succ_cons, List.take_zero, List.drop_succ_cons, List.drop_zero]
  repeat (go_big_quiet_step (first | exact rfl | (go_at_call 52; first | with_reducible exact Calls.later_of (P0.out _) | with_reducible exact Calls.later_of (P1.out _))))
  refine wpQuiet_nil ?_
  intro q
  clear k0 k1 j0 j1 P0 P1
  have R : Hid (RvAt (q.val.alloc (.cells #[.int .i64 u, .int .i64 v] 3)) q.val.heap.size 3 #[.int .i64 u, .int .i64 v] ∧ Below w.heap.size w (q.val.alloc (.cells #[.int .i64 u, .int .i64 v] 3))) := ⟨RvAt.new _ _ _, (below_later B.out.1 q).alloc (below_later B.out.1 q).size _⟩
  go_wp2_with fail
  refine (or_any _ u v _ R.out.1).mono ?_
  rintro _ y ⟨rfl, hy⟩
  rw [hy]; clear hy y
  go_wp2
  go_ret
  exact ⟨ret_int E.out.symm, R.out.2⟩
theorem hasp_any (x : Pr) (p : Pv) (i : Int) (w : World) (h : IsPv w x p) :
    Calls Try.prog 47 #[.agg x.cs, .int .i64 i] w fun r w' => r = .returned (.bool (hasP p i)) ∧ Below w.heap.size w w' := by
  obtain ⟨a, n, c, hv, hs⟩ := h.k
  obtain ⟨W, hW, r0, bW, zW⟩ := PrAt.new w x
  have c7 := r0.k
  rw [hv] at c7
  have hn := hs.len
  have hnn := hs.int
  have B : Hid (Below w.heap.size w W) := bW
  by_cases h1 : 0 ≤ i
  · have e1 : decide (i ≥ 0) = true := by simp; omega
    have e2 : decide (0 ≤ i) = true := by simp; omega
    have E : Hid (hasP p i = decide (i < (n : Int))) := by show (decide (0 ≤ i) && decide (i < (p.ks.length : Int))) = _; rw [e2, hn]; exact rfl
    clear hs bW zW r0 h hv h1 hn
    go_enter Try.func47, Try.ntmps47
    go_wp2
    go_ret
    exact ⟨ret_bool E.out.symm, B.out⟩
  · have e1 : decide (i ≥ 0) = false := by simp; omega
    have e2 : decide (0 ≤ i) = false := by simp; omega
    have E : Hid (hasP p i = false) := by show (decide (0 ≤ i) && decide (i < (p.ks.length : Int))) = _; rw [e2]; exact rfl
    clear hs bW zW r0 h hv h1 hn
    go_enter Try.func47, Try.ntmps47
    go_wp2
    go_ret
    exact ⟨ret_bool E.out.symm, B.out⟩
theorem isk_any (x : Pr) (p : Pv) (i k : Int) (w : World) (h : IsPv w x p) :
    Calls Try.prog 48 #[.agg x.cs, .int .i64 i, .int .i64 k] w fun r w' => r = .returned (.bool (isK p i k)) ∧ Below w.heap.size w w' := by
  obtain ⟨a, n, c, hv, hs⟩ := h.k
  obtain ⟨W, hW, r0, bW, zW⟩ := PrAt.new w x
  have hn := hs.len
  have l0 := r0.ld
  have hP := hasp_any x p i W (h.below bW)
  cases hq : hasP p i
  · rw [hq] at hP
    have E : Hid (isK p i k = false) := by unfold isK; rw [hq]; exact rfl
    have B : Hid (Below w.heap.size w W) := bW
    have HP : Hid (Calls _ _ _ _ _) := hP
    clear hs bW zW r0 h hv hn hq hP
    go_enter Try.func48, Try.ntmps48
    go_wp2_with fail
    refine HP.out.mono ?_
    rintro _ Y ⟨rfl, hY⟩
    go_wp2
    go_ret
    exact ⟨ret_bool E.out.symm, below_over B.out hY⟩
  · rw [hq] at hP
    have hb : 0 ≤ i ∧ i < (n : Int) := by
      simp [hasP] at hq
      rw [hn] at hq
      exact hq
    obtain ⟨j, rfl⟩ : ∃ j : Nat, i = (j : Int) := ⟨i.toNat, by omega⟩
    have hj : j < n := by omega
    obtain ⟨b, o, rfl⟩ := hs.some' (by omega)
    obtain ⟨y, hy⟩ := lt_nth (l := p.ks) (i := j) (by rw [hn]; exact hj)
    have E : Hid (isK p (j : Int) k = (y == k)) := by
      unfold isK kAt
      rw [hq, Bool.true_and, Int.toNat_natCast, hy]
      exact rfl
    have B : Hid (Below w.heap.size w W ∧ PrAt W w.heap.size x ∧ x.k = .slice (some ⟨b, o, none⟩) n c ∧ SlAt eK W (some ⟨b, o, none⟩) n c p.ks ∧ p.ks[j]? = some y) := ⟨bW, r0, hv, hs.below bW, hy⟩
    have HP : Hid (Calls _ _ _ _ _) := hP
    have hi0 : (0 : Int) ≤ (j : Int) := by omega
    have hi1 : (j : Int) < (n : Int) := by omega
    have hnn := hs.int
    clear hs bW zW r0 h hv hn hq hP hb hy
    go_enter Try.func48, Try.ntmps48
    go_wp2_with fail
    refine HP.out.mono ?_
    rintro _ Y ⟨rfl, hY⟩
    have c7 := (B.out.2.1.below hY).k
    rw [B.out.2.2.1] at c7
    have l1 := lK (B.out.2.2.2.1.below hY) B.out.2.2.2.2
    go_wp2
    go_ret
    exact ⟨ret_bool E.out.symm, below_over B.out.1 hY⟩
end Go.Proofs.Ytmfjlhcobhilcab
