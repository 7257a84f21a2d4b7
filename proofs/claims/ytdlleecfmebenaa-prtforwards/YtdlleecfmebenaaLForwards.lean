/-
  PrtForwards: its walk, for every tree.
-/
import Derived.Test.YtdlleecfmebenaaLPure
namespace Go.Proofs.Ytdlleecfmebenaa
set_option linter.unusedVariables false
set_option maxRecDepth 4000
set_option linter.unusedSimpArgs false
open Go.RowKit

/-- Two ports' variables, made and stored: in both orders. -/
theorem pair_a (X : World) (p q : Pt) : ∃ A B, (stS 45 (.pointer (some ⟨X.heap.size, 0, none⟩)) (.agg p.cs)).run Try.prog ((X.alloc (.cells zeroP.cs 45)).alloc (.cells zeroP.cs 45)) = .ok () A ∧ (stS 45 (.pointer (some ⟨X.heap.size + 1, 0, none⟩)) (.agg q.cs)).run Try.prog A = .ok () B ∧ RvAt B X.heap.size 45 p.cs ∧ RvAt B (X.heap.size + 1) 45 q.cs ∧ Below X.heap.size X A ∧ Below X.heap.size X B := by
  obtain ⟨C, hC, rC, bC, zC⟩ := new_p X zeroP
  obtain ⟨D, hD, rD, bD, zD⟩ := new_p C zeroP
  rw [zC] at rD
  obtain ⟨A, e1, r1, g1⟩ := (rC.below bD).pst (q := p)
  obtain ⟨B, e2, r2, g2⟩ := (rD.keptBut g1 (by simp)).pst (q := q)
  refine ⟨A, B, by rw [hC, hD]; exact e1, e2, r1.keptBut g2 (by simp), r2, ?_, ?_⟩
  · exact gro (below_over bC bD) g1 (Nat.le_refl _) (below_over bC bD).size
  · exact gro (gro (below_over bC bD) g1 (Nat.le_refl _) (below_over bC bD).size) g2 (by omega) (Nat.le_trans (below_over bC bD).size g1.size)
theorem pair_b (X : World) (p q : Pt) : ∃ A B, (stS 45 (.pointer (some ⟨X.heap.size + 1, 0, none⟩)) (.agg p.cs)).run Try.prog ((X.alloc (.cells zeroP.cs 45)).alloc (.cells zeroP.cs 45)) = .ok () A ∧ (stS 45 (.pointer (some ⟨X.heap.size, 0, none⟩)) (.agg q.cs)).run Try.prog A = .ok () B ∧ RvAt B (X.heap.size + 1) 45 p.cs ∧ RvAt B X.heap.size 45 q.cs ∧ Below X.heap.size X A ∧ Below X.heap.size X B := by
  obtain ⟨C, hC, rC, bC, zC⟩ := new_p X zeroP
  obtain ⟨D, hD, rD, bD, zD⟩ := new_p C zeroP
  rw [zC] at rD
  obtain ⟨A, e1, r1, g1⟩ := rD.pst (q := p)
  obtain ⟨B, e2, r2, g2⟩ := ((rC.below bD).keptBut g1 (by simp)).pst (q := q)
  refine ⟨A, B, by rw [hC, hD]; exact e1, e2, r1.keptBut g2 (by simp), r2, ?_, ?_⟩
  · exact gro (below_over bC bD) g1 (by omega) (below_over bC bD).size
  · exact gro (gro (below_over bC bD) g1 (by omega) (below_over bC bD).size) g2 (Nat.le_refl _) (Nat.le_trans (below_over bC bD).size g1.size)
attribute [local go_sem ↓] ldP stP ldT stT
attribute [local go_sem ↓] alP
attribute [local go_sem] alP_run
set_option maxHeartbeats 16000000 in
theorem PrtForwards_walk (h : Hd) (a0 : Option Addr) (n0 c0 : Nat) (l : List Pt) (i : Int) (w : World) (hs : SlAt w a0 n0 c0 l) (hi : -9223372036854775808 ≤ i ∧ i ≤ 9223372036854775807) :
    Calls Try.prog 4 #[.agg (trc h (.slice a0 n0 c0)), .int .i64 i] w fun r w' => r = .returned (.bool true) ∧ Below w.heap.size w w' := by
  obtain ⟨W, hW, r0, bW, zW⟩ := one_t w h (.slice a0 n0 c0)
  have l0 := r0.tld
  have H : Hid (SlAt W a0 n0 c0 l ∧ RvAt W w.heap.size 31 (trc h (.slice a0 n0 c0)) ∧ Below w.heap.size w W) := ⟨hs.below bW, r0, bW⟩
  clear hs r0 bW zW hi
  go_enter Try.func4, Try.ntmps4
  go_wp2_with fail
  refine (few_any h a0 n0 c0 l W H.out.1).mono ?_
  rintro _ W1 ⟨v, rfl, o1, b1⟩
  obtain ⟨ls, a, n, c, V, hlen, hn, rfl, sV, t, gV⟩ := few_in H.out.2.1 H.out.2.2 (Nat.le_refl _) b1 o1
  have G : Hid (TQ w V w.heap.size h a n c ls) := t
  have HN : Hid (ls.length = n) := hlen
  have hn1 : n ≤ 1000 := by omega
  have hn10 : n ≤ 10 := hn
  have lV := t.ld
  clear o1 b1 gV t l0 H hlen hW hn
  go_wp2_with fail
  refine (pstep_any h a n c ls i V G.out.sl hn1).mono ?_
  rintro _ V1 ⟨a1, c1, rfl, s1, b1⟩
  obtain ⟨V2, s2, t2, b2⟩ := TQ.new (w := w) (h := h) s1 (below_over G.out.bel b1)
  have hlt := (G.out.var.below b1).lt
  obtain ⟨i1, hi1⟩ : ∃ z, V1.heap.size = z := ⟨_, rfl⟩
  rw [hi1] at s2 t2 hlt
  have G2 : Hid (TQ w V2 w.heap.size h a n c ls ∧ TQ w V2 i1 h a1 n c1 (stepL ls i) ∧ w.heap.size < i1) := ⟨(G.out.below b1).below b2, t2, hlt⟩
  have l2 := G2.out.1.ld
  clear s1 b1 t2 b2 G lV sV hlt
  by_cases hi : 0 ≤ i ∧ i < (n : Int)
  rotate_left
  · have es : stepB ls i = false := (step_out (by rw [HN.out]; exact hi)).2
    rw [es]
    have F2 : Hid (Below w.heap.size w V2) := G2.out.1.bel
    clear es hi G2 l2
    go_wp2_with fail
    refine (awake_any _).mono ?_
    rintro _ VA ⟨rfl, bA⟩
    have FA : Hid (Below w.heap.size w VA) := below_over F2.out bA
    clear bA
    go_wp2
    go_ret
    exact ⟨rfl, FA.out⟩
  obtain ⟨k, hk⟩ : ∃ k : Nat, i = (k : Int) := ⟨i.toNat, by omega⟩
  subst hk
  have hin0 : (0 : Int) ≤ (k : Int) := by omega
  have hin1 : (k : Int) < (n : Int) := by omega
  have hkl : k < ls.length := by rw [HN.out]; omega
  obtain ⟨e1, e2⟩ := step_in hkl
  rw [e2]
  rw [e1] at G2
  clear e1 e2 hi
  cases hO : stepO ls k with
  | none =>
    simp only [Option.isSome_none]
    have F2 : Hid (Below w.heap.size w V2) := G2.out.1.bel
    clear G2 hO l2
    go_wp2_with fail
    refine (awake_any _).mono ?_
    rintro _ VA ⟨rfl, bA⟩
    have FA : Hid (Below w.heap.size w VA) := below_over F2.out bA
    clear bA
    go_wp2
    go_ret
    exact ⟨rfl, FA.out⟩
  | some m =>
    have GD0 : Hid (fc1 (gtP ls k) (gtP m k) = false ∧ fc2 (gtP ls k) (gtP m k) = false ∧ m.length = n) := ⟨(good_step hkl hO).f1, (good_step hkl hO).f2, by rw [stepO_len hO]; exact HN.out⟩
    rw [hO] at G2
    simp only [Option.isSome_some]
    clear hO
    go_wp2_with fail
    refine (has_any h a n c (k : Int) V2 hn1).mono ?_
    rintro _ V3 ⟨rfl, b3⟩
    have eb : (decide (0 ≤ (k : Int)) && decide ((k : Int) < (n : Int))) = true := by simp; omega
    rw [eb]
    have G3 : Hid (TQ w V3 w.heap.size h a n c ls ∧ TQ w V3 i1 h a1 n c1 m) := ⟨G2.out.1.below b3, G2.out.2.1.below b3⟩
    have F3 : Hid (Below w.heap.size w V3) := G3.out.1.bel
    clear b3 eb G2 l2 s2 hi1
    obtain ⟨g0, o0, rfl⟩ := G3.out.1.sl.some' (by omega)
    obtain ⟨g1, o1, rfl⟩ := G3.out.2.sl.some' (by omega)
    have x16 := G3.out.1.var.t16
    have y16 := G3.out.2.var.t16
    obtain ⟨p, hp⟩ : ∃ p, gtP ls k = p := ⟨_, rfl⟩
    obtain ⟨q, hq⟩ : ∃ q, gtP m k = q := ⟨_, rfl⟩
    have atp : ls[k]? = some p := by rw [← hp]; exact gtP_at hkl
    have atq : m[k]? = some q := by rw [← hq]; exact gtP_at (by rw [GD0.out.2.2]; omega)
    have GD : Hid (fc1 p q = false ∧ fc2 p q = false) := by rw [← hp, ← hq]; exact ⟨GD0.out.1, GD0.out.2.1⟩
    have f0 := fun x : Later V3 => (G3.out.1.below x.below).var.t16
    have f1 := fun x : Later V3 => (G3.out.2.below x.below).var.t16
    have fp := fun x : Later V3 => (G3.out.1.below x.below).sl.ld atp
    have fq := fun x : Later V3 => (G3.out.2.below x.below).sl.ld atq
    clear hp hq GD0 atp atq
    go_upto_region 7 with fail
    clear x16 y16
    obtain ⟨X0, hX0⟩ : ∃ X0, World.drew V3 = X0 := ⟨_, rfl⟩
    have B0 : Hid (Below V3.heap.size V3 X0) := by rw [← hX0]; exact (Below.refl _ _).drew
    refine wp_region_noPanic ?_
    refine wp_region_held_drew (S := fun w' => ∃ x : Later V3, w' = x.val) (by kernel_rfl) ⟨⟨_, (Below.refl _ _).drew⟩, rfl⟩ (fun hHeld => ?_)
    rw [hX0] at hHeld ⊢
    clear hX0
    refine wpAnyH_take (i := 0) (oi := { dst := some 37, op := Op.fieldAddr 31 (Operand.tmp 2) 7, type := 0, pos := "law.go:40", after := #[], guard := none }) (v := ?_) rfl (by kernel_rfl) (by kernel_rfl) (by kernel_rfl) (fun _ _ _ h => h) (Or.inl ⟨by rfl, ?_⟩) hHeld ?_
    rotate_left
    · intro W_ hSw_
      obtain ⟨qq, rfl⟩ := hSw_
      first | (go_simp; done) | (go_simp; with_reducible rfl)
    rotate_left
    try simp only [Act.put, List.setIfInBounds_toArray, List.set_cons_zero, List.set_cons_succ]
    refine wpAnyH_take (i := 1) (oi := { dst := some 38, op := Op.load 29 (Operand.tmp 37), type := 29, pos := "law.go:40", after := #[{ on := 0, ground := Ground.data }], guard := none }) (v := ?_) rfl (by kernel_rfl) (by kernel_rfl) (by kernel_rfl) (fun _ _ _ h => h) (Or.inl ⟨by rfl, ?_⟩) hHeld ?_
    rotate_left
    · intro W_ hSw_
      obtain ⟨qq, rfl⟩ := hSw_
      first | (go_simp; done) | (go_simp; with_reducible rfl)
    rotate_left
    try simp only [Act.put, List.setIfInBounds_toArray, List.set_cons_zero, List.set_cons_succ]
    refine wpAnyH_take (i := 2) (oi := { dst := some 39, op := Op.move (Operand.tmp 1), type := 3, pos := "law.go:40", after := #[], guard := none }) (v := ?_) rfl (by kernel_rfl) (by kernel_rfl) (by kernel_rfl) (fun _ _ _ h => h) (Or.inl ⟨by rfl, ?_⟩) hHeld ?_
    rotate_left
    · intro W_ hSw_
      obtain ⟨qq, rfl⟩ := hSw_
      first | (go_simp; done) | (go_simp; with_reducible rfl)
    rotate_left
    try simp only [Act.put, List.setIfInBounds_toArray, List.set_cons_zero, List.set_cons_succ]
    refine wpAnyH_take (i := 3) (oi := { dst := some 40, op := Op.indexAddr 29 (Operand.tmp 38) (Operand.tmp 39), type := 0, pos := "law.go:40", after := #[{ on := 1, ground := Ground.data }, { on := 2, ground := Ground.data }], guard := none }) (v := ?_) rfl (by kernel_rfl) (by kernel_rfl) (by kernel_rfl) (fun _ _ _ h => h) (Or.inl ⟨by rfl, ?_⟩) hHeld ?_
    rotate_left
    · intro W_ hSw_
      obtain ⟨qq, rfl⟩ := hSw_
      first | (go_simp; done) | (go_simp; with_reducible rfl)
    rotate_left
    try simp only [Act.put, List.setIfInBounds_toArray, List.set_cons_zero, List.set_cons_succ]
    refine wpAnyH_take (i := 4) (oi := { dst := some 41, op := Op.load 45 (Operand.tmp 40), type := 45, pos := "law.go:40", after := #[{ on := 3, ground := Ground.data }], guard := none }) (v := ?_) rfl (by kernel_rfl) (by kernel_rfl) (by kernel_rfl) (fun _ _ _ h => h) (Or.inl ⟨by rfl, ?_⟩) hHeld ?_
    rotate_left
    · intro W_ hSw_
      obtain ⟨qq, rfl⟩ := hSw_
      first | (go_simp; done) | (go_simp; with_reducible rfl)
    rotate_left
    try simp only [Act.put, List.setIfInBounds_toArray, List.set_cons_zero, List.set_cons_succ]
    refine wpAnyH_take (i := 5) (oi := { dst := some 42, op := Op.fieldAddr 31 (Operand.tmp 5) 7, type := 0, pos := "law.go:40", after := #[{ on := 12, ground := Ground.gcOnly Departure.lateStores }], guard := none }) (v := ?_) rfl (by kernel_rfl) (by kernel_rfl) (by kernel_rfl) (fun _ _ _ h => h) (Or.inl ⟨by rfl, ?_⟩) hHeld ?_
    rotate_left
    · intro W_ hSw_
      obtain ⟨qq, rfl⟩ := hSw_
      first | (go_simp; done) | (go_simp; with_reducible rfl)
    rotate_left
    try simp only [Act.put, List.setIfInBounds_toArray, List.set_cons_zero, List.set_cons_succ]
    refine wpAnyH_take (i := 6) (oi := { dst := some 43, op := Op.load 29 (Operand.tmp 42), type := 29, pos := "law.go:40", after := #[{ on := 5, ground := Ground.data }, { on := 12, ground := Ground.gcOnly Departure.lateStores }], guard := none }) (v := ?_) rfl (by kernel_rfl) (by kernel_rfl) (by kernel_rfl) (fun _ _ _ h => h) (Or.inl ⟨by rfl, ?_⟩) hHeld ?_
    rotate_left
    · intro W_ hSw_
      obtain ⟨qq, rfl⟩ := hSw_
      first | (go_simp; done) | (go_simp; with_reducible rfl)
    rotate_left
    try simp only [Act.put, List.setIfInBounds_toArray, List.set_cons_zero, List.set_cons_succ]
    refine wpAnyH_take (i := 7) (oi := { dst := some 44, op := Op.move (Operand.tmp 1), type := 3, pos := "law.go:40", after := #[{ on := 12, ground := Ground.gcOnly Departure.lateStores }], guard := none }) (v := ?_) rfl (by kernel_rfl) (by kernel_rfl) (by kernel_rfl) (fun _ _ _ h => h) (Or.inl ⟨by rfl, ?_⟩) hHeld ?_
    rotate_left
    · intro W_ hSw_
      obtain ⟨qq, rfl⟩ := hSw_
      first | (go_simp; done) | (go_simp; with_reducible rfl)
    rotate_left
    try simp only [Act.put, List.setIfInBounds_toArray, List.set_cons_zero, List.set_cons_succ]
    refine wpAnyH_take (i := 8) (oi := { dst := some 45, op := Op.indexAddr 29 (Operand.tmp 43) (Operand.tmp 44), type := 0, pos := "law.go:40", after := #[{ on := 6, ground := Ground.data }, { on := 7, ground := Ground.data }, { on := 12, ground := Ground.gcOnly Departure.lateStores }], guard := none }) (v := ?_) rfl (by kernel_rfl) (by kernel_rfl) (by kernel_rfl) (fun _ _ _ h => h) (Or.inl ⟨by rfl, ?_⟩) hHeld ?_
    rotate_left
    · intro W_ hSw_
      obtain ⟨qq, rfl⟩ := hSw_
      first | (go_simp; done) | (go_simp; with_reducible rfl)
    rotate_left
    try simp only [Act.put, List.setIfInBounds_toArray, List.set_cons_zero, List.set_cons_succ]
    refine wpAnyH_take (i := 9) (oi := { dst := some 46, op := Op.load 45 (Operand.tmp 45), type := 45, pos := "law.go:40", after := #[{ on := 8, ground := Ground.data }, { on := 12, ground := Ground.gcOnly Departure.lateStores }], guard := none }) (v := ?_) rfl (by kernel_rfl) (by kernel_rfl) (by kernel_rfl) (fun _ _ _ h => h) (Or.inl ⟨by rfl, ?_⟩) hHeld ?_
    rotate_left
    · intro W_ hSw_
      obtain ⟨qq, rfl⟩ := hSw_
      first | (go_simp; done) | (go_simp; with_reducible rfl)
    rotate_left
    try simp only [Act.put, List.setIfInBounds_toArray, List.set_cons_zero, List.set_cons_succ]
    refine wpAnyH_ready (rs := [10, 11]) (by kernel_rfl) (by simp) ?_
    refine AllReadyH.cons (o := { dst := some 7, op := Op.alloc 45, type := 0, pos := "law.go:40", after := #[], guard := none }) rfl (fun K hK => ?_) (AllReadyH.cons (o := { dst := some 8, op := Op.alloc 45, type := 0, pos := "law.go:40", after := #[], guard := none }) rfl (fun K hK => ?_) AllReadyH.nil)
    · skip
      obtain ⟨XA, XB, q1, q2, ra, rb, bA, bB⟩ := pair_a X0 p q
      obtain ⟨xs, hxs⟩ : ∃ z, X0.heap.size = z := ⟨_, rfl⟩
      rw [hxs] at q1 q2 ra rb
      have BA : Hid (Below V3.heap.size V3 XA ∧ Below V3.heap.size V3 XB) := ⟨below_over B0.out bA, below_over B0.out bB⟩
      have RR : Hid (RvAt XB xs 45 p.cs ∧ RvAt XB (xs + 1) 45 q.cs) := ⟨ra, rb⟩
      have C1 : Hid (Below V3.heap.size V3 (X0.alloc (.cells zeroP.cs 45))) := below_over B0.out ((Below.refl _ _).alloc (Nat.le_refl _) _)
      have C2 : Hid (Below V3.heap.size V3 ((X0.alloc (.cells zeroP.cs 45)).alloc (.cells zeroP.cs 45))) := C1.out.trans ((Below.refl _ _).alloc C1.out.size _)
      clear ra rb bA bB
      go_simp
      clear hHeld
      refine hK.out _ _ ⟨⟨_, C1.out⟩, rfl⟩ (fun hHeld => ?_)
      clear hK K
      try simp only [Act.put, List.setIfInBounds_toArray, List.set_cons_zero, List.set_cons_succ]
      refine wpAnyH_ready (rs := [11]) (by kernel_rfl) (by simp) ?_
      refine AllReadyH.cons (o := { dst := some 8, op := Op.alloc 45, type := 0, pos := "law.go:40", after := #[], guard := none }) rfl (fun K hK => ?_) AllReadyH.nil
      go_simp
      clear hHeld
      refine hK.out _ _ ⟨⟨_, C2.out⟩, rfl⟩ (fun hHeld => ?_)
      clear hK K
      try simp only [Act.put, List.setIfInBounds_toArray, List.set_cons_zero, List.set_cons_succ]
      refine wpAnyH_ready (rs := [12]) (by kernel_rfl) (by simp) ?_
      refine AllReadyH.cons (o := { dst := none, op := Op.store 45 (Operand.tmp 7) (Operand.tmp 41), type := 0, pos := "law.go:40", after := #[{ on := 10, ground := Ground.data }, { on := 4, ground := Ground.data }, { on := 0, ground := Ground.phase }, { on := 1, ground := Ground.phase }, { on := 2, ground := Ground.phase }, { on := 3, ground := Ground.phase }, { on := 4, ground := Ground.phase }, { on := 5, ground := Ground.textOnly Departure.lateStores }, { on := 6, ground := Ground.textOnly Departure.lateStores }, { on := 7, ground := Ground.textOnly Departure.lateStores }, { on := 8, ground := Ground.textOnly Departure.lateStores }, { on := 9, ground := Ground.textOnly Departure.lateStores }, { on := 10, ground := Ground.phase }, { on := 11, ground := Ground.phase }], guard := none }) rfl (fun K hK => ?_) AllReadyH.nil
      go_simp
      clear hHeld
      refine hK.out _ _ ⟨⟨_, BA.out.1⟩, rfl⟩ (fun hHeld => ?_)
      clear hK K
      try simp only [Act.put, List.setIfInBounds_toArray, List.set_cons_zero, List.set_cons_succ]
      refine wpAnyH_ready (rs := [13]) (by kernel_rfl) (by simp) ?_
      refine AllReadyH.cons (o := { dst := none, op := Op.store 45 (Operand.tmp 8) (Operand.tmp 46), type := 0, pos := "law.go:40", after := #[{ on := 11, ground := Ground.data }, { on := 9, ground := Ground.data }, { on := 12, ground := Ground.chain }, { on := 0, ground := Ground.phase }, { on := 1, ground := Ground.phase }, { on := 2, ground := Ground.phase }, { on := 3, ground := Ground.phase }, { on := 4, ground := Ground.phase }, { on := 5, ground := Ground.phase }, { on := 6, ground := Ground.phase }, { on := 7, ground := Ground.phase }, { on := 8, ground := Ground.phase }, { on := 9, ground := Ground.phase }, { on := 10, ground := Ground.phase }, { on := 11, ground := Ground.phase }, { on := 12, ground := Ground.phase }], guard := none }) rfl (fun K hK => ?_) AllReadyH.nil
      go_simp
      clear hHeld
      refine hK.out _ _ ⟨⟨_, BA.out.2⟩, rfl⟩ (fun hHeld => ?_)
      clear hK K
      try simp only [Act.put, List.setIfInBounds_toArray, List.set_cons_zero, List.set_cons_succ]
      refine wpAnyH_done (by kernel_rfl) ?_ _
      refine NoPanic.normal ?_
      clear hHeld
      clear q1 q2 C1 C2
      have NE : Hid (xs ≠ xs + 1) := by exact (by omega : xs ≠ xs + 1)
      have LZ : Hid (V3.heap.size ≤ xs ∧ V3.heap.size ≤ xs + 1) := by have := B0.out.size; exact ⟨by omega, by omega⟩
      obtain ⟨ys, hys⟩ : ∃ z, xs + 1 = z := ⟨_, rfl⟩
      rw [hys] at RR NE LZ ⊢
      clear hys hxs
      have Rp := RR.out.1.rdE
      have Rq := RR.out.2.rdE
      have FB : Hid (Below w.heap.size w XB) := below_over F3.out BA.out.2
      go_upto_region 8 with fail
      refine wp_plain (C := fun w' => w' = XB) rfl ?_
      refine q_put (v := .pointer (some ⟨ys, 0 + 7, none⟩)) (yq rfl (Rn.qt (qfield rfl rfl fp7))) ?_
      try simp only [Act.put, List.setIfInBounds_toArray, List.set_cons_zero, List.set_cons_succ]
      refine q_put (v := .bool (q.bt 7)) (yq rfl (Rn.qt (qload rfl rfl (Rq.bit rfl)))) ?_
      try simp only [Act.put, List.setIfInBounds_toArray, List.set_cons_zero, List.set_cons_succ]
      refine q_put (v := .bool (q.bt 7)) (yq rfl (Rn.qt (qmove rfl rfl))) ?_
      try simp only [Act.put, List.setIfInBounds_toArray, List.set_cons_zero, List.set_cons_succ]
      refine q_put (v := gd (q.bt 7) true (.pointer (some ⟨xs, 0 + 7, none⟩))) (yq1 rfl rfl (fun e => Rn.qt (qfield rfl rfl fp7))) ?_
      try simp only [Act.put, List.setIfInBounds_toArray, List.set_cons_zero, List.set_cons_succ]
      refine q_put (v := gd (q.bt 7) true (.bool (p.bt 7))) (yq1 rfl rfl (fun e => Rn.qt (qload rfl (on e rfl) (Rp.bit rfl)))) ?_
      try simp only [Act.put, List.setIfInBounds_toArray, List.set_cons_zero, List.set_cons_succ]
      refine q_put (v := gd (q.bt 7) true (.bool (!(p.bt 7)))) (yq1 rfl rfl (fun e => Rn.qt (qnot rfl (on e rfl)))) ?_
      try simp only [Act.put, List.setIfInBounds_toArray, List.set_cons_zero, List.set_cons_succ]
      refine q_put (v := .bool ((q.bt 7) && (!(p.bt 7)))) (yq rfl (Rn.qt (qpick rfl rfl (pkA rfl rfl)))) ?_
      try simp only [Act.put, List.setIfInBounds_toArray, List.set_cons_zero, List.set_cons_succ]
      refine q_put (v := .bool ((q.bt 7) && (!(p.bt 7)))) (yq rfl (Rn.qt (qmove rfl rfl))) ?_
      try simp only [Act.put, List.setIfInBounds_toArray, List.set_cons_zero, List.set_cons_succ]
      refine q_put (v := gd ((q.bt 7) && (!(p.bt 7))) true (.pointer (some ⟨xs, 0 + 9, none⟩))) (yq1 rfl rfl (fun e => Rn.qt (qfield rfl rfl fp9))) ?_
      try simp only [Act.put, List.setIfInBounds_toArray, List.set_cons_zero, List.set_cons_succ]
      refine q_put (v := gd ((q.bt 7) && (!(p.bt 7))) true (.bool (p.bt 9))) (yq1 rfl rfl (fun e => Rn.qt (qload rfl (on e rfl) (Rp.bit rfl)))) ?_
      try simp only [Act.put, List.setIfInBounds_toArray, List.set_cons_zero, List.set_cons_succ]
      refine q_put (v := gd ((q.bt 7) && (!(p.bt 7))) true (.bool (!(p.bt 9)))) (yq1 rfl rfl (fun e => Rn.qt (qnot rfl (on e rfl)))) ?_
      try simp only [Act.put, List.setIfInBounds_toArray, List.set_cons_zero, List.set_cons_succ]
      refine q_put (v := gd ((q.bt 7) && (!(p.bt 7))) true (.bool (!(p.bt 9)))) (yq1 rfl rfl (fun e => Rn.qt (qmove rfl (on e rfl)))) ?_
      try simp only [Act.put, List.setIfInBounds_toArray, List.set_cons_zero, List.set_cons_succ]
      refine q_put (v := gd ((q.bt 7) && (!(p.bt 7))) true (gd (!(p.bt 9)) false (.pointer (some ⟨ys, 0 + 9, none⟩)))) (yq2 rfl rfl (fun e1 e2 => Rn.qt (qfield rfl rfl fp9))) ?_
      try simp only [Act.put, List.setIfInBounds_toArray, List.set_cons_zero, List.set_cons_succ]
      refine q_put (v := gd ((q.bt 7) && (!(p.bt 7))) true (gd (!(p.bt 9)) false (.bool (q.bt 9)))) (yq2 rfl rfl (fun e1 e2 => Rn.qt (qload rfl (on e2 (on e1 rfl)) (Rq.bit rfl)))) ?_
      try simp only [Act.put, List.setIfInBounds_toArray, List.set_cons_zero, List.set_cons_succ]
      refine q_put (v := gd ((q.bt 7) && (!(p.bt 7))) true (gd (!(p.bt 9)) false (.bool (!(q.bt 9))))) (yq2 rfl rfl (fun e1 e2 => Rn.qt (qnot rfl (on e2 (on e1 rfl))))) ?_
      try simp only [Act.put, List.setIfInBounds_toArray, List.set_cons_zero, List.set_cons_succ]
      refine q_put (v := gd ((q.bt 7) && (!(p.bt 7))) true (.bool ((!(p.bt 9)) || (!(q.bt 9))))) (yq1 rfl rfl (fun e => Rn.qt (qpick rfl (on e rfl) (pkO rfl (on e rfl))))) ?_
      try simp only [Act.put, List.setIfInBounds_toArray, List.set_cons_zero, List.set_cons_succ]
      refine q_put (v := gd ((q.bt 7) && (!(p.bt 7))) true (.bool ((!(p.bt 9)) || (!(q.bt 9))))) (yq1 rfl rfl (fun e => Rn.qt (qmove rfl (on e rfl)))) ?_
      try simp only [Act.put, List.setIfInBounds_toArray, List.set_cons_zero, List.set_cons_succ]
      refine q_put (v := gd ((q.bt 7) && (!(p.bt 7))) true (gd ((!(p.bt 9)) || (!(q.bt 9))) false (.pointer (some ⟨ys, 0 + 30, none⟩)))) (yq2 rfl rfl (fun e1 e2 => Rn.qt (qfield rfl rfl fp30))) ?_
      try simp only [Act.put, List.setIfInBounds_toArray, List.set_cons_zero, List.set_cons_succ]
      refine q_put (v := gd ((q.bt 7) && (!(p.bt 7))) true (gd ((!(p.bt 9)) || (!(q.bt 9))) false (.int .i64 (q.nm 30)))) (yq2 rfl rfl (fun e1 e2 => Rn.qt (qload rfl (on e2 (on e1 rfl)) (Rq.role rfl)))) ?_
      try simp only [Act.put, List.setIfInBounds_toArray, List.set_cons_zero, List.set_cons_succ]
      refine q_put (v := gd ((q.bt 7) && (!(p.bt 7))) true (gd ((!(p.bt 9)) || (!(q.bt 9))) false (.bool ((q.nm 30) != 3)))) (yq2 rfl rfl (fun e1 e2 => Rn.qt (qbin rfl (on e2 (on e1 rfl)) rfl (eg_role _ _ _ _ _) (ne_role _ _)))) ?_
      try simp only [Act.put, List.setIfInBounds_toArray, List.set_cons_zero, List.set_cons_succ]
      refine q_put (v := gd ((q.bt 7) && (!(p.bt 7))) true (gd ((!(p.bt 9)) || (!(q.bt 9))) false (.bool ((q.nm 30) != 3)))) (yq2 rfl rfl (fun e1 e2 => Rn.qt (qmove rfl (on e2 (on e1 rfl))))) ?_
      try simp only [Act.put, List.setIfInBounds_toArray, List.set_cons_zero, List.set_cons_succ]
      refine q_put (v := gd ((q.bt 7) && (!(p.bt 7))) true (gd ((!(p.bt 9)) || (!(q.bt 9))) false (gd ((q.nm 30) != 3) true (.pointer (some ⟨ys, 0 + 30, none⟩))))) (yq3 rfl rfl (fun e1 e2 e3 => Rn.qt (qfield rfl rfl fp30))) ?_
      try simp only [Act.put, List.setIfInBounds_toArray, List.set_cons_zero, List.set_cons_succ]
      refine q_put (v := gd ((q.bt 7) && (!(p.bt 7))) true (gd ((!(p.bt 9)) || (!(q.bt 9))) false (gd ((q.nm 30) != 3) true (.int .i64 (q.nm 30))))) (yq3 rfl rfl (fun e1 e2 e3 => Rn.qt (qload rfl (on e3 (on e2 (on e1 rfl))) (Rq.role rfl)))) ?_
      try simp only [Act.put, List.setIfInBounds_toArray, List.set_cons_zero, List.set_cons_succ]
      refine q_put (v := gd ((q.bt 7) && (!(p.bt 7))) true (gd ((!(p.bt 9)) || (!(q.bt 9))) false (gd ((q.nm 30) != 3) true (.bool ((q.nm 30) != 4))))) (yq3 rfl rfl (fun e1 e2 e3 => Rn.qt (qbin rfl (on e3 (on e2 (on e1 rfl))) rfl (eg_role _ _ _ _ _) (ne_role _ _)))) ?_
      try simp only [Act.put, List.setIfInBounds_toArray, List.set_cons_zero, List.set_cons_succ]
      refine q_put (v := gd ((q.bt 7) && (!(p.bt 7))) true (gd ((!(p.bt 9)) || (!(q.bt 9))) false (.bool (((q.nm 30) != 3) && ((q.nm 30) != 4))))) (yq2 rfl rfl (fun e1 e2 => Rn.qt (qpick rfl (on e2 (on e1 rfl)) (pkA (on e2 (on e1 rfl)) rfl)))) ?_
      try simp only [Act.put, List.setIfInBounds_toArray, List.set_cons_zero, List.set_cons_succ]
      refine q_put (v := gd ((q.bt 7) && (!(p.bt 7))) true (gd ((!(p.bt 9)) || (!(q.bt 9))) false (.bool (((q.nm 30) != 3) && ((q.nm 30) != 4))))) (yq2 rfl rfl (fun e1 e2 => Rn.qt (qmove rfl (on e2 (on e1 rfl))))) ?_
      try simp only [Act.put, List.setIfInBounds_toArray, List.set_cons_zero, List.set_cons_succ]
      refine q_put (v := gd ((q.bt 7) && (!(p.bt 7))) true (gd ((!(p.bt 9)) || (!(q.bt 9))) false (gd (((q.nm 30) != 3) && ((q.nm 30) != 4)) true (.pointer (some ⟨xs, 0 + 73, none⟩))))) (yq3 rfl rfl (fun e1 e2 e3 => Rn.qt (qfield rfl rfl fp46))) ?_
      try simp only [Act.put, List.setIfInBounds_toArray, List.set_cons_zero, List.set_cons_succ]
      refine q_put (v := gd ((q.bt 7) && (!(p.bt 7))) true (gd ((!(p.bt 9)) || (!(q.bt 9))) false (gd (((q.nm 30) != 3) && ((q.nm 30) != 4)) true (.int .i64 (p.nm 73))))) (yq3 rfl rfl (fun e1 e2 e3 => Rn.qt (qload rfl (on e3 (on e2 (on e1 rfl))) (Rp.state rfl)))) ?_
      try simp only [Act.put, List.setIfInBounds_toArray, List.set_cons_zero, List.set_cons_succ]
      refine q_put (v := gd ((q.bt 7) && (!(p.bt 7))) true (gd ((!(p.bt 9)) || (!(q.bt 9))) false (gd (((q.nm 30) != 3) && ((q.nm 30) != 4)) true (.bool ((p.nm 73) != 3))))) (yq3 rfl rfl (fun e1 e2 e3 => Rn.qt (qbin rfl (on e3 (on e2 (on e1 rfl))) rfl (eg_state _ _ _ _ _) (ne_state _ _)))) ?_
      try simp only [Act.put, List.setIfInBounds_toArray, List.set_cons_zero, List.set_cons_succ]
      refine q_put (v := gd ((q.bt 7) && (!(p.bt 7))) true (gd ((!(p.bt 9)) || (!(q.bt 9))) false (.bool ((((q.nm 30) != 3) && ((q.nm 30) != 4)) && ((p.nm 73) != 3))))) (yq2 rfl rfl (fun e1 e2 => Rn.qt (qpick rfl (on e2 (on e1 rfl)) (pkA (on e2 (on e1 rfl)) rfl)))) ?_
      try simp only [Act.put, List.setIfInBounds_toArray, List.set_cons_zero, List.set_cons_succ]
      refine q_put (v := gd ((q.bt 7) && (!(p.bt 7))) true (gd ((!(p.bt 9)) || (!(q.bt 9))) false (.bool ((((q.nm 30) != 3) && ((q.nm 30) != 4)) && ((p.nm 73) != 3))))) (yq2 rfl rfl (fun e1 e2 => Rn.qt (qmove rfl (on e2 (on e1 rfl))))) ?_
      try simp only [Act.put, List.setIfInBounds_toArray, List.set_cons_zero, List.set_cons_succ]
      refine q_put (v := gd ((q.bt 7) && (!(p.bt 7))) true (gd ((!(p.bt 9)) || (!(q.bt 9))) false (gd ((((q.nm 30) != 3) && ((q.nm 30) != 4)) && ((p.nm 73) != 3)) true (.pointer (some ⟨xs, 0 + 73, none⟩))))) (yq3 rfl rfl (fun e1 e2 e3 => Rn.qt (qfield rfl rfl fp46))) ?_
      try simp only [Act.put, List.setIfInBounds_toArray, List.set_cons_zero, List.set_cons_succ]
      refine q_put (v := gd ((q.bt 7) && (!(p.bt 7))) true (gd ((!(p.bt 9)) || (!(q.bt 9))) false (gd ((((q.nm 30) != 3) && ((q.nm 30) != 4)) && ((p.nm 73) != 3)) true (.int .i64 (p.nm 73))))) (yq3 rfl rfl (fun e1 e2 e3 => Rn.qt (qload rfl (on e3 (on e2 (on e1 rfl))) (Rp.state rfl)))) ?_
      try simp only [Act.put, List.setIfInBounds_toArray, List.set_cons_zero, List.set_cons_succ]
      refine q_put (v := gd ((q.bt 7) && (!(p.bt 7))) true (gd ((!(p.bt 9)) || (!(q.bt 9))) false (gd ((((q.nm 30) != 3) && ((q.nm 30) != 4)) && ((p.nm 73) != 3)) true (.bool ((p.nm 73) != 4))))) (yq3 rfl rfl (fun e1 e2 e3 => Rn.qt (qbin rfl (on e3 (on e2 (on e1 rfl))) rfl (eg_state _ _ _ _ _) (ne_state _ _)))) ?_
      try simp only [Act.put, List.setIfInBounds_toArray, List.set_cons_zero, List.set_cons_succ]
      refine q_put (v := gd ((q.bt 7) && (!(p.bt 7))) true (gd ((!(p.bt 9)) || (!(q.bt 9))) false (.bool (((((q.nm 30) != 3) && ((q.nm 30) != 4)) && ((p.nm 73) != 3)) && ((p.nm 73) != 4))))) (yq2 rfl rfl (fun e1 e2 => Rn.qt (qpick rfl (on e2 (on e1 rfl)) (pkA (on e2 (on e1 rfl)) rfl)))) ?_
      try simp only [Act.put, List.setIfInBounds_toArray, List.set_cons_zero, List.set_cons_succ]
      refine q_put (v := gd ((q.bt 7) && (!(p.bt 7))) true (.bool (((!(p.bt 9)) || (!(q.bt 9))) || (((((q.nm 30) != 3) && ((q.nm 30) != 4)) && ((p.nm 73) != 3)) && ((p.nm 73) != 4))))) (yq1 rfl rfl (fun e => Rn.qt (qpick rfl (on e rfl) (pkO rfl (on e rfl))))) ?_
      try simp only [Act.put, List.setIfInBounds_toArray, List.set_cons_zero, List.set_cons_succ]
      refine q_put (v := .bool (((q.bt 7) && (!(p.bt 7))) && (((!(p.bt 9)) || (!(q.bt 9))) || (((((q.nm 30) != 3) && ((q.nm 30) != 4)) && ((p.nm 73) != 3)) && ((p.nm 73) != 4))))) (yq rfl (Rn.qt (qpick rfl rfl (pkA rfl rfl)))) ?_
      try simp only [Act.put, List.setIfInBounds_toArray, List.set_cons_zero, List.set_cons_succ]
      refine wpQuiet_nil ?_
      rintro y_ hy_
      rw [hy_]
      clear hy_ y_
      have hc := GD.out.1
      unfold fc1 at hc
      rw [hc]
      clear hc
      go_upto_region 10 with fail
      refine wp_plain (C := fun w' => w' = XB) rfl ?_
      refine q_put (v := .pointer (some ⟨ys, 0 + 30, none⟩)) (yq rfl (Rn.qt (qfield rfl rfl fp30))) ?_
      try simp only [Act.put, List.setIfInBounds_toArray, List.set_cons_zero, List.set_cons_succ]
      refine q_put (v := .int .i64 (q.nm 30)) (yq rfl (Rn.qt (qload rfl rfl (Rq.role rfl)))) ?_
      try simp only [Act.put, List.setIfInBounds_toArray, List.set_cons_zero, List.set_cons_succ]
      refine q_put (v := .pointer (some ⟨xs, 0 + 30, none⟩)) (yq rfl (Rn.qt (qfield rfl rfl fp30))) ?_
      try simp only [Act.put, List.setIfInBounds_toArray, List.set_cons_zero, List.set_cons_succ]
      refine q_put (v := .int .i64 (p.nm 30)) (yq rfl (Rn.qt (qload rfl rfl (Rp.role rfl)))) ?_
      try simp only [Act.put, List.setIfInBounds_toArray, List.set_cons_zero, List.set_cons_succ]
      refine q_put (v := .bool ((q.nm 30) != (p.nm 30))) (yq rfl (Rn.qt (qbin rfl rfl rfl (eg_role _ _ _ _ _) (ne_role _ _)))) ?_
      try simp only [Act.put, List.setIfInBounds_toArray, List.set_cons_zero, List.set_cons_succ]
      refine q_put (v := .bool ((q.nm 30) != (p.nm 30))) (yq rfl (Rn.qt (qmove rfl rfl))) ?_
      try simp only [Act.put, List.setIfInBounds_toArray, List.set_cons_zero, List.set_cons_succ]
      refine q_put (v := gd ((q.nm 30) != (p.nm 30)) true (.pointer (some ⟨ys, 0 + 30, none⟩))) (yq1 rfl rfl (fun e => Rn.qt (qfield rfl rfl fp30))) ?_
      try simp only [Act.put, List.setIfInBounds_toArray, List.set_cons_zero, List.set_cons_succ]
      refine q_put (v := gd ((q.nm 30) != (p.nm 30)) true (.int .i64 (q.nm 30))) (yq1 rfl rfl (fun e => Rn.qt (qload rfl (on e rfl) (Rq.role rfl)))) ?_
      try simp only [Act.put, List.setIfInBounds_toArray, List.set_cons_zero, List.set_cons_succ]
      refine q_put (v := gd ((q.nm 30) != (p.nm 30)) true (.bool ((q.nm 30) != 3))) (yq1 rfl rfl (fun e => Rn.qt (qbin rfl (on e rfl) rfl (eg_role _ _ _ _ _) (ne_role _ _)))) ?_
      try simp only [Act.put, List.setIfInBounds_toArray, List.set_cons_zero, List.set_cons_succ]
      refine q_put (v := .bool (((q.nm 30) != (p.nm 30)) && ((q.nm 30) != 3))) (yq rfl (Rn.qt (qpick rfl rfl (pkA rfl rfl)))) ?_
      try simp only [Act.put, List.setIfInBounds_toArray, List.set_cons_zero, List.set_cons_succ]
      refine q_put (v := .bool (((q.nm 30) != (p.nm 30)) && ((q.nm 30) != 3))) (yq rfl (Rn.qt (qmove rfl rfl))) ?_
      try simp only [Act.put, List.setIfInBounds_toArray, List.set_cons_zero, List.set_cons_succ]
      refine q_put (v := gd (((q.nm 30) != (p.nm 30)) && ((q.nm 30) != 3)) true (.pointer (some ⟨ys, 0 + 30, none⟩))) (yq1 rfl rfl (fun e => Rn.qt (qfield rfl rfl fp30))) ?_
      try simp only [Act.put, List.setIfInBounds_toArray, List.set_cons_zero, List.set_cons_succ]
      refine q_put (v := gd (((q.nm 30) != (p.nm 30)) && ((q.nm 30) != 3)) true (.int .i64 (q.nm 30))) (yq1 rfl rfl (fun e => Rn.qt (qload rfl (on e rfl) (Rq.role rfl)))) ?_
      try simp only [Act.put, List.setIfInBounds_toArray, List.set_cons_zero, List.set_cons_succ]
      refine q_put (v := gd (((q.nm 30) != (p.nm 30)) && ((q.nm 30) != 3)) true (.bool ((q.nm 30) != 4))) (yq1 rfl rfl (fun e => Rn.qt (qbin rfl (on e rfl) rfl (eg_role _ _ _ _ _) (ne_role _ _)))) ?_
      try simp only [Act.put, List.setIfInBounds_toArray, List.set_cons_zero, List.set_cons_succ]
      refine q_put (v := .bool ((((q.nm 30) != (p.nm 30)) && ((q.nm 30) != 3)) && ((q.nm 30) != 4))) (yq rfl (Rn.qt (qpick rfl rfl (pkA rfl rfl)))) ?_
      try simp only [Act.put, List.setIfInBounds_toArray, List.set_cons_zero, List.set_cons_succ]
      refine q_put (v := .bool ((((q.nm 30) != (p.nm 30)) && ((q.nm 30) != 3)) && ((q.nm 30) != 4))) (yq rfl (Rn.qt (qmove rfl rfl))) ?_
      try simp only [Act.put, List.setIfInBounds_toArray, List.set_cons_zero, List.set_cons_succ]
      refine q_put (v := gd ((((q.nm 30) != (p.nm 30)) && ((q.nm 30) != 3)) && ((q.nm 30) != 4)) true (.pointer (some ⟨ys, 0 + 9, none⟩))) (yq1 rfl rfl (fun e => Rn.qt (qfield rfl rfl fp9))) ?_
      try simp only [Act.put, List.setIfInBounds_toArray, List.set_cons_zero, List.set_cons_succ]
      refine q_put (v := gd ((((q.nm 30) != (p.nm 30)) && ((q.nm 30) != 3)) && ((q.nm 30) != 4)) true (.bool (q.bt 9))) (yq1 rfl rfl (fun e => Rn.qt (qload rfl (on e rfl) (Rq.bit rfl)))) ?_
      try simp only [Act.put, List.setIfInBounds_toArray, List.set_cons_zero, List.set_cons_succ]
      refine q_put (v := gd ((((q.nm 30) != (p.nm 30)) && ((q.nm 30) != 3)) && ((q.nm 30) != 4)) true (.bool (q.bt 9))) (yq1 rfl rfl (fun e => Rn.qt (qmove rfl (on e rfl)))) ?_
      try simp only [Act.put, List.setIfInBounds_toArray, List.set_cons_zero, List.set_cons_succ]
      refine q_put (v := gd ((((q.nm 30) != (p.nm 30)) && ((q.nm 30) != 3)) && ((q.nm 30) != 4)) true (gd (q.bt 9) false (.pointer (some ⟨ys, 0 + 7, none⟩)))) (yq2 rfl rfl (fun e1 e2 => Rn.qt (qfield rfl rfl fp7))) ?_
      try simp only [Act.put, List.setIfInBounds_toArray, List.set_cons_zero, List.set_cons_succ]
      refine q_put (v := gd ((((q.nm 30) != (p.nm 30)) && ((q.nm 30) != 3)) && ((q.nm 30) != 4)) true (gd (q.bt 9) false (.bool (q.bt 7)))) (yq2 rfl rfl (fun e1 e2 => Rn.qt (qload rfl (on e2 (on e1 rfl)) (Rq.bit rfl)))) ?_
      try simp only [Act.put, List.setIfInBounds_toArray, List.set_cons_zero, List.set_cons_succ]
      refine q_put (v := gd ((((q.nm 30) != (p.nm 30)) && ((q.nm 30) != 3)) && ((q.nm 30) != 4)) true (.bool ((q.bt 9) || (q.bt 7)))) (yq1 rfl rfl (fun e => Rn.qt (qpick rfl (on e rfl) (pkO rfl (on e rfl))))) ?_
      try simp only [Act.put, List.setIfInBounds_toArray, List.set_cons_zero, List.set_cons_succ]
      refine q_put (v := .bool (((((q.nm 30) != (p.nm 30)) && ((q.nm 30) != 3)) && ((q.nm 30) != 4)) && ((q.bt 9) || (q.bt 7)))) (yq rfl (Rn.qt (qpick rfl rfl (pkA rfl rfl)))) ?_
      try simp only [Act.put, List.setIfInBounds_toArray, List.set_cons_zero, List.set_cons_succ]
      refine wpQuiet_nil ?_
      rintro y_ hy_
      rw [hy_]
      clear hy_ y_
      have hc := GD.out.2
      unfold fc2 at hc
      rw [hc]
      clear hc
      clear Rp Rq RR
      go_wp2_with fail
      refine (awake_any _).mono ?_
      rintro _ VA ⟨rfl, bA⟩
      have FA : Hid (Below w.heap.size w VA) := below_over FB.out bA
      clear bA
      go_wp2
      go_ret
      exact ⟨rfl, FA.out⟩
    · skip
      obtain ⟨XA, XB, q1, q2, ra, rb, bA, bB⟩ := pair_b X0 p q
      obtain ⟨xs, hxs⟩ : ∃ z, X0.heap.size = z := ⟨_, rfl⟩
      rw [hxs] at q1 q2 ra rb
      have BA : Hid (Below V3.heap.size V3 XA ∧ Below V3.heap.size V3 XB) := ⟨below_over B0.out bA, below_over B0.out bB⟩
      have RR : Hid (RvAt XB (xs + 1) 45 p.cs ∧ RvAt XB xs 45 q.cs) := ⟨ra, rb⟩
      have C1 : Hid (Below V3.heap.size V3 (X0.alloc (.cells zeroP.cs 45))) := below_over B0.out ((Below.refl _ _).alloc (Nat.le_refl _) _)
      have C2 : Hid (Below V3.heap.size V3 ((X0.alloc (.cells zeroP.cs 45)).alloc (.cells zeroP.cs 45))) := C1.out.trans ((Below.refl _ _).alloc C1.out.size _)
      clear ra rb bA bB
      go_simp
      clear hHeld
      refine hK.out _ _ ⟨⟨_, C1.out⟩, rfl⟩ (fun hHeld => ?_)
      clear hK K
      try simp only [Act.put, List.setIfInBounds_toArray, List.set_cons_zero, List.set_cons_succ]
      refine wpAnyH_ready (rs := [10]) (by kernel_rfl) (by simp) ?_
      refine AllReadyH.cons (o := { dst := some 7, op := Op.alloc 45, type := 0, pos := "law.go:40", after := #[], guard := none }) rfl (fun K hK => ?_) AllReadyH.nil
      go_simp
      clear hHeld
      refine hK.out _ _ ⟨⟨_, C2.out⟩, rfl⟩ (fun hHeld => ?_)
      clear hK K
      try simp only [Act.put, List.setIfInBounds_toArray, List.set_cons_zero, List.set_cons_succ]
      refine wpAnyH_ready (rs := [12]) (by kernel_rfl) (by simp) ?_
      refine AllReadyH.cons (o := { dst := none, op := Op.store 45 (Operand.tmp 7) (Operand.tmp 41), type := 0, pos := "law.go:40", after := #[{ on := 10, ground := Ground.data }, { on := 4, ground := Ground.data }, { on := 0, ground := Ground.phase }, { on := 1, ground := Ground.phase }, { on := 2, ground := Ground.phase }, { on := 3, ground := Ground.phase }, { on := 4, ground := Ground.phase }, { on := 5, ground := Ground.textOnly Departure.lateStores }, { on := 6, ground := Ground.textOnly Departure.lateStores }, { on := 7, ground := Ground.textOnly Departure.lateStores }, { on := 8, ground := Ground.textOnly Departure.lateStores }, { on := 9, ground := Ground.textOnly Departure.lateStores }, { on := 10, ground := Ground.phase }, { on := 11, ground := Ground.phase }], guard := none }) rfl (fun K hK => ?_) AllReadyH.nil
      go_simp
      clear hHeld
      refine hK.out _ _ ⟨⟨_, BA.out.1⟩, rfl⟩ (fun hHeld => ?_)
      clear hK K
      try simp only [Act.put, List.setIfInBounds_toArray, List.set_cons_zero, List.set_cons_succ]
      refine wpAnyH_ready (rs := [13]) (by kernel_rfl) (by simp) ?_
      refine AllReadyH.cons (o := { dst := none, op := Op.store 45 (Operand.tmp 8) (Operand.tmp 46), type := 0, pos := "law.go:40", after := #[{ on := 11, ground := Ground.data }, { on := 9, ground := Ground.data }, { on := 12, ground := Ground.chain }, { on := 0, ground := Ground.phase }, { on := 1, ground := Ground.phase }, { on := 2, ground := Ground.phase }, { on := 3, ground := Ground.phase }, { on := 4, ground := Ground.phase }, { on := 5, ground := Ground.phase }, { on := 6, ground := Ground.phase }, { on := 7, ground := Ground.phase }, { on := 8, ground := Ground.phase }, { on := 9, ground := Ground.phase }, { on := 10, ground := Ground.phase }, { on := 11, ground := Ground.phase }, { on := 12, ground := Ground.phase }], guard := none }) rfl (fun K hK => ?_) AllReadyH.nil
      go_simp
      clear hHeld
      refine hK.out _ _ ⟨⟨_, BA.out.2⟩, rfl⟩ (fun hHeld => ?_)
      clear hK K
      try simp only [Act.put, List.setIfInBounds_toArray, List.set_cons_zero, List.set_cons_succ]
      refine wpAnyH_done (by kernel_rfl) ?_ _
      refine NoPanic.normal ?_
      clear hHeld
      clear q1 q2 C1 C2
      have NE : Hid (xs ≠ xs + 1) := by exact (by omega : xs ≠ xs + 1)
      have LZ : Hid (V3.heap.size ≤ xs ∧ V3.heap.size ≤ xs + 1) := by have := B0.out.size; exact ⟨by omega, by omega⟩
      obtain ⟨ys, hys⟩ : ∃ z, xs + 1 = z := ⟨_, rfl⟩
      rw [hys] at RR NE LZ ⊢
      clear hys hxs
      have Rp := RR.out.1.rdE
      have Rq := RR.out.2.rdE
      have FB : Hid (Below w.heap.size w XB) := below_over F3.out BA.out.2
      go_upto_region 8 with fail
      refine wp_plain (C := fun w' => w' = XB) rfl ?_
      refine q_put (v := .pointer (some ⟨xs, 0 + 7, none⟩)) (yq rfl (Rn.qt (qfield rfl rfl fp7))) ?_
      try simp only [Act.put, List.setIfInBounds_toArray, List.set_cons_zero, List.set_cons_succ]
      refine q_put (v := .bool (q.bt 7)) (yq rfl (Rn.qt (qload rfl rfl (Rq.bit rfl)))) ?_
      try simp only [Act.put, List.setIfInBounds_toArray, List.set_cons_zero, List.set_cons_succ]
      refine q_put (v := .bool (q.bt 7)) (yq rfl (Rn.qt (qmove rfl rfl))) ?_
      try simp only [Act.put, List.setIfInBounds_toArray, List.set_cons_zero, List.set_cons_succ]
      refine q_put (v := gd (q.bt 7) true (.pointer (some ⟨ys, 0 + 7, none⟩))) (yq1 rfl rfl (fun e => Rn.qt (qfield rfl rfl fp7))) ?_
      try simp only [Act.put, List.setIfInBounds_toArray, List.set_cons_zero, List.set_cons_succ]
      refine q_put (v := gd (q.bt 7) true (.bool (p.bt 7))) (yq1 rfl rfl (fun e => Rn.qt (qload rfl (on e rfl) (Rp.bit rfl)))) ?_
      try simp only [Act.put, List.setIfInBounds_toArray, List.set_cons_zero, List.set_cons_succ]
      refine q_put (v := gd (q.bt 7) true (.bool (!(p.bt 7)))) (yq1 rfl rfl (fun e => Rn.qt (qnot rfl (on e rfl)))) ?_
      try simp only [Act.put, List.setIfInBounds_toArray, List.set_cons_zero, List.set_cons_succ]
      refine q_put (v := .bool ((q.bt 7) && (!(p.bt 7)))) (yq rfl (Rn.qt (qpick rfl rfl (pkA rfl rfl)))) ?_
      try simp only [Act.put, List.setIfInBounds_toArray, List.set_cons_zero, List.set_cons_succ]
      refine q_put (v := .bool ((q.bt 7) && (!(p.bt 7)))) (yq rfl (Rn.qt (qmove rfl rfl))) ?_
      try simp only [Act.put, List.setIfInBounds_toArray, List.set_cons_zero, List.set_cons_succ]
      refine q_put (v := gd ((q.bt 7) && (!(p.bt 7))) true (.pointer (some ⟨ys, 0 + 9, none⟩))) (yq1 rfl rfl (fun e => Rn.qt (qfield rfl rfl fp9))) ?_
      try simp only [Act.put, List.setIfInBounds_toArray, List.set_cons_zero, List.set_cons_succ]
      refine q_put (v := gd ((q.bt 7) && (!(p.bt 7))) true (.bool (p.bt 9))) (yq1 rfl rfl (fun e => Rn.qt (qload rfl (on e rfl) (Rp.bit rfl)))) ?_
      try simp only [Act.put, List.setIfInBounds_toArray, List.set_cons_zero, List.set_cons_succ]
      refine q_put (v := gd ((q.bt 7) && (!(p.bt 7))) true (.bool (!(p.bt 9)))) (yq1 rfl rfl (fun e => Rn.qt (qnot rfl (on e rfl)))) ?_
      try simp only [Act.put, List.setIfInBounds_toArray, List.set_cons_zero, List.set_cons_succ]
      refine q_put (v := gd ((q.bt 7) && (!(p.bt 7))) true (.bool (!(p.bt 9)))) (yq1 rfl rfl (fun e => Rn.qt (qmove rfl (on e rfl)))) ?_
      try simp only [Act.put, List.setIfInBounds_toArray, List.set_cons_zero, List.set_cons_succ]
      refine q_put (v := gd ((q.bt 7) && (!(p.bt 7))) true (gd (!(p.bt 9)) false (.pointer (some ⟨xs, 0 + 9, none⟩)))) (yq2 rfl rfl (fun e1 e2 => Rn.qt (qfield rfl rfl fp9))) ?_
      try simp only [Act.put, List.setIfInBounds_toArray, List.set_cons_zero, List.set_cons_succ]
      refine q_put (v := gd ((q.bt 7) && (!(p.bt 7))) true (gd (!(p.bt 9)) false (.bool (q.bt 9)))) (yq2 rfl rfl (fun e1 e2 => Rn.qt (qload rfl (on e2 (on e1 rfl)) (Rq.bit rfl)))) ?_
      try simp only [Act.put, List.setIfInBounds_toArray, List.set_cons_zero, List.set_cons_succ]
      refine q_put (v := gd ((q.bt 7) && (!(p.bt 7))) true (gd (!(p.bt 9)) false (.bool (!(q.bt 9))))) (yq2 rfl rfl (fun e1 e2 => Rn.qt (qnot rfl (on e2 (on e1 rfl))))) ?_
      try simp only [Act.put, List.setIfInBounds_toArray, List.set_cons_zero, List.set_cons_succ]
      refine q_put (v := gd ((q.bt 7) && (!(p.bt 7))) true (.bool ((!(p.bt 9)) || (!(q.bt 9))))) (yq1 rfl rfl (fun e => Rn.qt (qpick rfl (on e rfl) (pkO rfl (on e rfl))))) ?_
      try simp only [Act.put, List.setIfInBounds_toArray, List.set_cons_zero, List.set_cons_succ]
      refine q_put (v := gd ((q.bt 7) && (!(p.bt 7))) true (.bool ((!(p.bt 9)) || (!(q.bt 9))))) (yq1 rfl rfl (fun e => Rn.qt (qmove rfl (on e rfl)))) ?_
      try simp only [Act.put, List.setIfInBounds_toArray, List.set_cons_zero, List.set_cons_succ]
      refine q_put (v := gd ((q.bt 7) && (!(p.bt 7))) true (gd ((!(p.bt 9)) || (!(q.bt 9))) false (.pointer (some ⟨xs, 0 + 30, none⟩)))) (yq2 rfl rfl (fun e1 e2 => Rn.qt (qfield rfl rfl fp30))) ?_
      try simp only [Act.put, List.setIfInBounds_toArray, List.set_cons_zero, List.set_cons_succ]
      refine q_put (v := gd ((q.bt 7) && (!(p.bt 7))) true (gd ((!(p.bt 9)) || (!(q.bt 9))) false (.int .i64 (q.nm 30)))) (yq2 rfl rfl (fun e1 e2 => Rn.qt (qload rfl (on e2 (on e1 rfl)) (Rq.role rfl)))) ?_
      try simp only [Act.put, List.setIfInBounds_toArray, List.set_cons_zero, List.set_cons_succ]
      refine q_put (v := gd ((q.bt 7) && (!(p.bt 7))) true (gd ((!(p.bt 9)) || (!(q.bt 9))) false (.bool ((q.nm 30) != 3)))) (yq2 rfl rfl (fun e1 e2 => Rn.qt (qbin rfl (on e2 (on e1 rfl)) rfl (eg_role _ _ _ _ _) (ne_role _ _)))) ?_
      try simp only [Act.put, List.setIfInBounds_toArray, List.set_cons_zero, List.set_cons_succ]
      refine q_put (v := gd ((q.bt 7) && (!(p.bt 7))) true (gd ((!(p.bt 9)) || (!(q.bt 9))) false (.bool ((q.nm 30) != 3)))) (yq2 rfl rfl (fun e1 e2 => Rn.qt (qmove rfl (on e2 (on e1 rfl))))) ?_
      try simp only [Act.put, List.setIfInBounds_toArray, List.set_cons_zero, List.set_cons_succ]
      refine q_put (v := gd ((q.bt 7) && (!(p.bt 7))) true (gd ((!(p.bt 9)) || (!(q.bt 9))) false (gd ((q.nm 30) != 3) true (.pointer (some ⟨xs, 0 + 30, none⟩))))) (yq3 rfl rfl (fun e1 e2 e3 => Rn.qt (qfield rfl rfl fp30))) ?_
      try simp only [Act.put, List.setIfInBounds_toArray, List.set_cons_zero, List.set_cons_succ]
      refine q_put (v := gd ((q.bt 7) && (!(p.bt 7))) true (gd ((!(p.bt 9)) || (!(q.bt 9))) false (gd ((q.nm 30) != 3) true (.int .i64 (q.nm 30))))) (yq3 rfl rfl (fun e1 e2 e3 => Rn.qt (qload rfl (on e3 (on e2 (on e1 rfl))) (Rq.role rfl)))) ?_
      try simp only [Act.put, List.setIfInBounds_toArray, List.set_cons_zero, List.set_cons_succ]
      refine q_put (v := gd ((q.bt 7) && (!(p.bt 7))) true (gd ((!(p.bt 9)) || (!(q.bt 9))) false (gd ((q.nm 30) != 3) true (.bool ((q.nm 30) != 4))))) (yq3 rfl rfl (fun e1 e2 e3 => Rn.qt (qbin rfl (on e3 (on e2 (on e1 rfl))) rfl (eg_role _ _ _ _ _) (ne_role _ _)))) ?_
      try simp only [Act.put, List.setIfInBounds_toArray, List.set_cons_zero, List.set_cons_succ]
      refine q_put (v := gd ((q.bt 7) && (!(p.bt 7))) true (gd ((!(p.bt 9)) || (!(q.bt 9))) false (.bool (((q.nm 30) != 3) && ((q.nm 30) != 4))))) (yq2 rfl rfl (fun e1 e2 => Rn.qt (qpick rfl (on e2 (on e1 rfl)) (pkA (on e2 (on e1 rfl)) rfl)))) ?_
      try simp only [Act.put, List.setIfInBounds_toArray, List.set_cons_zero, List.set_cons_succ]
      refine q_put (v := gd ((q.bt 7) && (!(p.bt 7))) true (gd ((!(p.bt 9)) || (!(q.bt 9))) false (.bool (((q.nm 30) != 3) && ((q.nm 30) != 4))))) (yq2 rfl rfl (fun e1 e2 => Rn.qt (qmove rfl (on e2 (on e1 rfl))))) ?_
      try simp only [Act.put, List.setIfInBounds_toArray, List.set_cons_zero, List.set_cons_succ]
      refine q_put (v := gd ((q.bt 7) && (!(p.bt 7))) true (gd ((!(p.bt 9)) || (!(q.bt 9))) false (gd (((q.nm 30) != 3) && ((q.nm 30) != 4)) true (.pointer (some ⟨ys, 0 + 73, none⟩))))) (yq3 rfl rfl (fun e1 e2 e3 => Rn.qt (qfield rfl rfl fp46))) ?_
      try simp only [Act.put, List.setIfInBounds_toArray, List.set_cons_zero, List.set_cons_succ]
      refine q_put (v := gd ((q.bt 7) && (!(p.bt 7))) true (gd ((!(p.bt 9)) || (!(q.bt 9))) false (gd (((q.nm 30) != 3) && ((q.nm 30) != 4)) true (.int .i64 (p.nm 73))))) (yq3 rfl rfl (fun e1 e2 e3 => Rn.qt (qload rfl (on e3 (on e2 (on e1 rfl))) (Rp.state rfl)))) ?_
      try simp only [Act.put, List.setIfInBounds_toArray, List.set_cons_zero, List.set_cons_succ]
      refine q_put (v := gd ((q.bt 7) && (!(p.bt 7))) true (gd ((!(p.bt 9)) || (!(q.bt 9))) false (gd (((q.nm 30) != 3) && ((q.nm 30) != 4)) true (.bool ((p.nm 73) != 3))))) (yq3 rfl rfl (fun e1 e2 e3 => Rn.qt (qbin rfl (on e3 (on e2 (on e1 rfl))) rfl (eg_state _ _ _ _ _) (ne_state _ _)))) ?_
      try simp only [Act.put, List.setIfInBounds_toArray, List.set_cons_zero, List.set_cons_succ]
      refine q_put (v := gd ((q.bt 7) && (!(p.bt 7))) true (gd ((!(p.bt 9)) || (!(q.bt 9))) false (.bool ((((q.nm 30) != 3) && ((q.nm 30) != 4)) && ((p.nm 73) != 3))))) (yq2 rfl rfl (fun e1 e2 => Rn.qt (qpick rfl (on e2 (on e1 rfl)) (pkA (on e2 (on e1 rfl)) rfl)))) ?_
      try simp only [Act.put, List.setIfInBounds_toArray, List.set_cons_zero, List.set_cons_succ]
      refine q_put (v := gd ((q.bt 7) && (!(p.bt 7))) true (gd ((!(p.bt 9)) || (!(q.bt 9))) false (.bool ((((q.nm 30) != 3) && ((q.nm 30) != 4)) && ((p.nm 73) != 3))))) (yq2 rfl rfl (fun e1 e2 => Rn.qt (qmove rfl (on e2 (on e1 rfl))))) ?_
      try simp only [Act.put, List.setIfInBounds_toArray, List.set_cons_zero, List.set_cons_succ]
      refine q_put (v := gd ((q.bt 7) && (!(p.bt 7))) true (gd ((!(p.bt 9)) || (!(q.bt 9))) false (gd ((((q.nm 30) != 3) && ((q.nm 30) != 4)) && ((p.nm 73) != 3)) true (.pointer (some ⟨ys, 0 + 73, none⟩))))) (yq3 rfl rfl (fun e1 e2 e3 => Rn.qt (qfield rfl rfl fp46))) ?_
      try simp only [Act.put, List.setIfInBounds_toArray, List.set_cons_zero, List.set_cons_succ]
      refine q_put (v := gd ((q.bt 7) && (!(p.bt 7))) true (gd ((!(p.bt 9)) || (!(q.bt 9))) false (gd ((((q.nm 30) != 3) && ((q.nm 30) != 4)) && ((p.nm 73) != 3)) true (.int .i64 (p.nm 73))))) (yq3 rfl rfl (fun e1 e2 e3 => Rn.qt (qload rfl (on e3 (on e2 (on e1 rfl))) (Rp.state rfl)))) ?_
      try simp only [Act.put, List.setIfInBounds_toArray, List.set_cons_zero, List.set_cons_succ]
      refine q_put (v := gd ((q.bt 7) && (!(p.bt 7))) true (gd ((!(p.bt 9)) || (!(q.bt 9))) false (gd ((((q.nm 30) != 3) && ((q.nm 30) != 4)) && ((p.nm 73) != 3)) true (.bool ((p.nm 73) != 4))))) (yq3 rfl rfl (fun e1 e2 e3 => Rn.qt (qbin rfl (on e3 (on e2 (on e1 rfl))) rfl (eg_state _ _ _ _ _) (ne_state _ _)))) ?_
      try simp only [Act.put, List.setIfInBounds_toArray, List.set_cons_zero, List.set_cons_succ]
      refine q_put (v := gd ((q.bt 7) && (!(p.bt 7))) true (gd ((!(p.bt 9)) || (!(q.bt 9))) false (.bool (((((q.nm 30) != 3) && ((q.nm 30) != 4)) && ((p.nm 73) != 3)) && ((p.nm 73) != 4))))) (yq2 rfl rfl (fun e1 e2 => Rn.qt (qpick rfl (on e2 (on e1 rfl)) (pkA (on e2 (on e1 rfl)) rfl)))) ?_
      try simp only [Act.put, List.setIfInBounds_toArray, List.set_cons_zero, List.set_cons_succ]
      refine q_put (v := gd ((q.bt 7) && (!(p.bt 7))) true (.bool (((!(p.bt 9)) || (!(q.bt 9))) || (((((q.nm 30) != 3) && ((q.nm 30) != 4)) && ((p.nm 73) != 3)) && ((p.nm 73) != 4))))) (yq1 rfl rfl (fun e => Rn.qt (qpick rfl (on e rfl) (pkO rfl (on e rfl))))) ?_
      try simp only [Act.put, List.setIfInBounds_toArray, List.set_cons_zero, List.set_cons_succ]
      refine q_put (v := .bool (((q.bt 7) && (!(p.bt 7))) && (((!(p.bt 9)) || (!(q.bt 9))) || (((((q.nm 30) != 3) && ((q.nm 30) != 4)) && ((p.nm 73) != 3)) && ((p.nm 73) != 4))))) (yq rfl (Rn.qt (qpick rfl rfl (pkA rfl rfl)))) ?_
      try simp only [Act.put, List.setIfInBounds_toArray, List.set_cons_zero, List.set_cons_succ]
      refine wpQuiet_nil ?_
      rintro y_ hy_
      rw [hy_]
      clear hy_ y_
      have hc := GD.out.1
      unfold fc1 at hc
      rw [hc]
      clear hc
      go_upto_region 10 with fail
      refine wp_plain (C := fun w' => w' = XB) rfl ?_
      refine q_put (v := .pointer (some ⟨xs, 0 + 30, none⟩)) (yq rfl (Rn.qt (qfield rfl rfl fp30))) ?_
      try simp only [Act.put, List.setIfInBounds_toArray, List.set_cons_zero, List.set_cons_succ]
      refine q_put (v := .int .i64 (q.nm 30)) (yq rfl (Rn.qt (qload rfl rfl (Rq.role rfl)))) ?_
      try simp only [Act.put, List.setIfInBounds_toArray, List.set_cons_zero, List.set_cons_succ]
      refine q_put (v := .pointer (some ⟨ys, 0 + 30, none⟩)) (yq rfl (Rn.qt (qfield rfl rfl fp30))) ?_
      try simp only [Act.put, List.setIfInBounds_toArray, List.set_cons_zero, List.set_cons_succ]
      refine q_put (v := .int .i64 (p.nm 30)) (yq rfl (Rn.qt (qload rfl rfl (Rp.role rfl)))) ?_
      try simp only [Act.put, List.setIfInBounds_toArray, List.set_cons_zero, List.set_cons_succ]
      refine q_put (v := .bool ((q.nm 30) != (p.nm 30))) (yq rfl (Rn.qt (qbin rfl rfl rfl (eg_role _ _ _ _ _) (ne_role _ _)))) ?_
      try simp only [Act.put, List.setIfInBounds_toArray, List.set_cons_zero, List.set_cons_succ]
      refine q_put (v := .bool ((q.nm 30) != (p.nm 30))) (yq rfl (Rn.qt (qmove rfl rfl))) ?_
      try simp only [Act.put, List.setIfInBounds_toArray, List.set_cons_zero, List.set_cons_succ]
      refine q_put (v := gd ((q.nm 30) != (p.nm 30)) true (.pointer (some ⟨xs, 0 + 30, none⟩))) (yq1 rfl rfl (fun e => Rn.qt (qfield rfl rfl fp30))) ?_
      try simp only [Act.put, List.setIfInBounds_toArray, List.set_cons_zero, List.set_cons_succ]
      refine q_put (v := gd ((q.nm 30) != (p.nm 30)) true (.int .i64 (q.nm 30))) (yq1 rfl rfl (fun e => Rn.qt (qload rfl (on e rfl) (Rq.role rfl)))) ?_
      try simp only [Act.put, List.setIfInBounds_toArray, List.set_cons_zero, List.set_cons_succ]
      refine q_put (v := gd ((q.nm 30) != (p.nm 30)) true (.bool ((q.nm 30) != 3))) (yq1 rfl rfl (fun e => Rn.qt (qbin rfl (on e rfl) rfl (eg_role _ _ _ _ _) (ne_role _ _)))) ?_
      try simp only [Act.put, List.setIfInBounds_toArray, List.set_cons_zero, List.set_cons_succ]
      refine q_put (v := .bool (((q.nm 30) != (p.nm 30)) && ((q.nm 30) != 3))) (yq rfl (Rn.qt (qpick rfl rfl (pkA rfl rfl)))) ?_
      try simp only [Act.put, List.setIfInBounds_toArray, List.set_cons_zero, List.set_cons_succ]
      refine q_put (v := .bool (((q.nm 30) != (p.nm 30)) && ((q.nm 30) != 3))) (yq rfl (Rn.qt (qmove rfl rfl))) ?_
      try simp only [Act.put, List.setIfInBounds_toArray, List.set_cons_zero, List.set_cons_succ]
      refine q_put (v := gd (((q.nm 30) != (p.nm 30)) && ((q.nm 30) != 3)) true (.pointer (some ⟨xs, 0 + 30, none⟩))) (yq1 rfl rfl (fun e => Rn.qt (qfield rfl rfl fp30))) ?_
      try simp only [Act.put, List.setIfInBounds_toArray, List.set_cons_zero, List.set_cons_succ]
      refine q_put (v := gd (((q.nm 30) != (p.nm 30)) && ((q.nm 30) != 3)) true (.int .i64 (q.nm 30))) (yq1 rfl rfl (fun e => Rn.qt (qload rfl (on e rfl) (Rq.role rfl)))) ?_
      try simp only [Act.put, List.setIfInBounds_toArray, List.set_cons_zero, List.set_cons_succ]
      refine q_put (v := gd (((q.nm 30) != (p.nm 30)) && ((q.nm 30) != 3)) true (.bool ((q.nm 30) != 4))) (yq1 rfl rfl (fun e => Rn.qt (qbin rfl (on e rfl) rfl (eg_role _ _ _ _ _) (ne_role _ _)))) ?_
      try simp only [Act.put, List.setIfInBounds_toArray, List.set_cons_zero, List.set_cons_succ]
      refine q_put (v := .bool ((((q.nm 30) != (p.nm 30)) && ((q.nm 30) != 3)) && ((q.nm 30) != 4))) (yq rfl (Rn.qt (qpick rfl rfl (pkA rfl rfl)))) ?_
      try simp only [Act.put, List.setIfInBounds_toArray, List.set_cons_zero, List.set_cons_succ]
      refine q_put (v := .bool ((((q.nm 30) != (p.nm 30)) && ((q.nm 30) != 3)) && ((q.nm 30) != 4))) (yq rfl (Rn.qt (qmove rfl rfl))) ?_
      try simp only [Act.put, List.setIfInBounds_toArray, List.set_cons_zero, List.set_cons_succ]
      refine q_put (v := gd ((((q.nm 30) != (p.nm 30)) && ((q.nm 30) != 3)) && ((q.nm 30) != 4)) true (.pointer (some ⟨xs, 0 + 9, none⟩))) (yq1 rfl rfl (fun e => Rn.qt (qfield rfl rfl fp9))) ?_
      try simp only [Act.put, List.setIfInBounds_toArray, List.set_cons_zero, List.set_cons_succ]
      refine q_put (v := gd ((((q.nm 30) != (p.nm 30)) && ((q.nm 30) != 3)) && ((q.nm 30) != 4)) true (.bool (q.bt 9))) (yq1 rfl rfl (fun e => Rn.qt (qload rfl (on e rfl) (Rq.bit rfl)))) ?_
      try simp only [Act.put, List.setIfInBounds_toArray, List.set_cons_zero, List.set_cons_succ]
      refine q_put (v := gd ((((q.nm 30) != (p.nm 30)) && ((q.nm 30) != 3)) && ((q.nm 30) != 4)) true (.bool (q.bt 9))) (yq1 rfl rfl (fun e => Rn.qt (qmove rfl (on e rfl)))) ?_
      try simp only [Act.put, List.setIfInBounds_toArray, List.set_cons_zero, List.set_cons_succ]
      refine q_put (v := gd ((((q.nm 30) != (p.nm 30)) && ((q.nm 30) != 3)) && ((q.nm 30) != 4)) true (gd (q.bt 9) false (.pointer (some ⟨xs, 0 + 7, none⟩)))) (yq2 rfl rfl (fun e1 e2 => Rn.qt (qfield rfl rfl fp7))) ?_
      try simp only [Act.put, List.setIfInBounds_toArray, List.set_cons_zero, List.set_cons_succ]
      refine q_put (v := gd ((((q.nm 30) != (p.nm 30)) && ((q.nm 30) != 3)) && ((q.nm 30) != 4)) true (gd (q.bt 9) false (.bool (q.bt 7)))) (yq2 rfl rfl (fun e1 e2 => Rn.qt (qload rfl (on e2 (on e1 rfl)) (Rq.bit rfl)))) ?_
      try simp only [Act.put, List.setIfInBounds_toArray, List.set_cons_zero, List.set_cons_succ]
      refine q_put (v := gd ((((q.nm 30) != (p.nm 30)) && ((q.nm 30) != 3)) && ((q.nm 30) != 4)) true (.bool ((q.bt 9) || (q.bt 7)))) (yq1 rfl rfl (fun e => Rn.qt (qpick rfl (on e rfl) (pkO rfl (on e rfl))))) ?_
      try simp only [Act.put, List.setIfInBounds_toArray, List.set_cons_zero, List.set_cons_succ]
      refine q_put (v := .bool (((((q.nm 30) != (p.nm 30)) && ((q.nm 30) != 3)) && ((q.nm 30) != 4)) && ((q.bt 9) || (q.bt 7)))) (yq rfl (Rn.qt (qpick rfl rfl (pkA rfl rfl)))) ?_
      try simp only [Act.put, List.setIfInBounds_toArray, List.set_cons_zero, List.set_cons_succ]
      refine wpQuiet_nil ?_
      rintro y_ hy_
      rw [hy_]
      clear hy_ y_
      have hc := GD.out.2
      unfold fc2 at hc
      rw [hc]
      clear hc
      clear Rp Rq RR
      go_wp2_with fail
      refine (awake_any _).mono ?_
      rintro _ VA ⟨rfl, bA⟩
      have FA : Hid (Below w.heap.size w VA) := below_over FB.out bA
      clear bA
      go_wp2
      go_ret
      exact ⟨rfl, FA.out⟩
end Go.Proofs.Ytdlleecfmebenaa
