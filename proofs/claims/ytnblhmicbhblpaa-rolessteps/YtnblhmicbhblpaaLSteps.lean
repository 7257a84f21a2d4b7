/-
  RolesSteps, RolesAgain: their walks, for every tree.
-/
import Derived.Test.YtnblhmicbhblpaaLawS
namespace Go.Proofs.Ytnblhmicbhblpaa
set_option linter.unusedVariables false
set_option maxRecDepth 4000
set_option linter.unusedSimpArgs false
open Go.RowKit

attribute [local go_sem ↓] ldT stT st32 apE
set_option maxHeartbeats 8000000 in
theorem RolesSteps_walk (h : Hd) (a0 : Option Addr) (n0 c0 : Nat) (l0 : List Pt) (w : World) (hs : SlAt w a0 n0 c0 l0) :
    Calls Try.prog 5 #[.agg (trc h (.slice a0 n0 c0))] w fun r w' => r = .returned (.bool true) ∧ Below w.heap.size w w' := by
  obtain ⟨W, hW, r0, bW, zW⟩ := one_t w h (.slice a0 n0 c0)
  have t0 := r0.tld
  have H : Hid (SlAt W a0 n0 c0 l0 ∧ RvAt W w.heap.size 31 (trc h (.slice a0 n0 c0)) ∧ Below w.heap.size w W) := ⟨hs.below bW, r0, bW⟩
  clear hs r0 bW zW
  go_enter Try.func5, Try.ntmps5
  go_wp2_with fail
  refine (few_any h a0 n0 c0 l0 W H.out.1).mono ?_
  rintro _ W1 ⟨n, rfl, hn, s1, b1⟩
  obtain ⟨l, hl⟩ : ∃ l, l0.take 12 = l := ⟨_, rfl⟩
  rw [hl] at s1
  obtain ⟨V, sV, t⟩ := TQ.few (w := w) H.out.2.1 H.out.2.2 (Nat.le_refl _) b1 s1
  have hn1 : n ≤ 1000 := by omega
  have lt := t.ld
  obtain ⟨V1, sV1, t1, bV1⟩ := TQ.new (w := w) (h := h) t.sl t.bel
  obtain ⟨kb, hkb⟩ : ∃ z, V.heap.size = z := ⟨_, rfl⟩
  have hkw : w.heap.size < kb := by rw [← hkb]; exact t.var.lt
  rw [hkb] at sV1 t1
  have zV1 : V1.heap.size = kb + 1 ∨ kb < V1.heap.size := Or.inr t1.var.lt
  obtain ⟨A, hA⟩ : ∃ A, V1.alloc (.cells #[] 47) = A := ⟨_, rfl⟩
  have bA : Below V1.heap.size V1 A := by rw [← hA]; exact (Below.refl _ _).alloc (Nat.le_refl _) _
  have oA : Own A V1.heap.size (.slice (some ⟨V1.heap.size, 0, none⟩) 0 0) [] := by rw [← hA]; exact zero_new V1 _ (Nat.le_refl _)
  have sA := ((t.below bV1).below bA).sl
  have c16 := ((t.below bV1).below bA).var.t16
  obtain ⟨x, A2, ap, o2, g2⟩ := oA.app sA (by have := sA.len; simp; omega) bA.size 29
  rw [List.nil_append] at o2
  have bA2 : Below V1.heap.size A A2 := below_of_grown g2 bA.size (fun j e => by cases e; exact Nat.le_refl _)
  have b12 : Below V1.heap.size V1 A2 := bA.trans bA2
  obtain ⟨a', c', hx, pa, hga⟩ := PA.of o2
  have hll : l.length = n := t.sl.len
  rw [hll] at hx pa
  subst hx
  obtain ⟨V3, s3, r3, g3⟩ := (t1.var.below b12).tset (y := .slice a' n c') rfl
  have T : Hid (TQ w V3 w.heap.size h a0 n c0 l ∧ TQ w V3 kb h a' n c' l) := by
    have q := (t.below bV1).below b12
    refine ⟨⟨q.var.keptBut g3 (by simp; omega), q.sl.keptT (t1.var.below b12) g3, gro q.bel g3 (by omega) q.bel.size, q.hb⟩, ⟨r3, pa.sl.keptT (t1.var.below b12) g3, gro q.bel g3 (by omega) q.bel.size, by omega⟩⟩
  clear s1 b1 t0 H hl hn t t1 bV1 bA oA sA o2 g2 bA2 b12 pa hga hll r3 g3 zV1
  have l3 := T.out.1.ld
  obtain ⟨g0, hg0⟩ : ∃ z, V1.heap.size = z := ⟨_, rfl⟩
  rw [hg0] at ap
  go_wp2_with fail
  clear sV sV1 ap s3 hA c16 lt hg0
  refine (step_any h a0 n c0 l V3 T.out.1.sl hn1).mono ?_
  rintro _ V4 ⟨a4, c4, rfl, s4, b4⟩
  obtain ⟨hS, hhS⟩ : ∃ z, stpH h l = z := ⟨_, rfl⟩
  obtain ⟨lS, hlS⟩ : ∃ z, stpL h l = z := ⟨_, rfl⟩
  obtain ⟨B, hB⟩ : ∃ z, stpB h l = z := ⟨_, rfl⟩
  have E : Hid (stpH h l = hS ∧ stpL h l = lS ∧ stpB h l = B) := ⟨hhS, hlS, hB⟩
  rw [hlS] at s4
  rw [hhS, hB]
  clear hhS hlS hB
  obtain ⟨V5, s5, t5, b5⟩ := TQ.new (w := w) (h := hS) s4 (below_over T.out.1.bel b4)
  obtain ⟨xb, hxb⟩ : ∃ z, V4.heap.size = z := ⟨_, rfl⟩
  rw [hxb] at s5 t5
  have T5 : Hid (TQ w V5 w.heap.size h a0 n c0 l ∧ TQ w V5 kb h a' n c' l ∧ TQ w V5 xb hS a4 n c4 lS) := ⟨(T.out.1.below b4).below b5, (T.out.2.below b4).below b5, t5⟩
  have l5 := T5.out.2.1.ld
  clear s4 b4 t5 b5 T l3
  go_wp2_with fail
  refine (rstep_any h a' n c' l V5 T5.out.2.1.sl hn1).mono ?_
  rintro _ V6 ⟨a6, c6, rfl, s6, b6⟩
  rw [E.out.2.1] at s6
  rw [E.out.1, E.out.2.2]
  obtain ⟨V7, s7, t7, b7⟩ := TQ.new (w := w) (h := hS) s6 (below_over T5.out.1.bel b6)
  obtain ⟨yb, hyb⟩ : ∃ z, V6.heap.size = z := ⟨_, rfl⟩
  rw [hyb] at s7 t7
  have T7 : Hid (TQ w V7 w.heap.size h a0 n c0 l ∧ TQ w V7 kb h a' n c' l ∧ TQ w V7 xb hS a4 n c4 lS ∧ TQ w V7 yb hS a6 n c6 lS) := ⟨(T5.out.1.below b6).below b7, (T5.out.2.1.below b6).below b7, (T5.out.2.2.below b6).below b7, t7⟩
  have k1 := T7.out.2.2.1.ld
  have k2 := T7.out.2.2.2.ld
  clear s6 b6 t7 b7 T5 l5 s5 hxb
  go_wp2_with fail
  refine (rsame_any hS hS a4 a6 n n c4 c6 lS lS V7 T7.out.2.2.1.sl T7.out.2.2.2.sl hn1 hn1).mono ?_
  rintro _ V8 ⟨rfl, b8⟩
  rw [sameT_self]
  have T8 : Hid (TQ w V8 w.heap.size h a0 n c0 l ∧ TQ w V8 kb h a' n c' l) := ⟨T7.out.1.below b8, T7.out.2.1.below b8⟩
  have k3 := T8.out.1.ld
  have k4 := T8.out.2.ld
  clear b8 k1 k2 s7 T7 hyb
  have C : Hid (∀ V : World, _) := fun V => awake_any V
  cases B
  all_goals
    go_wp2_with fail
    refine (rsame_any h h a0 a' n n c0 c' l l V8 T8.out.1.sl T8.out.2.sl hn1 hn1).mono ?_
    rintro _ V9 ⟨rfl, b9⟩
    rw [sameT_self]
    have G : Hid (Below w.heap.size w V9) := below_over T8.out.1.bel b9
    clear b9 k3 k4 T8
    go_wp2_with fail
    refine (C.out V9).mono ?_
    rintro _ V10 ⟨rfl, b10⟩
    have F : Hid (Below w.heap.size w V10) := below_over G.out b10
    clear b10 G C
    go_wp2
    go_ret
    exact ⟨rfl, F.out⟩
set_option maxHeartbeats 8000000 in
theorem RolesAgain_walk (h : Hd) (a0 : Option Addr) (n0 c0 : Nat) (l0 : List Pt) (w : World) (hs : SlAt w a0 n0 c0 l0) :
    Calls Try.prog 8 #[.agg (trc h (.slice a0 n0 c0))] w fun r w' => r = .returned (.bool true) ∧ Below w.heap.size w w' := by
  obtain ⟨W, hW, r0, bW, zW⟩ := one_t w h (.slice a0 n0 c0)
  have t0 := r0.tld
  have H : Hid (SlAt W a0 n0 c0 l0 ∧ Below w.heap.size w W) := ⟨hs.below bW, bW⟩
  clear hs r0 bW zW
  go_enter Try.func8, Try.ntmps8
  go_wp2_with fail
  refine (few_any h a0 n0 c0 l0 W H.out.1).mono ?_
  rintro _ W1 ⟨n, rfl, hn, s1, b1⟩
  obtain ⟨l, hl⟩ : ∃ l, l0.take 12 = l := ⟨_, rfl⟩
  rw [hl] at s1
  have hn1 : n ≤ 1000 := by omega
  have H1 : Hid (SlAt W1 a0 n c0 l ∧ Below w.heap.size w W1) := ⟨s1, below_over H.out.2 b1⟩
  clear s1 b1 t0 H hW hl hn
  go_wp2_with fail
  refine (select_any h a0 n c0 l W1 H1.out.1 hn1).mono ?_
  rintro _ W2 ⟨a1, c1, rfl, s2, b2⟩
  have E0 : Hid (hdS (hdS h l) (selL h l) = hdS h l ∧ selL (hdS h l) (selL h l) = selL h l ∧ stpB (hdS h l) (selL h l) = !(h.bt 6) ∧ (hdS h l).bt 6 = h.bt 6 ∧ (h.bt 6 = true → stpH (hdS h l) (selL h l) = hdS h l ∧ stpL (hdS h l) (selL h l) = selL h l)) := ⟨hdS_again h l, selL_again h l, stp_sel h l, hdS_bt h l, fun e => ⟨(stp_no (by rw [hdS_bt]; exact e) (any_sel h l)).2.1, (stp_no (by rw [hdS_bt]; exact e) (any_sel h l)).2.2⟩⟩
  obtain ⟨hS, hhS⟩ : ∃ z, hdS h l = z := ⟨_, rfl⟩
  obtain ⟨lS, hlS⟩ : ∃ z, selL h l = z := ⟨_, rfl⟩
  rw [hhS, hlS] at E0
  rw [hlS] at s2
  rw [hhS]
  clear hhS hlS
  obtain ⟨V2, sV2, t2, bV2⟩ := TQ.new (w := w) (h := hS) s2 (below_over H1.out.2 b2)
  obtain ⟨sb, hsb⟩ : ∃ z, W2.heap.size = z := ⟨_, rfl⟩
  rw [hsb] at sV2 t2
  have T2 : Hid (TQ w V2 sb hS a1 n c1 lS) := t2
  have lt := t2.ld
  have E : Hid (hdS hS lS = hS ∧ selL hS lS = lS) := ⟨E0.out.1, E0.out.2.1⟩
  clear s2 b2 t2 bV2 H1
  go_wp2_with fail
  refine (step_any hS a1 n c1 lS V2 T2.out.sl hn1).mono ?_
  rintro _ V3 ⟨a3, c3, rfl, s3, b3⟩
  rw [E0.out.2.2.1]
  cases h6 : h.bt 6
  · obtain ⟨hT, hhT⟩ : ∃ z, stpH hS lS = z := ⟨_, rfl⟩
    obtain ⟨lT, hlT⟩ : ∃ z, stpL hS lS = z := ⟨_, rfl⟩
    rw [hlT] at s3
    rw [hhT]
    obtain ⟨V, sV, t4, b4⟩ := TQ.new (w := w) (h := hT) s3 (below_over T2.out.bel b3)
    obtain ⟨xb, hxb⟩ : ∃ z, V3.heap.size = z := ⟨_, rfl⟩
    rw [hxb] at sV t4
    have G : Hid (TQ w V sb hS a1 n c1 lS ∧ TQ w V xb hT a3 n c3 lT) := ⟨(T2.out.below b3).below b4, t4⟩
    have f0 := fun qq : Later V => (G.out.1.below qq.below).ld
    have f1 := fun qq : Later V => (G.out.2.below qq.below).ld
    have f6 := fun qq : Later V => (G.out.1.below qq.below).var.tbit (j := 6) rfl
    rw [E0.out.2.2.2.1, h6] at f6
    clear s3 b3 t4 b4 hhT hlT h6 T2 lt sV2 E0
    go_wp2_with fail
    clear sV
    obtain ⟨X0, hX0⟩ : ∃ X0, World.drew V = X0 := ⟨_, rfl⟩
    have B0 : Hid (Below V.heap.size V X0) := by rw [← hX0]; exact (Below.refl _ _).drew
    refine wp_region_noPanic ?_
    refine wp_region_held_drew (S := fun w' => ∃ x : Later V, w' = x.val) (by kernel_rfl) ⟨⟨_, (Below.refl _ _).drew⟩, rfl⟩ (fun hHeld => ?_)
    rw [hX0] at hHeld ⊢
    clear hX0
    refine wpAnyH_take (i := 0) (oi := { dst := some 14, op := Op.load 31 (Operand.tmp 3), type := 31, pos := "law.go:94", after := #[], guard := none }) (v := ?_) rfl (by kernel_rfl) (by kernel_rfl) (by kernel_rfl) (fun _ _ _ h => h) (Or.inl ⟨by rfl, ?_⟩) hHeld ?_
    rotate_left
    · intro W_ hSw_
      obtain ⟨qq, rfl⟩ := hSw_
      first | (go_simp; done) | (go_simp; with_reducible rfl)
    rotate_left
    try simp only [Act.put, List.setIfInBounds_toArray, List.set_cons_zero, List.set_cons_succ]
    refine wpAnyH_take (i := 2) (oi := { dst := some 16, op := Op.load 31 (Operand.tmp 3), type := 31, pos := "law.go:94", after := #[], guard := none }) (v := ?_) rfl (by kernel_rfl) (by kernel_rfl) (by kernel_rfl) (fun _ _ _ h => h) (Or.inl ⟨by rfl, ?_⟩) hHeld ?_
    rotate_left
    · intro W_ hSw_
      obtain ⟨qq, rfl⟩ := hSw_
      first | (go_simp; done) | (go_simp; with_reducible rfl)
    rotate_left
    try simp only [Act.put, List.setIfInBounds_toArray, List.set_cons_zero, List.set_cons_succ]
    refine wpAnyH_ready (rs := [1]) (by kernel_rfl) (by simp) ?_
    refine AllReadyH.cons (o := { dst := some 15, op := Op.call { callee := Callee.value (Operand.func 14), args := #[Operand.tmp 14], argTypes := #[31] }, type := 31, pos := "law.go:94", after := #[{ on := 0, ground := Ground.data }], guard := none }) rfl (fun K hK => ?_) AllReadyH.nil
    go_simp
    refine (select_any hS a1 n c1 lS X0 (G.out.1.sl.below B0.out) hn1).mono ?_
    rintro _ X1 ⟨a2, c2, rfl, s2, bb⟩
    rw [E.out.2] at s2
    rw [E.out.1]
    have B1 : Hid (Below V.heap.size V X1) := below_over B0.out bb
    have S2 : Hid (SlAt X1 a2 n c2 lS) := s2
    clear bb s2 hHeld
    refine hK.out _ _ ⟨⟨_, B1.out⟩, rfl⟩ (fun hHeld => ?_)
    clear hK K
    try simp only [Act.put, List.setIfInBounds_toArray, List.set_cons_zero, List.set_cons_succ]
    refine wpAnyH_ready (rs := [3]) (by kernel_rfl) (by simp) ?_
    refine AllReadyH.cons (o := { dst := some 17, op := Op.call { callee := Callee.value (Operand.func 13), args := #[Operand.tmp 15, Operand.tmp 16], argTypes := #[31, 31] }, type := 4, pos := "law.go:94", after := #[{ on := 1, ground := Ground.data }, { on := 2, ground := Ground.data }, { on := 1, ground := Ground.chain }], guard := none }) rfl (fun K hK => ?_) AllReadyH.nil
    go_simp
    refine (rsame_any hS hS a2 a1 n n c2 c1 lS lS X1 S2.out (G.out.1.sl.below B1.out) hn1 hn1).mono ?_
    rintro _ X2 ⟨rfl, bb⟩
    rw [sameT_self]
    have B2 : Hid (Below V.heap.size V X2) := below_over B1.out bb
    clear bb S2 hHeld
    refine hK.out _ _ ⟨⟨_, B2.out⟩, rfl⟩ (fun hHeld => ?_)
    clear hK K
    try simp only [Act.put, List.setIfInBounds_toArray, List.set_cons_zero, List.set_cons_succ]
    refine wpAnyH_take (i := 4) (oi := { dst := some 18, op := Op.move (Operand.tmp 17), type := 4, pos := "law.go:94", after := #[{ on := 3, ground := Ground.data }, { on := 3, ground := Ground.chain }], guard := none }) (v := ?_) rfl (by kernel_rfl) (by kernel_rfl) (by kernel_rfl) (fun _ _ _ h => h) (Or.inl ⟨by rfl, ?_⟩) hHeld ?_
    rotate_left
    · intro W_ hSw_
      obtain ⟨qq, rfl⟩ := hSw_
      first | (go_simp; done) | (go_simp; with_reducible rfl)
    rotate_left
    try simp only [Act.put, List.setIfInBounds_toArray, List.set_cons_zero, List.set_cons_succ]
    refine wpAnyH_take (i := 5) (oi := { dst := some 19, op := Op.move (Operand.tmp 5), type := 4, pos := "law.go:94", after := #[{ on := 4, ground := Ground.guard }], guard := some (4, true) }) (v := ?_) rfl (by kernel_rfl) (by kernel_rfl) (by kernel_rfl) (fun _ _ _ h => h) (Or.inl ⟨by rfl, ?_⟩) hHeld ?_
    rotate_left
    · intro W_ hSw_
      obtain ⟨qq, rfl⟩ := hSw_
      first | (go_simp; done) | (go_simp; with_reducible rfl)
    rotate_left
    try simp only [Act.put, List.setIfInBounds_toArray, List.set_cons_zero, List.set_cons_succ]
    refine wpAnyH_take (i := 6) (oi := { dst := some 20, op := Op.fieldAddr 31 (Operand.tmp 3) 3, type := 0, pos := "law.go:94", after := #[{ on := 4, ground := Ground.guard }], guard := some (4, true) }) (v := ?_) rfl (by kernel_rfl) (by kernel_rfl) (by kernel_rfl) (fun _ _ _ h => h) (Or.inl ⟨by rfl, ?_⟩) hHeld ?_
    rotate_left
    · intro W_ hSw_
      obtain ⟨qq, rfl⟩ := hSw_
      first | (go_simp; done) | (go_simp; with_reducible rfl)
    rotate_left
    try simp only [Act.put, List.setIfInBounds_toArray, List.set_cons_zero, List.set_cons_succ]
    refine wpAnyH_take (i := 7) (oi := { dst := some 21, op := Op.load 4 (Operand.tmp 20), type := 4, pos := "law.go:94", after := #[{ on := 6, ground := Ground.data }, { on := 4, ground := Ground.guard }], guard := some (4, true) }) (v := ?_) rfl (by kernel_rfl) (by kernel_rfl) (by kernel_rfl) (fun _ _ _ h => h) (Or.inl ⟨by rfl, ?_⟩) hHeld ?_
    rotate_left
    · intro W_ hSw_
      obtain ⟨qq, rfl⟩ := hSw_
      first | (go_simp; done) | (go_simp; with_reducible rfl)
    rotate_left
    try simp only [Act.put, List.setIfInBounds_toArray, List.set_cons_zero, List.set_cons_succ]
    refine wpAnyH_take (i := 8) (oi := { dst := some 22, op := Op.binOp BinOp.neq 4 (Operand.tmp 19) (Operand.tmp 21) 4, type := 4, pos := "law.go:94", after := #[{ on := 5, ground := Ground.data }, { on := 7, ground := Ground.data }, { on := 4, ground := Ground.guard }], guard := some (4, true) }) (v := ?_) rfl (by kernel_rfl) (by kernel_rfl) (by kernel_rfl) (fun _ _ _ h => h) (Or.inl ⟨by rfl, ?_⟩) hHeld ?_
    rotate_left
    · intro W_ hSw_
      obtain ⟨qq, rfl⟩ := hSw_
      first | (go_simp; done) | (go_simp; with_reducible rfl)
    rotate_left
    try simp only [Act.put, List.setIfInBounds_toArray, List.set_cons_zero, List.set_cons_succ]
    refine wpAnyH_take (i := 9) (oi := { dst := some 23, op := Op.pick (Operand.tmp 18) (Operand.tmp 22) (Operand.const (Value.bool false)), type := 4, pos := "law.go:94", after := #[{ on := 4, ground := Ground.data }, { on := 8, ground := Ground.data }], guard := none }) (v := ?_) rfl (by kernel_rfl) (by kernel_rfl) (by kernel_rfl) (fun _ _ _ h => h) (Or.inl ⟨by rfl, ?_⟩) hHeld ?_
    rotate_left
    · intro W_ hSw_
      obtain ⟨qq, rfl⟩ := hSw_
      first | (go_simp; done) | (go_simp; with_reducible rfl)
    rotate_left
    try simp only [Act.put, List.setIfInBounds_toArray, List.set_cons_zero, List.set_cons_succ]
    refine wpAnyH_take (i := 10) (oi := { dst := some 24, op := Op.move (Operand.tmp 23), type := 4, pos := "law.go:94", after := #[{ on := 9, ground := Ground.data }, { on := 4, ground := Ground.chain }], guard := none }) (v := ?_) rfl (by kernel_rfl) (by kernel_rfl) (by kernel_rfl) (fun _ _ _ h => h) (Or.inl ⟨by rfl, ?_⟩) hHeld ?_
    rotate_left
    · intro W_ hSw_
      obtain ⟨qq, rfl⟩ := hSw_
      first | (go_simp; done) | (go_simp; with_reducible rfl)
    rotate_left
    try simp only [Act.put, List.setIfInBounds_toArray, List.set_cons_zero, List.set_cons_succ]
    refine wpAnyH_take (i := 11) (oi := { dst := some 25, op := Op.move (Operand.tmp 5), type := 4, pos := "law.go:94", after := #[{ on := 10, ground := Ground.guard }], guard := some (10, true) }) (v := ?_) rfl (by kernel_rfl) (by kernel_rfl) (by kernel_rfl) (fun _ _ _ h => h) (Or.inl ⟨by rfl, ?_⟩) hHeld ?_
    rotate_left
    · intro W_ hSw_
      obtain ⟨qq, rfl⟩ := hSw_
      first | (go_simp; done) | (go_simp; with_reducible rfl)
    rotate_left
    try simp only [Act.put, List.setIfInBounds_toArray, List.set_cons_zero, List.set_cons_succ]
    refine wpAnyH_take (i := 12) (oi := { dst := some 26, op := Op.move (Operand.tmp 25), type := 4, pos := "law.go:94", after := #[{ on := 11, ground := Ground.data }, { on := 10, ground := Ground.chain }, { on := 10, ground := Ground.guard }], guard := some (10, true) }) (v := ?_) rfl (by kernel_rfl) (by kernel_rfl) (by kernel_rfl) (fun _ _ _ h => h) (Or.inl ⟨by rfl, ?_⟩) hHeld ?_
    rotate_left
    · intro W_ hSw_
      obtain ⟨qq, rfl⟩ := hSw_
      first | (go_simp; done) | (go_simp; with_reducible rfl)
    rotate_left
    try simp only [Act.put, List.setIfInBounds_toArray, List.set_cons_zero, List.set_cons_succ]
    refine wpAnyH_take (i := 13) (oi := { dst := some 27, op := Op.load 31 (Operand.tmp 4), type := 31, pos := "law.go:94", after := #[{ on := 12, ground := Ground.guard }], guard := some (12, false) }) (v := undef) rfl (by kernel_rfl) (by kernel_rfl) (by kernel_rfl) (fun _ _ _ h => h) (Or.inr ⟨by rfl, rfl⟩) hHeld ?_
    try simp only [Act.put, List.setIfInBounds_toArray, List.set_cons_zero, List.set_cons_succ]
    refine wpAnyH_take (i := 14) (oi := { dst := some 28, op := Op.load 31 (Operand.tmp 3), type := 31, pos := "law.go:94", after := #[{ on := 12, ground := Ground.guard }], guard := some (12, false) }) (v := undef) rfl (by kernel_rfl) (by kernel_rfl) (by kernel_rfl) (fun _ _ _ h => h) (Or.inr ⟨by rfl, rfl⟩) hHeld ?_
    try simp only [Act.put, List.setIfInBounds_toArray, List.set_cons_zero, List.set_cons_succ]
    refine wpAnyH_take (i := 15) (oi := { dst := some 29, op := Op.call { callee := Callee.value (Operand.func 13), args := #[Operand.tmp 27, Operand.tmp 28], argTypes := #[31, 31] }, type := 4, pos := "law.go:94", after := #[{ on := 13, ground := Ground.data }, { on := 14, ground := Ground.data }, { on := 12, ground := Ground.chain }, { on := 12, ground := Ground.guard }], guard := some (12, false) }) (v := undef) rfl (by kernel_rfl) (by kernel_rfl) (by kernel_rfl) (fun _ _ _ h => h) (Or.inr ⟨by rfl, rfl⟩) hHeld ?_
    try simp only [Act.put, List.setIfInBounds_toArray, List.set_cons_zero, List.set_cons_succ]
    refine wpAnyH_take (i := 16) (oi := { dst := some 30, op := Op.pick (Operand.tmp 26) (Operand.const (Value.bool true)) (Operand.tmp 29), type := 4, pos := "law.go:94", after := #[{ on := 12, ground := Ground.data }, { on := 15, ground := Ground.data }, { on := 10, ground := Ground.guard }], guard := some (10, true) }) (v := ?_) rfl (by kernel_rfl) (by kernel_rfl) (by kernel_rfl) (fun _ _ _ h => h) (Or.inl ⟨by rfl, ?_⟩) hHeld ?_
    rotate_left
    · intro W_ hSw_
      obtain ⟨qq, rfl⟩ := hSw_
      first | (go_simp; done) | (go_simp; with_reducible rfl)
    rotate_left
    try simp only [Act.put, List.setIfInBounds_toArray, List.set_cons_zero, List.set_cons_succ]
    refine wpAnyH_take (i := 17) (oi := { dst := some 31, op := Op.pick (Operand.tmp 24) (Operand.tmp 30) (Operand.const (Value.bool false)), type := 4, pos := "law.go:94", after := #[{ on := 10, ground := Ground.data }, { on := 16, ground := Ground.data }], guard := none }) (v := ?_) rfl (by kernel_rfl) (by kernel_rfl) (by kernel_rfl) (fun _ _ _ h => h) (Or.inl ⟨by rfl, ?_⟩) hHeld ?_
    rotate_left
    · intro W_ hSw_
      obtain ⟨qq, rfl⟩ := hSw_
      first | (go_simp; done) | (go_simp; with_reducible rfl)
    rotate_left
    try simp only [Act.put, List.setIfInBounds_toArray, List.set_cons_zero, List.set_cons_succ]
    refine wpAnyH_take (i := 18) (oi := { dst := some 32, op := Op.move (Operand.tmp 31), type := 4, pos := "law.go:94", after := #[{ on := 17, ground := Ground.data }, { on := 15, ground := Ground.chain }], guard := none }) (v := ?_) rfl (by kernel_rfl) (by kernel_rfl) (by kernel_rfl) (fun _ _ _ h => h) (Or.inl ⟨by rfl, ?_⟩) hHeld ?_
    rotate_left
    · intro W_ hSw_
      obtain ⟨qq, rfl⟩ := hSw_
      first | (go_simp; done) | (go_simp; with_reducible rfl)
    rotate_left
    try simp only [Act.put, List.setIfInBounds_toArray, List.set_cons_zero, List.set_cons_succ]
    refine wpAnyH_ready (rs := [19]) (by kernel_rfl) (by simp) ?_
    refine AllReadyH.cons (o := { dst := some 33, op := Op.call { callee := Callee.value (Operand.func 12), args := #[], argTypes := #[] }, type := 4, pos := "law.go:94", after := #[{ on := 18, ground := Ground.chain }, { on := 18, ground := Ground.guard }], guard := some (18, true) }) rfl (fun K hK => ?_) AllReadyH.nil
    go_simp
    refine (awake_any X2).mono ?_
    rintro _ X4 ⟨rfl, bb⟩
    have B4 : Hid (Below V.heap.size V X4) := below_over B2.out bb
    clear bb hHeld
    refine hK.out _ _ ⟨⟨_, B4.out⟩, rfl⟩ (fun hHeld => ?_)
    clear hK K
    try simp only [Act.put, List.setIfInBounds_toArray, List.set_cons_zero, List.set_cons_succ]
    refine wpAnyH_take (i := 20) (oi := { dst := some 34, op := Op.pick (Operand.tmp 32) (Operand.tmp 33) (Operand.const (Value.bool false)), type := 4, pos := "law.go:94", after := #[{ on := 18, ground := Ground.data }, { on := 19, ground := Ground.data }], guard := none }) (v := ?_) rfl (by kernel_rfl) (by kernel_rfl) (by kernel_rfl) (fun _ _ _ h => h) (Or.inl ⟨by rfl, ?_⟩) hHeld ?_
    rotate_left
    · intro W_ hSw_
      obtain ⟨qq, rfl⟩ := hSw_
      first | (go_simp; done) | (go_simp; with_reducible rfl)
    rotate_left
    try simp only [Act.put, List.setIfInBounds_toArray, List.set_cons_zero, List.set_cons_succ]
    refine wpAnyH_ready (rs := [21]) (by kernel_rfl) (by simp) ?_
    refine AllReadyH.cons (o := { dst := some 2, op := Op.assign (Operand.tmp 34), type := 4, pos := "law.go:94", after := #[{ on := 20, ground := Ground.data }, { on := 19, ground := Ground.chain }, { on := 0, ground := Ground.phase }, { on := 1, ground := Ground.phase }, { on := 2, ground := Ground.phase }, { on := 3, ground := Ground.phase }, { on := 4, ground := Ground.phase }, { on := 5, ground := Ground.phase }, { on := 6, ground := Ground.phase }, { on := 7, ground := Ground.phase }, { on := 8, ground := Ground.phase }, { on := 9, ground := Ground.phase }, { on := 10, ground := Ground.phase }, { on := 11, ground := Ground.phase }, { on := 12, ground := Ground.phase }, { on := 13, ground := Ground.phase }, { on := 14, ground := Ground.phase }, { on := 15, ground := Ground.phase }, { on := 16, ground := Ground.phase }, { on := 17, ground := Ground.phase }, { on := 18, ground := Ground.phase }, { on := 19, ground := Ground.phase }, { on := 20, ground := Ground.phase }], guard := none }) rfl (fun K hK => ?_) AllReadyH.nil
    go_simp
    clear hHeld
    refine hK.out _ _ ⟨⟨_, B4.out⟩, rfl⟩ (fun hHeld => ?_)
    clear hK K
    try simp only [Act.put, List.setIfInBounds_toArray, List.set_cons_zero, List.set_cons_succ]
    refine wpAnyH_done (by kernel_rfl) ?_ _
    refine NoPanic.normal ?_
    clear hHeld
    go_wp2
    go_ret
    exact ⟨rfl, below_over G.out.1.bel B4.out⟩
  · obtain ⟨e1, e2⟩ := E0.out.2.2.2.2 h6
    rw [e2] at s3
    rw [e1]
    obtain ⟨V, sV, t4, b4⟩ := TQ.new (w := w) (h := hS) s3 (below_over T2.out.bel b3)
    obtain ⟨xb, hxb⟩ : ∃ z, V3.heap.size = z := ⟨_, rfl⟩
    rw [hxb] at sV t4
    have G : Hid (TQ w V sb hS a1 n c1 lS ∧ TQ w V xb hS a3 n c3 lS) := ⟨(T2.out.below b3).below b4, t4⟩
    have f0 := fun qq : Later V => (G.out.1.below qq.below).ld
    have f1 := fun qq : Later V => (G.out.2.below qq.below).ld
    have f6 := fun qq : Later V => (G.out.1.below qq.below).var.tbit (j := 6) rfl
    rw [E0.out.2.2.2.1, h6] at f6
    clear s3 b3 t4 b4 e1 e2 h6 T2 lt sV2 E0
    go_wp2_with fail
    clear sV
    obtain ⟨X0, hX0⟩ : ∃ X0, World.drew V = X0 := ⟨_, rfl⟩
    have B0 : Hid (Below V.heap.size V X0) := by rw [← hX0]; exact (Below.refl _ _).drew
    refine wp_region_noPanic ?_
    refine wp_region_held_drew (S := fun w' => ∃ x : Later V, w' = x.val) (by kernel_rfl) ⟨⟨_, (Below.refl _ _).drew⟩, rfl⟩ (fun hHeld => ?_)
    rw [hX0] at hHeld ⊢
    clear hX0
    refine wpAnyH_take (i := 0) (oi := { dst := some 14, op := Op.load 31 (Operand.tmp 3), type := 31, pos := "law.go:94", after := #[], guard := none }) (v := ?_) rfl (by kernel_rfl) (by kernel_rfl) (by kernel_rfl) (fun _ _ _ h => h) (Or.inl ⟨by rfl, ?_⟩) hHeld ?_
    rotate_left
    · intro W_ hSw_
      obtain ⟨qq, rfl⟩ := hSw_
      first | (go_simp; done) | (go_simp; with_reducible rfl)
    rotate_left
    try simp only [Act.put, List.setIfInBounds_toArray, List.set_cons_zero, List.set_cons_succ]
    refine wpAnyH_take (i := 2) (oi := { dst := some 16, op := Op.load 31 (Operand.tmp 3), type := 31, pos := "law.go:94", after := #[], guard := none }) (v := ?_) rfl (by kernel_rfl) (by kernel_rfl) (by kernel_rfl) (fun _ _ _ h => h) (Or.inl ⟨by rfl, ?_⟩) hHeld ?_
    rotate_left
    · intro W_ hSw_
      obtain ⟨qq, rfl⟩ := hSw_
      first | (go_simp; done) | (go_simp; with_reducible rfl)
    rotate_left
    try simp only [Act.put, List.setIfInBounds_toArray, List.set_cons_zero, List.set_cons_succ]
    refine wpAnyH_ready (rs := [1]) (by kernel_rfl) (by simp) ?_
    refine AllReadyH.cons (o := { dst := some 15, op := Op.call { callee := Callee.value (Operand.func 14), args := #[Operand.tmp 14], argTypes := #[31] }, type := 31, pos := "law.go:94", after := #[{ on := 0, ground := Ground.data }], guard := none }) rfl (fun K hK => ?_) AllReadyH.nil
    go_simp
    refine (select_any hS a1 n c1 lS X0 (G.out.1.sl.below B0.out) hn1).mono ?_
    rintro _ X1 ⟨a2, c2, rfl, s2, bb⟩
    rw [E.out.2] at s2
    rw [E.out.1]
    have B1 : Hid (Below V.heap.size V X1) := below_over B0.out bb
    have S2 : Hid (SlAt X1 a2 n c2 lS) := s2
    clear bb s2 hHeld
    refine hK.out _ _ ⟨⟨_, B1.out⟩, rfl⟩ (fun hHeld => ?_)
    clear hK K
    try simp only [Act.put, List.setIfInBounds_toArray, List.set_cons_zero, List.set_cons_succ]
    refine wpAnyH_ready (rs := [3]) (by kernel_rfl) (by simp) ?_
    refine AllReadyH.cons (o := { dst := some 17, op := Op.call { callee := Callee.value (Operand.func 13), args := #[Operand.tmp 15, Operand.tmp 16], argTypes := #[31, 31] }, type := 4, pos := "law.go:94", after := #[{ on := 1, ground := Ground.data }, { on := 2, ground := Ground.data }, { on := 1, ground := Ground.chain }], guard := none }) rfl (fun K hK => ?_) AllReadyH.nil
    go_simp
    refine (rsame_any hS hS a2 a1 n n c2 c1 lS lS X1 S2.out (G.out.1.sl.below B1.out) hn1 hn1).mono ?_
    rintro _ X2 ⟨rfl, bb⟩
    rw [sameT_self]
    have B2 : Hid (Below V.heap.size V X2) := below_over B1.out bb
    clear bb S2 hHeld
    refine hK.out _ _ ⟨⟨_, B2.out⟩, rfl⟩ (fun hHeld => ?_)
    clear hK K
    try simp only [Act.put, List.setIfInBounds_toArray, List.set_cons_zero, List.set_cons_succ]
    refine wpAnyH_take (i := 4) (oi := { dst := some 18, op := Op.move (Operand.tmp 17), type := 4, pos := "law.go:94", after := #[{ on := 3, ground := Ground.data }, { on := 3, ground := Ground.chain }], guard := none }) (v := ?_) rfl (by kernel_rfl) (by kernel_rfl) (by kernel_rfl) (fun _ _ _ h => h) (Or.inl ⟨by rfl, ?_⟩) hHeld ?_
    rotate_left
    · intro W_ hSw_
      obtain ⟨qq, rfl⟩ := hSw_
      first | (go_simp; done) | (go_simp; with_reducible rfl)
    rotate_left
    try simp only [Act.put, List.setIfInBounds_toArray, List.set_cons_zero, List.set_cons_succ]
    refine wpAnyH_take (i := 5) (oi := { dst := some 19, op := Op.move (Operand.tmp 5), type := 4, pos := "law.go:94", after := #[{ on := 4, ground := Ground.guard }], guard := some (4, true) }) (v := ?_) rfl (by kernel_rfl) (by kernel_rfl) (by kernel_rfl) (fun _ _ _ h => h) (Or.inl ⟨by rfl, ?_⟩) hHeld ?_
    rotate_left
    · intro W_ hSw_
      obtain ⟨qq, rfl⟩ := hSw_
      first | (go_simp; done) | (go_simp; with_reducible rfl)
    rotate_left
    try simp only [Act.put, List.setIfInBounds_toArray, List.set_cons_zero, List.set_cons_succ]
    refine wpAnyH_take (i := 6) (oi := { dst := some 20, op := Op.fieldAddr 31 (Operand.tmp 3) 3, type := 0, pos := "law.go:94", after := #[{ on := 4, ground := Ground.guard }], guard := some (4, true) }) (v := ?_) rfl (by kernel_rfl) (by kernel_rfl) (by kernel_rfl) (fun _ _ _ h => h) (Or.inl ⟨by rfl, ?_⟩) hHeld ?_
    rotate_left
    · intro W_ hSw_
      obtain ⟨qq, rfl⟩ := hSw_
      first | (go_simp; done) | (go_simp; with_reducible rfl)
    rotate_left
    try simp only [Act.put, List.setIfInBounds_toArray, List.set_cons_zero, List.set_cons_succ]
    refine wpAnyH_take (i := 7) (oi := { dst := some 21, op := Op.load 4 (Operand.tmp 20), type := 4, pos := "law.go:94", after := #[{ on := 6, ground := Ground.data }, { on := 4, ground := Ground.guard }], guard := some (4, true) }) (v := ?_) rfl (by kernel_rfl) (by kernel_rfl) (by kernel_rfl) (fun _ _ _ h => h) (Or.inl ⟨by rfl, ?_⟩) hHeld ?_
    rotate_left
    · intro W_ hSw_
      obtain ⟨qq, rfl⟩ := hSw_
      first | (go_simp; done) | (go_simp; with_reducible rfl)
    rotate_left
    try simp only [Act.put, List.setIfInBounds_toArray, List.set_cons_zero, List.set_cons_succ]
    refine wpAnyH_take (i := 8) (oi := { dst := some 22, op := Op.binOp BinOp.neq 4 (Operand.tmp 19) (Operand.tmp 21) 4, type := 4, pos := "law.go:94", after := #[{ on := 5, ground := Ground.data }, { on := 7, ground := Ground.data }, { on := 4, ground := Ground.guard }], guard := some (4, true) }) (v := ?_) rfl (by kernel_rfl) (by kernel_rfl) (by kernel_rfl) (fun _ _ _ h => h) (Or.inl ⟨by rfl, ?_⟩) hHeld ?_
    rotate_left
    · intro W_ hSw_
      obtain ⟨qq, rfl⟩ := hSw_
      first | (go_simp; done) | (go_simp; with_reducible rfl)
    rotate_left
    try simp only [Act.put, List.setIfInBounds_toArray, List.set_cons_zero, List.set_cons_succ]
    refine wpAnyH_take (i := 9) (oi := { dst := some 23, op := Op.pick (Operand.tmp 18) (Operand.tmp 22) (Operand.const (Value.bool false)), type := 4, pos := "law.go:94", after := #[{ on := 4, ground := Ground.data }, { on := 8, ground := Ground.data }], guard := none }) (v := ?_) rfl (by kernel_rfl) (by kernel_rfl) (by kernel_rfl) (fun _ _ _ h => h) (Or.inl ⟨by rfl, ?_⟩) hHeld ?_
    rotate_left
    · intro W_ hSw_
      obtain ⟨qq, rfl⟩ := hSw_
      first | (go_simp; done) | (go_simp; with_reducible rfl)
    rotate_left
    try simp only [Act.put, List.setIfInBounds_toArray, List.set_cons_zero, List.set_cons_succ]
    refine wpAnyH_take (i := 10) (oi := { dst := some 24, op := Op.move (Operand.tmp 23), type := 4, pos := "law.go:94", after := #[{ on := 9, ground := Ground.data }, { on := 4, ground := Ground.chain }], guard := none }) (v := ?_) rfl (by kernel_rfl) (by kernel_rfl) (by kernel_rfl) (fun _ _ _ h => h) (Or.inl ⟨by rfl, ?_⟩) hHeld ?_
    rotate_left
    · intro W_ hSw_
      obtain ⟨qq, rfl⟩ := hSw_
      first | (go_simp; done) | (go_simp; with_reducible rfl)
    rotate_left
    try simp only [Act.put, List.setIfInBounds_toArray, List.set_cons_zero, List.set_cons_succ]
    refine wpAnyH_take (i := 11) (oi := { dst := some 25, op := Op.move (Operand.tmp 5), type := 4, pos := "law.go:94", after := #[{ on := 10, ground := Ground.guard }], guard := some (10, true) }) (v := ?_) rfl (by kernel_rfl) (by kernel_rfl) (by kernel_rfl) (fun _ _ _ h => h) (Or.inl ⟨by rfl, ?_⟩) hHeld ?_
    rotate_left
    · intro W_ hSw_
      obtain ⟨qq, rfl⟩ := hSw_
      first | (go_simp; done) | (go_simp; with_reducible rfl)
    rotate_left
    try simp only [Act.put, List.setIfInBounds_toArray, List.set_cons_zero, List.set_cons_succ]
    refine wpAnyH_take (i := 12) (oi := { dst := some 26, op := Op.move (Operand.tmp 25), type := 4, pos := "law.go:94", after := #[{ on := 11, ground := Ground.data }, { on := 10, ground := Ground.chain }, { on := 10, ground := Ground.guard }], guard := some (10, true) }) (v := ?_) rfl (by kernel_rfl) (by kernel_rfl) (by kernel_rfl) (fun _ _ _ h => h) (Or.inl ⟨by rfl, ?_⟩) hHeld ?_
    rotate_left
    · intro W_ hSw_
      obtain ⟨qq, rfl⟩ := hSw_
      first | (go_simp; done) | (go_simp; with_reducible rfl)
    rotate_left
    try simp only [Act.put, List.setIfInBounds_toArray, List.set_cons_zero, List.set_cons_succ]
    refine wpAnyH_take (i := 13) (oi := { dst := some 27, op := Op.load 31 (Operand.tmp 4), type := 31, pos := "law.go:94", after := #[{ on := 12, ground := Ground.guard }], guard := some (12, false) }) (v := ?_) rfl (by kernel_rfl) (by kernel_rfl) (by kernel_rfl) (fun _ _ _ h => h) (Or.inl ⟨by rfl, ?_⟩) hHeld ?_
    rotate_left
    · intro W_ hSw_
      obtain ⟨qq, rfl⟩ := hSw_
      first | (go_simp; done) | (go_simp; with_reducible rfl)
    rotate_left
    try simp only [Act.put, List.setIfInBounds_toArray, List.set_cons_zero, List.set_cons_succ]
    refine wpAnyH_take (i := 14) (oi := { dst := some 28, op := Op.load 31 (Operand.tmp 3), type := 31, pos := "law.go:94", after := #[{ on := 12, ground := Ground.guard }], guard := some (12, false) }) (v := ?_) rfl (by kernel_rfl) (by kernel_rfl) (by kernel_rfl) (fun _ _ _ h => h) (Or.inl ⟨by rfl, ?_⟩) hHeld ?_
    rotate_left
    · intro W_ hSw_
      obtain ⟨qq, rfl⟩ := hSw_
      first | (go_simp; done) | (go_simp; with_reducible rfl)
    rotate_left
    try simp only [Act.put, List.setIfInBounds_toArray, List.set_cons_zero, List.set_cons_succ]
    refine wpAnyH_ready (rs := [15]) (by kernel_rfl) (by simp) ?_
    refine AllReadyH.cons (o := { dst := some 29, op := Op.call { callee := Callee.value (Operand.func 13), args := #[Operand.tmp 27, Operand.tmp 28], argTypes := #[31, 31] }, type := 4, pos := "law.go:94", after := #[{ on := 13, ground := Ground.data }, { on := 14, ground := Ground.data }, { on := 12, ground := Ground.chain }, { on := 12, ground := Ground.guard }], guard := some (12, false) }) rfl (fun K hK => ?_) AllReadyH.nil
    go_simp
    refine (rsame_any hS hS a3 a1 n n c3 c1 lS lS X2 (G.out.2.sl.below B2.out) (G.out.1.sl.below B2.out) hn1 hn1).mono ?_
    rintro _ X3 ⟨rfl, bb⟩
    rw [sameT_self]
    have B3 : Hid (Below V.heap.size V X3) := below_over B2.out bb
    clear bb hHeld
    refine hK.out _ _ ⟨⟨_, B3.out⟩, rfl⟩ (fun hHeld => ?_)
    clear hK K
    try simp only [Act.put, List.setIfInBounds_toArray, List.set_cons_zero, List.set_cons_succ]
    refine wpAnyH_take (i := 16) (oi := { dst := some 30, op := Op.pick (Operand.tmp 26) (Operand.const (Value.bool true)) (Operand.tmp 29), type := 4, pos := "law.go:94", after := #[{ on := 12, ground := Ground.data }, { on := 15, ground := Ground.data }, { on := 10, ground := Ground.guard }], guard := some (10, true) }) (v := ?_) rfl (by kernel_rfl) (by kernel_rfl) (by kernel_rfl) (fun _ _ _ h => h) (Or.inl ⟨by rfl, ?_⟩) hHeld ?_
    rotate_left
    · intro W_ hSw_
      obtain ⟨qq, rfl⟩ := hSw_
      first | (go_simp; done) | (go_simp; with_reducible rfl)
    rotate_left
    try simp only [Act.put, List.setIfInBounds_toArray, List.set_cons_zero, List.set_cons_succ]
    refine wpAnyH_take (i := 17) (oi := { dst := some 31, op := Op.pick (Operand.tmp 24) (Operand.tmp 30) (Operand.const (Value.bool false)), type := 4, pos := "law.go:94", after := #[{ on := 10, ground := Ground.data }, { on := 16, ground := Ground.data }], guard := none }) (v := ?_) rfl (by kernel_rfl) (by kernel_rfl) (by kernel_rfl) (fun _ _ _ h => h) (Or.inl ⟨by rfl, ?_⟩) hHeld ?_
    rotate_left
    · intro W_ hSw_
      obtain ⟨qq, rfl⟩ := hSw_
      first | (go_simp; done) | (go_simp; with_reducible rfl)
    rotate_left
    try simp only [Act.put, List.setIfInBounds_toArray, List.set_cons_zero, List.set_cons_succ]
    refine wpAnyH_take (i := 18) (oi := { dst := some 32, op := Op.move (Operand.tmp 31), type := 4, pos := "law.go:94", after := #[{ on := 17, ground := Ground.data }, { on := 15, ground := Ground.chain }], guard := none }) (v := ?_) rfl (by kernel_rfl) (by kernel_rfl) (by kernel_rfl) (fun _ _ _ h => h) (Or.inl ⟨by rfl, ?_⟩) hHeld ?_
    rotate_left
    · intro W_ hSw_
      obtain ⟨qq, rfl⟩ := hSw_
      first | (go_simp; done) | (go_simp; with_reducible rfl)
    rotate_left
    try simp only [Act.put, List.setIfInBounds_toArray, List.set_cons_zero, List.set_cons_succ]
    refine wpAnyH_ready (rs := [19]) (by kernel_rfl) (by simp) ?_
    refine AllReadyH.cons (o := { dst := some 33, op := Op.call { callee := Callee.value (Operand.func 12), args := #[], argTypes := #[] }, type := 4, pos := "law.go:94", after := #[{ on := 18, ground := Ground.chain }, { on := 18, ground := Ground.guard }], guard := some (18, true) }) rfl (fun K hK => ?_) AllReadyH.nil
    go_simp
    refine (awake_any X3).mono ?_
    rintro _ X4 ⟨rfl, bb⟩
    have B4 : Hid (Below V.heap.size V X4) := below_over B3.out bb
    clear bb hHeld
    refine hK.out _ _ ⟨⟨_, B4.out⟩, rfl⟩ (fun hHeld => ?_)
    clear hK K
    try simp only [Act.put, List.setIfInBounds_toArray, List.set_cons_zero, List.set_cons_succ]
    refine wpAnyH_take (i := 20) (oi := { dst := some 34, op := Op.pick (Operand.tmp 32) (Operand.tmp 33) (Operand.const (Value.bool false)), type := 4, pos := "law.go:94", after := #[{ on := 18, ground := Ground.data }, { on := 19, ground := Ground.data }], guard := none }) (v := ?_) rfl (by kernel_rfl) (by kernel_rfl) (by kernel_rfl) (fun _ _ _ h => h) (Or.inl ⟨by rfl, ?_⟩) hHeld ?_
    rotate_left
    · intro W_ hSw_
      obtain ⟨qq, rfl⟩ := hSw_
      first | (go_simp; done) | (go_simp; with_reducible rfl)
    rotate_left
    try simp only [Act.put, List.setIfInBounds_toArray, List.set_cons_zero, List.set_cons_succ]
    refine wpAnyH_ready (rs := [21]) (by kernel_rfl) (by simp) ?_
    refine AllReadyH.cons (o := { dst := some 2, op := Op.assign (Operand.tmp 34), type := 4, pos := "law.go:94", after := #[{ on := 20, ground := Ground.data }, { on := 19, ground := Ground.chain }, { on := 0, ground := Ground.phase }, { on := 1, ground := Ground.phase }, { on := 2, ground := Ground.phase }, { on := 3, ground := Ground.phase }, { on := 4, ground := Ground.phase }, { on := 5, ground := Ground.phase }, { on := 6, ground := Ground.phase }, { on := 7, ground := Ground.phase }, { on := 8, ground := Ground.phase }, { on := 9, ground := Ground.phase }, { on := 10, ground := Ground.phase }, { on := 11, ground := Ground.phase }, { on := 12, ground := Ground.phase }, { on := 13, ground := Ground.phase }, { on := 14, ground := Ground.phase }, { on := 15, ground := Ground.phase }, { on := 16, ground := Ground.phase }, { on := 17, ground := Ground.phase }, { on := 18, ground := Ground.phase }, { on := 19, ground := Ground.phase }, { on := 20, ground := Ground.phase }], guard := none }) rfl (fun K hK => ?_) AllReadyH.nil
    go_simp
    clear hHeld
    refine hK.out _ _ ⟨⟨_, B4.out⟩, rfl⟩ (fun hHeld => ?_)
    clear hK K
    try simp only [Act.put, List.setIfInBounds_toArray, List.set_cons_zero, List.set_cons_succ]
    refine wpAnyH_done (by kernel_rfl) ?_ _
    refine NoPanic.normal ?_
    clear hHeld
    go_wp2
    go_ret
    exact ⟨rfl, below_over G.out.1.bel B4.out⟩
end Go.Proofs.Ytnblhmicbhblpaa
