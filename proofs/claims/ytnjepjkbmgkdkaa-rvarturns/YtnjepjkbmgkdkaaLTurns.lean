/-
  RvarTurns: its walk, for every tree.
-/
import Derived.Test.YtnjepjkbmgkdkaaAwake
namespace Go.Proofs.Ytnjepjkbmgkdkaa
set_option linter.unusedVariables false
set_option maxRecDepth 4000
set_option linter.unusedSimpArgs false
open Go.RowKit

theorem upL_len (l : List Pt) (i : Int) (b : Bool) : (upL l i b).length = l.length := by
  unfold upL
  split
  · rw [List.length_set]
  · rfl
attribute [local go_sem ↓] ldT stT
set_option maxHeartbeats 8000000 in
theorem RvarTurns_walk (h : Hd) (a0 : Option Addr) (n0 c0 : Nat) (l : List Pt) (i : Int) (up : Bool) (w : World) (hs : SlAt w a0 n0 c0 l) (hi : -9223372036854775808 ≤ i ∧ i ≤ 9223372036854775807) :
    Calls Try.prog 4 #[.agg (trc h (.slice a0 n0 c0)), .int .i64 i, .bool up] w fun r w' => r = .returned (.bool true) ∧ Below w.heap.size w w' := by
  obtain ⟨W, hW, r0, bW, zW⟩ := one_t w h (.slice a0 n0 c0)
  have l0 := r0.tld
  have H : Hid (SlAt W a0 n0 c0 l ∧ RvAt W w.heap.size 34 (trc h (.slice a0 n0 c0)) ∧ Below w.heap.size w W ∧ W.heap.size = w.heap.size + 1) := ⟨hs.below bW, r0, bW, zW⟩
  clear hs r0 bW zW hi
  go_enter Try.func4, Try.ntmps4
  go_wp2_with fail
  refine (few_any h a0 n0 c0 l W H.out.1).mono ?_
  rintro _ W1 ⟨v, rfl, o1, b1⟩
  obtain ⟨V, sV, rV, gV⟩ := (H.out.2.1.below b1).tst (g := h) (y := v) o1.one
  have oV := o1.keptBut gV (o1.apart (by have := H.out.2.2.2; omega))
  obtain ⟨ls, hls⟩ : ∃ ls, l.take 10 = ls := ⟨_, rfl⟩
  have hlen : ls.length ≤ 10 := by rw [← hls, List.length_take]; omega
  rw [hls] at oV
  obtain ⟨a, c, hv, sv, _⟩ := oV.form
  obtain ⟨n, hn0⟩ : ∃ n, ls.length = n := ⟨_, rfl⟩
  rw [hn0] at hv sv
  subst hv
  have bV : Below w.heap.size w V := gro (below_over H.out.2.2.1 b1) gV (Nat.le_refl _) (below_over H.out.2.2.1 b1).size
  have G : Hid (RvAt V w.heap.size 34 (trc h (.slice a n c)) ∧ SlAt V a n c ls ∧ Below w.heap.size w V) := ⟨rV, sv, bV⟩
  have hn : n ≤ 1000 := by omega
  obtain ⟨lu, eu⟩ : ∃ z, upL ls i up = z := ⟨_, rfl⟩
  have hlu : lu.length ≤ 1000 := by rw [← eu, upL_len]; omega
  have Elu : Hid (upL ls i up = lu) := eu
  obtain ⟨lk, elk⟩ : ∃ z, ls.map tickP = z := ⟨_, rfl⟩
  have hlt : lk.length ≤ 1000 := by rw [← elk, List.length_map]; omega
  have Elk : Hid (ls.map tickP = lk) := elk
  obtain ⟨ly, ely⟩ : ∃ z, ls.map syncP = z := ⟨_, rfl⟩
  have hls2 : ly.length ≤ 1000 := by rw [← ely, List.length_map]; omega
  have Ely : Hid (ls.map syncP = ly) := ely
  obtain ⟨lr, elr⟩ : ∃ z, ls.map rerP = z := ⟨_, rfl⟩
  have hlr : lr.length ≤ 1000 := by rw [← elr, List.length_map]; omega
  have Elr : Hid (ls.map rerP = lr) := elr
  have hll : ls.length ≤ 1000 := by omega
  have ft := fun qq : Later V => (G.out.1.below qq.below).tld
  clear o1 b1 rV gV oV hls sv bV l0 hlen eu elk ely elr
  have HN : Hid (ls.length = n) := hn0
  clear hn0
  go_wp2_with fail
  obtain ⟨X0, hX0⟩ : ∃ X0, World.drew V = X0 := ⟨_, rfl⟩
  have B0 : Hid (Below V.heap.size V X0) := by rw [← hX0]; exact (Below.refl _ _).drew
  refine wp_region_noPanic ?_
  refine wp_region_held_drew (S := fun w' => ∃ x : Later V, w' = x.val) (by kernel_rfl) ⟨⟨_, (Below.refl _ _).drew⟩, rfl⟩ (fun hHeld => ?_)
  rw [hX0] at hHeld ⊢
  clear hX0
  refine wpAnyH_take (i := 0) (oi := { dst := some 9, op := Op.load 34 (Operand.tmp 3), type := 34, pos := "law.go:47", after := #[], guard := none }) (v := ?_) rfl (by kernel_rfl) (by kernel_rfl) (by kernel_rfl) (fun _ _ _ h => h) (Or.inl ⟨by rfl, ?_⟩) hHeld ?_
  rotate_left
  · intro W_ hSw_
    obtain ⟨qq, rfl⟩ := hSw_
    first | (go_simp; done) | (go_simp; with_reducible rfl)
  rotate_left
  try simp only [Act.put, List.setIfInBounds_toArray, List.set_cons_zero, List.set_cons_succ]
  refine wpAnyH_take (i := 1) (oi := { dst := some 10, op := Op.move (Operand.tmp 1), type := 3, pos := "law.go:47", after := #[], guard := none }) (v := ?_) rfl (by kernel_rfl) (by kernel_rfl) (by kernel_rfl) (fun _ _ _ h => h) (Or.inl ⟨by rfl, ?_⟩) hHeld ?_
  rotate_left
  · intro W_ hSw_
    obtain ⟨qq, rfl⟩ := hSw_
    first | (go_simp; done) | (go_simp; with_reducible rfl)
  rotate_left
  try simp only [Act.put, List.setIfInBounds_toArray, List.set_cons_zero, List.set_cons_succ]
  refine wpAnyH_take (i := 2) (oi := { dst := some 11, op := Op.move (Operand.tmp 2), type := 4, pos := "law.go:47", after := #[], guard := none }) (v := ?_) rfl (by kernel_rfl) (by kernel_rfl) (by kernel_rfl) (fun _ _ _ h => h) (Or.inl ⟨by rfl, ?_⟩) hHeld ?_
  rotate_left
  · intro W_ hSw_
    obtain ⟨qq, rfl⟩ := hSw_
    first | (go_simp; done) | (go_simp; with_reducible rfl)
  rotate_left
  try simp only [Act.put, List.setIfInBounds_toArray, List.set_cons_zero, List.set_cons_succ]
  refine wpAnyH_take (i := 4) (oi := { dst := some 13, op := Op.load 34 (Operand.tmp 3), type := 34, pos := "law.go:47", after := #[], guard := none }) (v := ?_) rfl (by kernel_rfl) (by kernel_rfl) (by kernel_rfl) (fun _ _ _ h => h) (Or.inl ⟨by rfl, ?_⟩) hHeld ?_
  rotate_left
  · intro W_ hSw_
    obtain ⟨qq, rfl⟩ := hSw_
    first | (go_simp; done) | (go_simp; with_reducible rfl)
  rotate_left
  try simp only [Act.put, List.setIfInBounds_toArray, List.set_cons_zero, List.set_cons_succ]
  refine wpAnyH_take (i := 5) (oi := { dst := some 14, op := Op.move (Operand.tmp 1), type := 3, pos := "law.go:47", after := #[], guard := none }) (v := ?_) rfl (by kernel_rfl) (by kernel_rfl) (by kernel_rfl) (fun _ _ _ h => h) (Or.inl ⟨by rfl, ?_⟩) hHeld ?_
  rotate_left
  · intro W_ hSw_
    obtain ⟨qq, rfl⟩ := hSw_
    first | (go_simp; done) | (go_simp; with_reducible rfl)
  rotate_left
  try simp only [Act.put, List.setIfInBounds_toArray, List.set_cons_zero, List.set_cons_succ]
  refine wpAnyH_take (i := 6) (oi := { dst := some 15, op := Op.move (Operand.tmp 2), type := 4, pos := "law.go:47", after := #[], guard := none }) (v := ?_) rfl (by kernel_rfl) (by kernel_rfl) (by kernel_rfl) (fun _ _ _ h => h) (Or.inl ⟨by rfl, ?_⟩) hHeld ?_
  rotate_left
  · intro W_ hSw_
    obtain ⟨qq, rfl⟩ := hSw_
    first | (go_simp; done) | (go_simp; with_reducible rfl)
  rotate_left
  try simp only [Act.put, List.setIfInBounds_toArray, List.set_cons_zero, List.set_cons_succ]
  refine wpAnyH_ready (rs := [3]) (by kernel_rfl) (by simp) ?_
  refine AllReadyH.cons (o := { dst := some 12, op := Op.call { callee := Callee.value (Operand.func 13), args := #[Operand.tmp 9, Operand.tmp 10, Operand.tmp 11], argTypes := #[34, 3, 4] }, type := 34, pos := "law.go:47", after := #[{ on := 0, ground := Ground.data }, { on := 1, ground := Ground.data }, { on := 2, ground := Ground.data }], guard := none }) rfl (fun K hK => ?_) AllReadyH.nil
  go_simp
  refine (up_any h a n c ls i up _ (G.out.2.1.below B0.out) hn).mono ?_
  rintro _ X1 ⟨v1, rfl, o1, bb⟩
  rw [Elu.out] at o1
  obtain ⟨a1, c1, hv1, s1, _⟩ := o1.form
  subst hv1
  have B1 : Hid (Below V.heap.size V X1) := below_over B0.out bb
  have S1 : Hid (SlAt X1 a1 (lu).length c1 (lu)) := s1
  clear bb o1 s1
  clear hHeld
  refine hK.out _ _ ⟨⟨_, B1.out⟩, rfl⟩ (fun hHeld => ?_)
  clear hK K
  try simp only [Act.put, List.setIfInBounds_toArray, List.set_cons_zero, List.set_cons_succ]
  refine wpAnyH_ready (rs := [7]) (by kernel_rfl) (by simp) ?_
  refine AllReadyH.cons (o := { dst := some 16, op := Op.call { callee := Callee.value (Operand.func 14), args := #[Operand.tmp 13, Operand.tmp 14, Operand.tmp 15], argTypes := #[34, 3, 4] }, type := 34, pos := "law.go:47", after := #[{ on := 4, ground := Ground.data }, { on := 5, ground := Ground.data }, { on := 6, ground := Ground.data }, { on := 3, ground := Ground.chain }], guard := none }) rfl (fun K hK => ?_) AllReadyH.nil
  go_simp
  refine (rup_any h a n c ls i up _ (G.out.2.1.below B1.out) hn).mono ?_
  rintro _ X2 ⟨v2, rfl, o2, bb⟩
  rw [Elu.out] at o2
  obtain ⟨a2, c2, hv2, s2, _⟩ := o2.form
  subst hv2
  have B2 : Hid (Below V.heap.size V X2) := below_over B1.out bb
  have S1_2 : Hid (SlAt X2 a1 (lu).length c1 (lu)) := S1.out.below bb
  have S2 : Hid (SlAt X2 a2 (lu).length c2 (lu)) := s2
  clear bb o2 s2
  clear S1
  have S1 := S1_2
  clear S1_2
  clear hHeld
  refine hK.out _ _ ⟨⟨_, B2.out⟩, rfl⟩ (fun hHeld => ?_)
  clear hK K
  try simp only [Act.put, List.setIfInBounds_toArray, List.set_cons_zero, List.set_cons_succ]
  refine wpAnyH_ready (rs := [8]) (by kernel_rfl) (by simp) ?_
  refine AllReadyH.cons (o := { dst := some 17, op := Op.call { callee := Callee.value (Operand.func 9), args := #[Operand.tmp 12, Operand.tmp 16], argTypes := #[34, 34] }, type := 4, pos := "law.go:47", after := #[{ on := 3, ground := Ground.data }, { on := 7, ground := Ground.data }, { on := 7, ground := Ground.chain }], guard := none }) rfl (fun K hK => ?_) AllReadyH.nil
  go_simp
  refine (rsame_any h h a1 a2 _ _ c1 c2 (lu) (lu) _ S1.out S2.out hlu hlu).mono ?_
  rintro _ X3 ⟨rfl, bb⟩
  rw [sameT_self]
  have B3 : Hid (Below V.heap.size V X3) := below_over B2.out bb
  clear bb
  clear S1
  clear S2
  clear hHeld
  refine hK.out _ _ ⟨⟨_, B3.out⟩, rfl⟩ (fun hHeld => ?_)
  clear hK K
  try simp only [Act.put, List.setIfInBounds_toArray, List.set_cons_zero, List.set_cons_succ]
  refine wpAnyH_take (i := 9) (oi := { dst := some 18, op := Op.move (Operand.tmp 17), type := 4, pos := "law.go:47", after := #[{ on := 8, ground := Ground.data }, { on := 8, ground := Ground.chain }], guard := none }) (v := ?_) rfl (by kernel_rfl) (by kernel_rfl) (by kernel_rfl) (fun _ _ _ h => h) (Or.inl ⟨by rfl, ?_⟩) hHeld ?_
  rotate_left
  · intro W_ hSw_
    obtain ⟨qq, rfl⟩ := hSw_
    first | (go_simp; done) | (go_simp; with_reducible rfl)
  rotate_left
  try simp only [Act.put, List.setIfInBounds_toArray, List.set_cons_zero, List.set_cons_succ]
  refine wpAnyH_take (i := 10) (oi := { dst := some 19, op := Op.load 34 (Operand.tmp 3), type := 34, pos := "law.go:47", after := #[{ on := 9, ground := Ground.guard }], guard := some (9, true) }) (v := ?_) rfl (by kernel_rfl) (by kernel_rfl) (by kernel_rfl) (fun _ _ _ h => h) (Or.inl ⟨by rfl, ?_⟩) hHeld ?_
  rotate_left
  · intro W_ hSw_
    obtain ⟨qq, rfl⟩ := hSw_
    first | (go_simp; done) | (go_simp; with_reducible rfl)
  rotate_left
  try simp only [Act.put, List.setIfInBounds_toArray, List.set_cons_zero, List.set_cons_succ]
  refine wpAnyH_take (i := 12) (oi := { dst := some 21, op := Op.load 34 (Operand.tmp 3), type := 34, pos := "law.go:47", after := #[{ on := 9, ground := Ground.guard }], guard := some (9, true) }) (v := ?_) rfl (by kernel_rfl) (by kernel_rfl) (by kernel_rfl) (fun _ _ _ h => h) (Or.inl ⟨by rfl, ?_⟩) hHeld ?_
  rotate_left
  · intro W_ hSw_
    obtain ⟨qq, rfl⟩ := hSw_
    first | (go_simp; done) | (go_simp; with_reducible rfl)
  rotate_left
  try simp only [Act.put, List.setIfInBounds_toArray, List.set_cons_zero, List.set_cons_succ]
  refine wpAnyH_ready (rs := [11]) (by kernel_rfl) (by simp) ?_
  refine AllReadyH.cons (o := { dst := some 20, op := Op.call { callee := Callee.value (Operand.func 15), args := #[Operand.tmp 19], argTypes := #[34] }, type := 34, pos := "law.go:47", after := #[{ on := 10, ground := Ground.data }, { on := 9, ground := Ground.chain }, { on := 9, ground := Ground.guard }], guard := some (9, true) }) rfl (fun K hK => ?_) AllReadyH.nil
  go_simp
  refine (tick_any h a n c ls _ (G.out.2.1.below B3.out) hn).mono ?_
  rintro _ X4 ⟨v4, rfl, o4, bb⟩
  rw [Elk.out] at o4
  obtain ⟨a4, c4, hv4, s4, _⟩ := o4.form
  subst hv4
  have B4 : Hid (Below V.heap.size V X4) := below_over B3.out bb
  have S4 : Hid (SlAt X4 a4 (lk).length c4 (lk)) := s4
  clear bb o4 s4
  clear hHeld
  refine hK.out _ _ ⟨⟨_, B4.out⟩, rfl⟩ (fun hHeld => ?_)
  clear hK K
  try simp only [Act.put, List.setIfInBounds_toArray, List.set_cons_zero, List.set_cons_succ]
  refine wpAnyH_ready (rs := [13]) (by kernel_rfl) (by simp) ?_
  refine AllReadyH.cons (o := { dst := some 22, op := Op.call { callee := Callee.value (Operand.func 16), args := #[Operand.tmp 21], argTypes := #[34] }, type := 34, pos := "law.go:47", after := #[{ on := 12, ground := Ground.data }, { on := 11, ground := Ground.chain }, { on := 9, ground := Ground.guard }], guard := some (9, true) }) rfl (fun K hK => ?_) AllReadyH.nil
  go_simp
  refine (rtick_any h a n c ls _ (G.out.2.1.below B4.out) hn).mono ?_
  rintro _ X5 ⟨v5, rfl, o5, bb⟩
  rw [Elk.out] at o5
  obtain ⟨a5, c5, hv5, s5, _⟩ := o5.form
  subst hv5
  have B5 : Hid (Below V.heap.size V X5) := below_over B4.out bb
  have S4_5 : Hid (SlAt X5 a4 (lk).length c4 (lk)) := S4.out.below bb
  have S5 : Hid (SlAt X5 a5 (lk).length c5 (lk)) := s5
  clear bb o5 s5
  clear S4
  have S4 := S4_5
  clear S4_5
  clear hHeld
  refine hK.out _ _ ⟨⟨_, B5.out⟩, rfl⟩ (fun hHeld => ?_)
  clear hK K
  try simp only [Act.put, List.setIfInBounds_toArray, List.set_cons_zero, List.set_cons_succ]
  refine wpAnyH_ready (rs := [14]) (by kernel_rfl) (by simp) ?_
  refine AllReadyH.cons (o := { dst := some 23, op := Op.call { callee := Callee.value (Operand.func 9), args := #[Operand.tmp 20, Operand.tmp 22], argTypes := #[34, 34] }, type := 4, pos := "law.go:47", after := #[{ on := 11, ground := Ground.data }, { on := 13, ground := Ground.data }, { on := 13, ground := Ground.chain }, { on := 9, ground := Ground.guard }], guard := some (9, true) }) rfl (fun K hK => ?_) AllReadyH.nil
  go_simp
  refine (rsame_any h h a4 a5 _ _ c4 c5 (lk) (lk) _ S4.out S5.out hlt hlt).mono ?_
  rintro _ X6 ⟨rfl, bb⟩
  rw [sameT_self]
  have B6 : Hid (Below V.heap.size V X6) := below_over B5.out bb
  clear bb
  clear S4
  clear S5
  clear hHeld
  refine hK.out _ _ ⟨⟨_, B6.out⟩, rfl⟩ (fun hHeld => ?_)
  clear hK K
  try simp only [Act.put, List.setIfInBounds_toArray, List.set_cons_zero, List.set_cons_succ]
  refine wpAnyH_take (i := 15) (oi := { dst := some 24, op := Op.pick (Operand.tmp 18) (Operand.tmp 23) (Operand.const (Value.bool false)), type := 4, pos := "law.go:47", after := #[{ on := 9, ground := Ground.data }, { on := 14, ground := Ground.data }], guard := none }) (v := ?_) rfl (by kernel_rfl) (by kernel_rfl) (by kernel_rfl) (fun _ _ _ h => h) (Or.inl ⟨by rfl, ?_⟩) hHeld ?_
  rotate_left
  · intro W_ hSw_
    obtain ⟨qq, rfl⟩ := hSw_
    first | (go_simp; done) | (go_simp; with_reducible rfl)
  rotate_left
  try simp only [Act.put, List.setIfInBounds_toArray, List.set_cons_zero, List.set_cons_succ]
  refine wpAnyH_take (i := 16) (oi := { dst := some 25, op := Op.move (Operand.tmp 24), type := 4, pos := "law.go:47", after := #[{ on := 15, ground := Ground.data }, { on := 14, ground := Ground.chain }], guard := none }) (v := ?_) rfl (by kernel_rfl) (by kernel_rfl) (by kernel_rfl) (fun _ _ _ h => h) (Or.inl ⟨by rfl, ?_⟩) hHeld ?_
  rotate_left
  · intro W_ hSw_
    obtain ⟨qq, rfl⟩ := hSw_
    first | (go_simp; done) | (go_simp; with_reducible rfl)
  rotate_left
  try simp only [Act.put, List.setIfInBounds_toArray, List.set_cons_zero, List.set_cons_succ]
  refine wpAnyH_take (i := 17) (oi := { dst := some 26, op := Op.load 34 (Operand.tmp 3), type := 34, pos := "law.go:47", after := #[{ on := 16, ground := Ground.guard }], guard := some (16, true) }) (v := ?_) rfl (by kernel_rfl) (by kernel_rfl) (by kernel_rfl) (fun _ _ _ h => h) (Or.inl ⟨by rfl, ?_⟩) hHeld ?_
  rotate_left
  · intro W_ hSw_
    obtain ⟨qq, rfl⟩ := hSw_
    first | (go_simp; done) | (go_simp; with_reducible rfl)
  rotate_left
  try simp only [Act.put, List.setIfInBounds_toArray, List.set_cons_zero, List.set_cons_succ]
  refine wpAnyH_take (i := 19) (oi := { dst := some 28, op := Op.load 34 (Operand.tmp 3), type := 34, pos := "law.go:47", after := #[{ on := 16, ground := Ground.guard }], guard := some (16, true) }) (v := ?_) rfl (by kernel_rfl) (by kernel_rfl) (by kernel_rfl) (fun _ _ _ h => h) (Or.inl ⟨by rfl, ?_⟩) hHeld ?_
  rotate_left
  · intro W_ hSw_
    obtain ⟨qq, rfl⟩ := hSw_
    first | (go_simp; done) | (go_simp; with_reducible rfl)
  rotate_left
  try simp only [Act.put, List.setIfInBounds_toArray, List.set_cons_zero, List.set_cons_succ]
  refine wpAnyH_ready (rs := [18]) (by kernel_rfl) (by simp) ?_
  refine AllReadyH.cons (o := { dst := some 27, op := Op.call { callee := Callee.value (Operand.func 17), args := #[Operand.tmp 26], argTypes := #[34] }, type := 34, pos := "law.go:47", after := #[{ on := 17, ground := Ground.data }, { on := 16, ground := Ground.chain }, { on := 16, ground := Ground.guard }], guard := some (16, true) }) rfl (fun K hK => ?_) AllReadyH.nil
  go_simp
  refine (copy_any h a n c ls _ (G.out.2.1.below B6.out) hn).mono ?_
  rintro _ X7 ⟨v7, rfl, o7, bb⟩
  obtain ⟨a7, c7, hv7, s7, _⟩ := o7.form
  subst hv7
  have B7 : Hid (Below V.heap.size V X7) := below_over B6.out bb
  have S7 : Hid (SlAt X7 a7 (ls).length c7 (ls)) := s7
  clear bb o7 s7
  clear hHeld
  refine hK.out _ _ ⟨⟨_, B7.out⟩, rfl⟩ (fun hHeld => ?_)
  clear hK K
  try simp only [Act.put, List.setIfInBounds_toArray, List.set_cons_zero, List.set_cons_succ]
  refine wpAnyH_ready (rs := [20]) (by kernel_rfl) (by simp) ?_
  refine AllReadyH.cons (o := { dst := some 29, op := Op.call { callee := Callee.value (Operand.func 9), args := #[Operand.tmp 27, Operand.tmp 28], argTypes := #[34, 34] }, type := 4, pos := "law.go:47", after := #[{ on := 18, ground := Ground.data }, { on := 19, ground := Ground.data }, { on := 18, ground := Ground.chain }, { on := 16, ground := Ground.guard }], guard := some (16, true) }) rfl (fun K hK => ?_) AllReadyH.nil
  go_simp
  refine (rsame_any h h a7 a _ n c7 c ls ls _ S7.out (G.out.2.1.below B7.out) hll hn).mono ?_
  rintro _ X8 ⟨rfl, bb⟩
  rw [sameT_self]
  have B8 : Hid (Below V.heap.size V X8) := below_over B7.out bb
  clear bb
  clear S7
  clear hHeld
  refine hK.out _ _ ⟨⟨_, B8.out⟩, rfl⟩ (fun hHeld => ?_)
  clear hK K
  try simp only [Act.put, List.setIfInBounds_toArray, List.set_cons_zero, List.set_cons_succ]
  refine wpAnyH_take (i := 21) (oi := { dst := some 30, op := Op.pick (Operand.tmp 25) (Operand.tmp 29) (Operand.const (Value.bool false)), type := 4, pos := "law.go:47", after := #[{ on := 16, ground := Ground.data }, { on := 20, ground := Ground.data }], guard := none }) (v := ?_) rfl (by kernel_rfl) (by kernel_rfl) (by kernel_rfl) (fun _ _ _ h => h) (Or.inl ⟨by rfl, ?_⟩) hHeld ?_
  rotate_left
  · intro W_ hSw_
    obtain ⟨qq, rfl⟩ := hSw_
    first | (go_simp; done) | (go_simp; with_reducible rfl)
  rotate_left
  try simp only [Act.put, List.setIfInBounds_toArray, List.set_cons_zero, List.set_cons_succ]
  refine wpAnyH_take (i := 22) (oi := { dst := some 31, op := Op.move (Operand.tmp 30), type := 4, pos := "law.go:47", after := #[{ on := 21, ground := Ground.data }, { on := 20, ground := Ground.chain }], guard := none }) (v := ?_) rfl (by kernel_rfl) (by kernel_rfl) (by kernel_rfl) (fun _ _ _ h => h) (Or.inl ⟨by rfl, ?_⟩) hHeld ?_
  rotate_left
  · intro W_ hSw_
    obtain ⟨qq, rfl⟩ := hSw_
    first | (go_simp; done) | (go_simp; with_reducible rfl)
  rotate_left
  try simp only [Act.put, List.setIfInBounds_toArray, List.set_cons_zero, List.set_cons_succ]
  refine wpAnyH_take (i := 23) (oi := { dst := some 32, op := Op.load 34 (Operand.tmp 3), type := 34, pos := "law.go:47", after := #[{ on := 22, ground := Ground.guard }], guard := some (22, true) }) (v := ?_) rfl (by kernel_rfl) (by kernel_rfl) (by kernel_rfl) (fun _ _ _ h => h) (Or.inl ⟨by rfl, ?_⟩) hHeld ?_
  rotate_left
  · intro W_ hSw_
    obtain ⟨qq, rfl⟩ := hSw_
    first | (go_simp; done) | (go_simp; with_reducible rfl)
  rotate_left
  try simp only [Act.put, List.setIfInBounds_toArray, List.set_cons_zero, List.set_cons_succ]
  refine wpAnyH_take (i := 25) (oi := { dst := some 34, op := Op.load 34 (Operand.tmp 3), type := 34, pos := "law.go:47", after := #[{ on := 22, ground := Ground.guard }], guard := some (22, true) }) (v := ?_) rfl (by kernel_rfl) (by kernel_rfl) (by kernel_rfl) (fun _ _ _ h => h) (Or.inl ⟨by rfl, ?_⟩) hHeld ?_
  rotate_left
  · intro W_ hSw_
    obtain ⟨qq, rfl⟩ := hSw_
    first | (go_simp; done) | (go_simp; with_reducible rfl)
  rotate_left
  try simp only [Act.put, List.setIfInBounds_toArray, List.set_cons_zero, List.set_cons_succ]
  refine wpAnyH_ready (rs := [24]) (by kernel_rfl) (by simp) ?_
  refine AllReadyH.cons (o := { dst := some 33, op := Op.call { callee := Callee.value (Operand.func 18), args := #[Operand.tmp 32], argTypes := #[34] }, type := 34, pos := "law.go:47", after := #[{ on := 23, ground := Ground.data }, { on := 22, ground := Ground.chain }, { on := 22, ground := Ground.guard }], guard := some (22, true) }) rfl (fun K hK => ?_) AllReadyH.nil
  go_simp
  refine (sync_any h a n c ls _ (G.out.2.1.below B8.out) hn).mono ?_
  rintro _ X9 ⟨v9, rfl, o9, bb⟩
  rw [Ely.out] at o9
  obtain ⟨a9, c9, hv9, s9, _⟩ := o9.form
  subst hv9
  have B9 : Hid (Below V.heap.size V X9) := below_over B8.out bb
  have S9 : Hid (SlAt X9 a9 (ly).length c9 (ly)) := s9
  clear bb o9 s9
  clear hHeld
  refine hK.out _ _ ⟨⟨_, B9.out⟩, rfl⟩ (fun hHeld => ?_)
  clear hK K
  try simp only [Act.put, List.setIfInBounds_toArray, List.set_cons_zero, List.set_cons_succ]
  refine wpAnyH_ready (rs := [26]) (by kernel_rfl) (by simp) ?_
  refine AllReadyH.cons (o := { dst := some 35, op := Op.call { callee := Callee.value (Operand.func 19), args := #[Operand.tmp 34], argTypes := #[34] }, type := 34, pos := "law.go:47", after := #[{ on := 25, ground := Ground.data }, { on := 24, ground := Ground.chain }, { on := 22, ground := Ground.guard }], guard := some (22, true) }) rfl (fun K hK => ?_) AllReadyH.nil
  go_simp
  refine (rsync_any h a n c ls _ (G.out.2.1.below B9.out) hn).mono ?_
  rintro _ X10 ⟨v10, rfl, o10, bb⟩
  rw [Ely.out] at o10
  obtain ⟨a10, c10, hv10, s10, _⟩ := o10.form
  subst hv10
  have B10 : Hid (Below V.heap.size V X10) := below_over B9.out bb
  have S9_10 : Hid (SlAt X10 a9 (ly).length c9 (ly)) := S9.out.below bb
  have S10 : Hid (SlAt X10 a10 (ly).length c10 (ly)) := s10
  clear bb o10 s10
  clear S9
  have S9 := S9_10
  clear S9_10
  clear hHeld
  refine hK.out _ _ ⟨⟨_, B10.out⟩, rfl⟩ (fun hHeld => ?_)
  clear hK K
  try simp only [Act.put, List.setIfInBounds_toArray, List.set_cons_zero, List.set_cons_succ]
  refine wpAnyH_ready (rs := [27]) (by kernel_rfl) (by simp) ?_
  refine AllReadyH.cons (o := { dst := some 36, op := Op.call { callee := Callee.value (Operand.func 9), args := #[Operand.tmp 33, Operand.tmp 35], argTypes := #[34, 34] }, type := 4, pos := "law.go:47", after := #[{ on := 24, ground := Ground.data }, { on := 26, ground := Ground.data }, { on := 26, ground := Ground.chain }, { on := 22, ground := Ground.guard }], guard := some (22, true) }) rfl (fun K hK => ?_) AllReadyH.nil
  go_simp
  refine (rsame_any h h a9 a10 _ _ c9 c10 (ly) (ly) _ S9.out S10.out hls2 hls2).mono ?_
  rintro _ X11 ⟨rfl, bb⟩
  rw [sameT_self]
  have B11 : Hid (Below V.heap.size V X11) := below_over B10.out bb
  clear bb
  clear S9
  clear S10
  clear hHeld
  refine hK.out _ _ ⟨⟨_, B11.out⟩, rfl⟩ (fun hHeld => ?_)
  clear hK K
  try simp only [Act.put, List.setIfInBounds_toArray, List.set_cons_zero, List.set_cons_succ]
  refine wpAnyH_take (i := 28) (oi := { dst := some 37, op := Op.pick (Operand.tmp 31) (Operand.tmp 36) (Operand.const (Value.bool false)), type := 4, pos := "law.go:47", after := #[{ on := 22, ground := Ground.data }, { on := 27, ground := Ground.data }], guard := none }) (v := ?_) rfl (by kernel_rfl) (by kernel_rfl) (by kernel_rfl) (fun _ _ _ h => h) (Or.inl ⟨by rfl, ?_⟩) hHeld ?_
  rotate_left
  · intro W_ hSw_
    obtain ⟨qq, rfl⟩ := hSw_
    first | (go_simp; done) | (go_simp; with_reducible rfl)
  rotate_left
  try simp only [Act.put, List.setIfInBounds_toArray, List.set_cons_zero, List.set_cons_succ]
  refine wpAnyH_take (i := 29) (oi := { dst := some 38, op := Op.move (Operand.tmp 37), type := 4, pos := "law.go:47", after := #[{ on := 28, ground := Ground.data }, { on := 27, ground := Ground.chain }], guard := none }) (v := ?_) rfl (by kernel_rfl) (by kernel_rfl) (by kernel_rfl) (fun _ _ _ h => h) (Or.inl ⟨by rfl, ?_⟩) hHeld ?_
  rotate_left
  · intro W_ hSw_
    obtain ⟨qq, rfl⟩ := hSw_
    first | (go_simp; done) | (go_simp; with_reducible rfl)
  rotate_left
  try simp only [Act.put, List.setIfInBounds_toArray, List.set_cons_zero, List.set_cons_succ]
  refine wpAnyH_take (i := 30) (oi := { dst := some 39, op := Op.load 34 (Operand.tmp 3), type := 34, pos := "law.go:47", after := #[{ on := 29, ground := Ground.guard }], guard := some (29, true) }) (v := ?_) rfl (by kernel_rfl) (by kernel_rfl) (by kernel_rfl) (fun _ _ _ h => h) (Or.inl ⟨by rfl, ?_⟩) hHeld ?_
  rotate_left
  · intro W_ hSw_
    obtain ⟨qq, rfl⟩ := hSw_
    first | (go_simp; done) | (go_simp; with_reducible rfl)
  rotate_left
  try simp only [Act.put, List.setIfInBounds_toArray, List.set_cons_zero, List.set_cons_succ]
  refine wpAnyH_take (i := 32) (oi := { dst := some 41, op := Op.load 34 (Operand.tmp 3), type := 34, pos := "law.go:47", after := #[{ on := 29, ground := Ground.guard }], guard := some (29, true) }) (v := ?_) rfl (by kernel_rfl) (by kernel_rfl) (by kernel_rfl) (fun _ _ _ h => h) (Or.inl ⟨by rfl, ?_⟩) hHeld ?_
  rotate_left
  · intro W_ hSw_
    obtain ⟨qq, rfl⟩ := hSw_
    first | (go_simp; done) | (go_simp; with_reducible rfl)
  rotate_left
  try simp only [Act.put, List.setIfInBounds_toArray, List.set_cons_zero, List.set_cons_succ]
  refine wpAnyH_ready (rs := [31]) (by kernel_rfl) (by simp) ?_
  refine AllReadyH.cons (o := { dst := some 40, op := Op.call { callee := Callee.value (Operand.func 20), args := #[Operand.tmp 39], argTypes := #[34] }, type := 34, pos := "law.go:47", after := #[{ on := 30, ground := Ground.data }, { on := 29, ground := Ground.chain }, { on := 29, ground := Ground.guard }], guard := some (29, true) }) rfl (fun K hK => ?_) AllReadyH.nil
  go_simp
  refine (rer_any h a n c ls _ (G.out.2.1.below B11.out) hn).mono ?_
  rintro _ X12 ⟨v12, rfl, o12, bb⟩
  rw [Elr.out] at o12
  obtain ⟨a12, c12, hv12, s12, _⟩ := o12.form
  subst hv12
  have B12 : Hid (Below V.heap.size V X12) := below_over B11.out bb
  have S12 : Hid (SlAt X12 a12 (lr).length c12 (lr)) := s12
  clear bb o12 s12
  clear hHeld
  refine hK.out _ _ ⟨⟨_, B12.out⟩, rfl⟩ (fun hHeld => ?_)
  clear hK K
  try simp only [Act.put, List.setIfInBounds_toArray, List.set_cons_zero, List.set_cons_succ]
  refine wpAnyH_ready (rs := [33]) (by kernel_rfl) (by simp) ?_
  refine AllReadyH.cons (o := { dst := some 42, op := Op.call { callee := Callee.value (Operand.func 21), args := #[Operand.tmp 41], argTypes := #[34] }, type := 34, pos := "law.go:47", after := #[{ on := 32, ground := Ground.data }, { on := 31, ground := Ground.chain }, { on := 29, ground := Ground.guard }], guard := some (29, true) }) rfl (fun K hK => ?_) AllReadyH.nil
  go_simp
  refine (rrer_any h a n c ls _ (G.out.2.1.below B12.out) hn).mono ?_
  rintro _ X13 ⟨v13, rfl, o13, bb⟩
  rw [Elr.out] at o13
  obtain ⟨a13, c13, hv13, s13, _⟩ := o13.form
  subst hv13
  have B13 : Hid (Below V.heap.size V X13) := below_over B12.out bb
  have S12_13 : Hid (SlAt X13 a12 (lr).length c12 (lr)) := S12.out.below bb
  have S13 : Hid (SlAt X13 a13 (lr).length c13 (lr)) := s13
  clear bb o13 s13
  clear S12
  have S12 := S12_13
  clear S12_13
  clear hHeld
  refine hK.out _ _ ⟨⟨_, B13.out⟩, rfl⟩ (fun hHeld => ?_)
  clear hK K
  try simp only [Act.put, List.setIfInBounds_toArray, List.set_cons_zero, List.set_cons_succ]
  refine wpAnyH_ready (rs := [34]) (by kernel_rfl) (by simp) ?_
  refine AllReadyH.cons (o := { dst := some 43, op := Op.call { callee := Callee.value (Operand.func 9), args := #[Operand.tmp 40, Operand.tmp 42], argTypes := #[34, 34] }, type := 4, pos := "law.go:47", after := #[{ on := 31, ground := Ground.data }, { on := 33, ground := Ground.data }, { on := 33, ground := Ground.chain }, { on := 29, ground := Ground.guard }], guard := some (29, true) }) rfl (fun K hK => ?_) AllReadyH.nil
  go_simp
  refine (rsame_any h h a12 a13 _ _ c12 c13 (lr) (lr) _ S12.out S13.out hlr hlr).mono ?_
  rintro _ X14 ⟨rfl, bb⟩
  rw [sameT_self]
  have B14 : Hid (Below V.heap.size V X14) := below_over B13.out bb
  clear bb
  clear S12
  clear S13
  clear hHeld
  refine hK.out _ _ ⟨⟨_, B14.out⟩, rfl⟩ (fun hHeld => ?_)
  clear hK K
  try simp only [Act.put, List.setIfInBounds_toArray, List.set_cons_zero, List.set_cons_succ]
  refine wpAnyH_take (i := 35) (oi := { dst := some 44, op := Op.pick (Operand.tmp 38) (Operand.tmp 43) (Operand.const (Value.bool false)), type := 4, pos := "law.go:47", after := #[{ on := 29, ground := Ground.data }, { on := 34, ground := Ground.data }], guard := none }) (v := ?_) rfl (by kernel_rfl) (by kernel_rfl) (by kernel_rfl) (fun _ _ _ h => h) (Or.inl ⟨by rfl, ?_⟩) hHeld ?_
  rotate_left
  · intro W_ hSw_
    obtain ⟨qq, rfl⟩ := hSw_
    first | (go_simp; done) | (go_simp; with_reducible rfl)
  rotate_left
  try simp only [Act.put, List.setIfInBounds_toArray, List.set_cons_zero, List.set_cons_succ]
  refine wpAnyH_take (i := 36) (oi := { dst := some 45, op := Op.move (Operand.tmp 44), type := 4, pos := "law.go:47", after := #[{ on := 35, ground := Ground.data }, { on := 34, ground := Ground.chain }], guard := none }) (v := ?_) rfl (by kernel_rfl) (by kernel_rfl) (by kernel_rfl) (fun _ _ _ h => h) (Or.inl ⟨by rfl, ?_⟩) hHeld ?_
  rotate_left
  · intro W_ hSw_
    obtain ⟨qq, rfl⟩ := hSw_
    first | (go_simp; done) | (go_simp; with_reducible rfl)
  rotate_left
  try simp only [Act.put, List.setIfInBounds_toArray, List.set_cons_zero, List.set_cons_succ]
  refine wpAnyH_ready (rs := [37]) (by kernel_rfl) (by simp) ?_
  refine AllReadyH.cons (o := { dst := some 46, op := Op.call { callee := Callee.value (Operand.func 11), args := #[], argTypes := #[] }, type := 4, pos := "law.go:47", after := #[{ on := 36, ground := Ground.chain }, { on := 36, ground := Ground.guard }], guard := some (36, true) }) rfl (fun K hK => ?_) AllReadyH.nil
  go_simp
  refine (awake_any _).mono ?_
  rintro _ X15 ⟨rfl, bb⟩
  have B15 : Hid (Below V.heap.size V X15) := below_over B14.out bb
  clear bb
  clear hHeld
  refine hK.out _ _ ⟨⟨_, B15.out⟩, rfl⟩ (fun hHeld => ?_)
  clear hK K
  try simp only [Act.put, List.setIfInBounds_toArray, List.set_cons_zero, List.set_cons_succ]
  refine wpAnyH_take (i := 38) (oi := { dst := some 47, op := Op.pick (Operand.tmp 45) (Operand.tmp 46) (Operand.const (Value.bool false)), type := 4, pos := "law.go:47", after := #[{ on := 36, ground := Ground.data }, { on := 37, ground := Ground.data }], guard := none }) (v := ?_) rfl (by kernel_rfl) (by kernel_rfl) (by kernel_rfl) (fun _ _ _ h => h) (Or.inl ⟨by rfl, ?_⟩) hHeld ?_
  rotate_left
  · intro W_ hSw_
    obtain ⟨qq, rfl⟩ := hSw_
    first | (go_simp; done) | (go_simp; with_reducible rfl)
  rotate_left
  try simp only [Act.put, List.setIfInBounds_toArray, List.set_cons_zero, List.set_cons_succ]
  refine wpAnyH_ready (rs := [39]) (by kernel_rfl) (by simp) ?_
  refine AllReadyH.cons (o := { dst := some 6, op := Op.assign (Operand.tmp 47), type := 4, pos := "law.go:47", after := #[{ on := 38, ground := Ground.data }, { on := 37, ground := Ground.chain }, { on := 0, ground := Ground.phase }, { on := 1, ground := Ground.phase }, { on := 2, ground := Ground.phase }, { on := 3, ground := Ground.phase }, { on := 4, ground := Ground.phase }, { on := 5, ground := Ground.phase }, { on := 6, ground := Ground.phase }, { on := 7, ground := Ground.phase }, { on := 8, ground := Ground.phase }, { on := 9, ground := Ground.phase }, { on := 10, ground := Ground.phase }, { on := 11, ground := Ground.phase }, { on := 12, ground := Ground.phase }, { on := 13, ground := Ground.phase }, { on := 14, ground := Ground.phase }, { on := 15, ground := Ground.phase }, { on := 16, ground := Ground.phase }, { on := 17, ground := Ground.phase }, { on := 18, ground := Ground.phase }, { on := 19, ground := Ground.phase }, { on := 20, ground := Ground.phase }, { on := 21, ground := Ground.phase }, { on := 22, ground := Ground.phase }, { on := 23, ground := Ground.phase }, { on := 24, ground := Ground.phase }, { on := 25, ground := Ground.phase }, { on := 26, ground := Ground.phase }, { on := 27, ground := Ground.phase }, { on := 28, ground := Ground.phase }, { on := 29, ground := Ground.phase }, { on := 30, ground := Ground.phase }, { on := 31, ground := Ground.phase }, { on := 32, ground := Ground.phase }, { on := 33, ground := Ground.phase }, { on := 34, ground := Ground.phase }, { on := 35, ground := Ground.phase }, { on := 36, ground := Ground.phase }, { on := 37, ground := Ground.phase }, { on := 38, ground := Ground.phase }], guard := none }) rfl (fun K hK => ?_) AllReadyH.nil
  go_simp
  clear hHeld
  refine hK.out _ _ ⟨⟨_, B15.out⟩, rfl⟩ (fun hHeld => ?_)
  clear hK K
  try simp only [Act.put, List.setIfInBounds_toArray, List.set_cons_zero, List.set_cons_succ]
  refine wpAnyH_done (by kernel_rfl) ?_ _
  refine NoPanic.normal ?_
  clear hHeld
  go_wp2
  go_ret
  exact ⟨rfl, below_over G.out.2.2 B15.out⟩
end Go.Proofs.Ytnjepjkbmgkdkaa
