/-
  ChangeTells: its walk, for every tree and place.
-/
import Derived.Test.YtfjigbmhheekbaaAll
import Derived.Test.YtfjigbmhheekbaaSame
namespace Go.Proofs.Ytfjigbmhheekbaa
set_option linter.unusedVariables false
set_option maxRecDepth 4000
set_option linter.unusedSimpArgs false
open Go.RowKit

attribute [local go_sem ↓] ldT stT
set_option maxHeartbeats 8000000 in
theorem ChangeTells_walk (h : Hd) (a0 : Option Addr) (n0 c0 : Nat) (l0 : List Pt) (i : Int) (w : World) (hs : SlAt w a0 n0 c0 l0) (hi : -9223372036854775808 ≤ i ∧ i ≤ 9223372036854775807) :
    Calls Try.prog 4 #[.agg (trc h (.slice a0 n0 c0)), .int .i64 i] w fun r w' => r = .returned (.bool true) ∧ Below w.heap.size w w' := by
  obtain ⟨W, hW, r0, bW, zW⟩ := one_t w h (.slice a0 n0 c0)
  have t0 := r0.tld
  have H : Hid (SlAt W a0 n0 c0 l0 ∧ RvAt W w.heap.size 43 (trc h (.slice a0 n0 c0)) ∧ Below w.heap.size w W) := ⟨hs.below bW, r0, bW⟩
  clear hs r0 bW zW
  go_enter Try.func4, Try.ntmps4
  go_wp2_with fail
  refine (few_any h a0 n0 c0 l0 W H.out.1).mono ?_
  rintro _ W1 ⟨n, rfl, hn, s1, b1⟩
  obtain ⟨l, hl⟩ : ∃ l, l0.take 12 = l := ⟨_, rfl⟩
  rw [hl] at s1
  obtain ⟨V, sV, t⟩ := TQ.few (w := w) H.out.2.1 H.out.2.2 (Nat.le_refl _) b1 s1
  have G4 : Hid (TQ w V w.heap.size h a0 n c0 l) := t
  have hn1 : n ≤ 1000 := by omega
  have f0 := fun qq : Later V => (t.below qq.below).ld
  clear s1 b1 t t0 H hW hl hn hi
  obtain ⟨lp, hlp⟩ : ∃ z, prpI l i = z := ⟨_, rfl⟩
  obtain ⟨ln, hln⟩ : ∃ z, nwI h l i = z := ⟨_, rfl⟩
  have E : Hid (prpI l i = lp ∧ nwI h l i = ln) := ⟨hlp, hln⟩
  clear hlp hln
  go_wp2_with fail
  clear sV
  obtain ⟨X0, hX0⟩ : ∃ X0, World.drew V = X0 := ⟨_, rfl⟩
  have B0 : Hid (Below V.heap.size V X0) := by rw [← hX0]; exact (Below.refl _ _).drew
  refine wp_region_noPanic ?_
  refine wp_region_held_drew (S := fun w' => ∃ x : Later V, w' = x.val) (by kernel_rfl) ⟨⟨_, (Below.refl _ _).drew⟩, rfl⟩ (fun hHeld => ?_)
  rw [hX0] at hHeld ⊢
  clear hX0
  refine wpAnyH_take (i := 0) (oi := { dst := some 7, op := Op.load 43 (Operand.tmp 2), type := 43, pos := "law.go:29", after := #[], guard := none }) (v := ?_) rfl (by kernel_rfl) (by kernel_rfl) (by kernel_rfl) (fun _ _ _ h => h) (Or.inl ⟨by rfl, ?_⟩) hHeld ?_
  rotate_left
  · intro W_ hSw_
    obtain ⟨qq, rfl⟩ := hSw_
    first | (go_simp; done) | (go_simp; with_reducible rfl)
  rotate_left
  try simp only [Act.put, List.setIfInBounds_toArray, List.set_cons_zero, List.set_cons_succ]
  refine wpAnyH_take (i := 1) (oi := { dst := some 8, op := Op.move (Operand.tmp 1), type := 3, pos := "law.go:29", after := #[], guard := none }) (v := ?_) rfl (by kernel_rfl) (by kernel_rfl) (by kernel_rfl) (fun _ _ _ h => h) (Or.inl ⟨by rfl, ?_⟩) hHeld ?_
  rotate_left
  · intro W_ hSw_
    obtain ⟨qq, rfl⟩ := hSw_
    first | (go_simp; done) | (go_simp; with_reducible rfl)
  rotate_left
  try simp only [Act.put, List.setIfInBounds_toArray, List.set_cons_zero, List.set_cons_succ]
  refine wpAnyH_take (i := 3) (oi := { dst := some 10, op := Op.load 43 (Operand.tmp 2), type := 43, pos := "law.go:29", after := #[], guard := none }) (v := ?_) rfl (by kernel_rfl) (by kernel_rfl) (by kernel_rfl) (fun _ _ _ h => h) (Or.inl ⟨by rfl, ?_⟩) hHeld ?_
  rotate_left
  · intro W_ hSw_
    obtain ⟨qq, rfl⟩ := hSw_
    first | (go_simp; done) | (go_simp; with_reducible rfl)
  rotate_left
  try simp only [Act.put, List.setIfInBounds_toArray, List.set_cons_zero, List.set_cons_succ]
  refine wpAnyH_take (i := 4) (oi := { dst := some 11, op := Op.move (Operand.tmp 1), type := 3, pos := "law.go:29", after := #[], guard := none }) (v := ?_) rfl (by kernel_rfl) (by kernel_rfl) (by kernel_rfl) (fun _ _ _ h => h) (Or.inl ⟨by rfl, ?_⟩) hHeld ?_
  rotate_left
  · intro W_ hSw_
    obtain ⟨qq, rfl⟩ := hSw_
    first | (go_simp; done) | (go_simp; with_reducible rfl)
  rotate_left
  try simp only [Act.put, List.setIfInBounds_toArray, List.set_cons_zero, List.set_cons_succ]
  refine wpAnyH_ready (rs := [2]) (by kernel_rfl) (by simp) ?_
  refine AllReadyH.cons (o := { dst := some 9, op := Op.call { callee := Callee.value (Operand.func 14), args := #[Operand.tmp 7, Operand.tmp 8], argTypes := #[43, 3] }, type := 43, pos := "law.go:29", after := #[{ on := 0, ground := Ground.data }, { on := 1, ground := Ground.data }], guard := none }) rfl (fun K hK => ?_) AllReadyH.nil
  go_simp
  refine (prop_any h a0 n c0 l i X0 (G4.out.sl.below B0.out) hn1).mono ?_
  rintro _ X1 ⟨a1, c1, rfl, s1, bb⟩
  rw [E.out.1] at s1
  have B1 : Hid (Below V.heap.size V X1) := below_over B0.out bb
  have S1 : Hid (SlAt X1 a1 n c1 lp) := s1
  clear bb s1 hHeld
  refine hK.out _ _ ⟨⟨_, B1.out⟩, rfl⟩ (fun hHeld => ?_)
  clear hK K
  try simp only [Act.put, List.setIfInBounds_toArray, List.set_cons_zero, List.set_cons_succ]
  refine wpAnyH_ready (rs := [5]) (by kernel_rfl) (by simp) ?_
  refine AllReadyH.cons (o := { dst := some 12, op := Op.call { callee := Callee.value (Operand.func 15), args := #[Operand.tmp 10, Operand.tmp 11], argTypes := #[43, 3] }, type := 43, pos := "law.go:29", after := #[{ on := 3, ground := Ground.data }, { on := 4, ground := Ground.data }, { on := 2, ground := Ground.chain }], guard := none }) rfl (fun K hK => ?_) AllReadyH.nil
  go_simp
  refine (rprop_any h a0 n c0 l i X1 (G4.out.sl.below B1.out) hn1).mono ?_
  rintro _ X2 ⟨a2, c2, rfl, s2, bb⟩
  rw [E.out.1] at s2
  have B2 : Hid (Below V.heap.size V X2) := below_over B1.out bb
  have S2 : Hid (SlAt X2 a1 n c1 lp ∧ SlAt X2 a2 n c2 lp) := ⟨S1.out.below bb, s2⟩
  clear bb s2 S1 hHeld
  refine hK.out _ _ ⟨⟨_, B2.out⟩, rfl⟩ (fun hHeld => ?_)
  clear hK K
  try simp only [Act.put, List.setIfInBounds_toArray, List.set_cons_zero, List.set_cons_succ]
  refine wpAnyH_ready (rs := [6]) (by kernel_rfl) (by simp) ?_
  refine AllReadyH.cons (o := { dst := some 13, op := Op.call { callee := Callee.value (Operand.func 13), args := #[Operand.tmp 9, Operand.tmp 12], argTypes := #[43, 43] }, type := 4, pos := "law.go:29", after := #[{ on := 2, ground := Ground.data }, { on := 5, ground := Ground.data }, { on := 5, ground := Ground.chain }], guard := none }) rfl (fun K hK => ?_) AllReadyH.nil
  go_simp
  refine (rsame_any h h a1 a2 n n c1 c2 lp lp X2 S2.out.1 S2.out.2 hn1 hn1).mono ?_
  rintro _ X3 ⟨rfl, bb⟩
  rw [sameT_self]
  have B3 : Hid (Below V.heap.size V X3) := below_over B2.out bb
  clear bb S2 hHeld
  refine hK.out _ _ ⟨⟨_, B3.out⟩, rfl⟩ (fun hHeld => ?_)
  clear hK K
  try simp only [Act.put, List.setIfInBounds_toArray, List.set_cons_zero, List.set_cons_succ]
  refine wpAnyH_take (i := 7) (oi := { dst := some 14, op := Op.move (Operand.tmp 13), type := 4, pos := "law.go:29", after := #[{ on := 6, ground := Ground.data }, { on := 6, ground := Ground.chain }], guard := none }) (v := ?_) rfl (by kernel_rfl) (by kernel_rfl) (by kernel_rfl) (fun _ _ _ h => h) (Or.inl ⟨by rfl, ?_⟩) hHeld ?_
  rotate_left
  · intro W_ hSw_
    obtain ⟨qq, rfl⟩ := hSw_
    first | (go_simp; done) | (go_simp; with_reducible rfl)
  rotate_left
  try simp only [Act.put, List.setIfInBounds_toArray, List.set_cons_zero, List.set_cons_succ]
  refine wpAnyH_take (i := 8) (oi := { dst := some 15, op := Op.load 43 (Operand.tmp 2), type := 43, pos := "law.go:29", after := #[{ on := 7, ground := Ground.guard }], guard := some (7, true) }) (v := ?_) rfl (by kernel_rfl) (by kernel_rfl) (by kernel_rfl) (fun _ _ _ h => h) (Or.inl ⟨by rfl, ?_⟩) hHeld ?_
  rotate_left
  · intro W_ hSw_
    obtain ⟨qq, rfl⟩ := hSw_
    first | (go_simp; done) | (go_simp; with_reducible rfl)
  rotate_left
  try simp only [Act.put, List.setIfInBounds_toArray, List.set_cons_zero, List.set_cons_succ]
  refine wpAnyH_take (i := 9) (oi := { dst := some 16, op := Op.move (Operand.tmp 1), type := 3, pos := "law.go:29", after := #[{ on := 7, ground := Ground.guard }], guard := some (7, true) }) (v := ?_) rfl (by kernel_rfl) (by kernel_rfl) (by kernel_rfl) (fun _ _ _ h => h) (Or.inl ⟨by rfl, ?_⟩) hHeld ?_
  rotate_left
  · intro W_ hSw_
    obtain ⟨qq, rfl⟩ := hSw_
    first | (go_simp; done) | (go_simp; with_reducible rfl)
  rotate_left
  try simp only [Act.put, List.setIfInBounds_toArray, List.set_cons_zero, List.set_cons_succ]
  refine wpAnyH_take (i := 11) (oi := { dst := some 18, op := Op.load 43 (Operand.tmp 2), type := 43, pos := "law.go:29", after := #[{ on := 7, ground := Ground.guard }], guard := some (7, true) }) (v := ?_) rfl (by kernel_rfl) (by kernel_rfl) (by kernel_rfl) (fun _ _ _ h => h) (Or.inl ⟨by rfl, ?_⟩) hHeld ?_
  rotate_left
  · intro W_ hSw_
    obtain ⟨qq, rfl⟩ := hSw_
    first | (go_simp; done) | (go_simp; with_reducible rfl)
  rotate_left
  try simp only [Act.put, List.setIfInBounds_toArray, List.set_cons_zero, List.set_cons_succ]
  refine wpAnyH_take (i := 12) (oi := { dst := some 19, op := Op.move (Operand.tmp 1), type := 3, pos := "law.go:29", after := #[{ on := 7, ground := Ground.guard }], guard := some (7, true) }) (v := ?_) rfl (by kernel_rfl) (by kernel_rfl) (by kernel_rfl) (fun _ _ _ h => h) (Or.inl ⟨by rfl, ?_⟩) hHeld ?_
  rotate_left
  · intro W_ hSw_
    obtain ⟨qq, rfl⟩ := hSw_
    first | (go_simp; done) | (go_simp; with_reducible rfl)
  rotate_left
  try simp only [Act.put, List.setIfInBounds_toArray, List.set_cons_zero, List.set_cons_succ]
  refine wpAnyH_ready (rs := [10]) (by kernel_rfl) (by simp) ?_
  refine AllReadyH.cons (o := { dst := some 17, op := Op.call { callee := Callee.value (Operand.func 16), args := #[Operand.tmp 15, Operand.tmp 16], argTypes := #[43, 3] }, type := 43, pos := "law.go:29", after := #[{ on := 8, ground := Ground.data }, { on := 9, ground := Ground.data }, { on := 7, ground := Ground.chain }, { on := 7, ground := Ground.guard }], guard := some (7, true) }) rfl (fun K hK => ?_) AllReadyH.nil
  go_simp
  refine (new_any h a0 n c0 l i X3 (G4.out.sl.below B3.out) hn1).mono ?_
  rintro _ X4 ⟨a4, c4, rfl, s4, bb⟩
  rw [E.out.2] at s4
  have B4 : Hid (Below V.heap.size V X4) := below_over B3.out bb
  have S4 : Hid (SlAt X4 a4 n c4 ln) := s4
  clear bb s4 hHeld
  refine hK.out _ _ ⟨⟨_, B4.out⟩, rfl⟩ (fun hHeld => ?_)
  clear hK K
  try simp only [Act.put, List.setIfInBounds_toArray, List.set_cons_zero, List.set_cons_succ]
  refine wpAnyH_ready (rs := [13]) (by kernel_rfl) (by simp) ?_
  refine AllReadyH.cons (o := { dst := some 20, op := Op.call { callee := Callee.value (Operand.func 17), args := #[Operand.tmp 18, Operand.tmp 19], argTypes := #[43, 3] }, type := 43, pos := "law.go:29", after := #[{ on := 11, ground := Ground.data }, { on := 12, ground := Ground.data }, { on := 10, ground := Ground.chain }, { on := 7, ground := Ground.guard }], guard := some (7, true) }) rfl (fun K hK => ?_) AllReadyH.nil
  go_simp
  refine (rnew_any h a0 n c0 l i X4 (G4.out.sl.below B4.out) hn1).mono ?_
  rintro _ X5 ⟨a5, c5, rfl, s5, bb⟩
  rw [E.out.2] at s5
  have B5 : Hid (Below V.heap.size V X5) := below_over B4.out bb
  have S5 : Hid (SlAt X5 a4 n c4 ln ∧ SlAt X5 a5 n c5 ln) := ⟨S4.out.below bb, s5⟩
  clear bb s5 S4 hHeld
  refine hK.out _ _ ⟨⟨_, B5.out⟩, rfl⟩ (fun hHeld => ?_)
  clear hK K
  try simp only [Act.put, List.setIfInBounds_toArray, List.set_cons_zero, List.set_cons_succ]
  refine wpAnyH_ready (rs := [14]) (by kernel_rfl) (by simp) ?_
  refine AllReadyH.cons (o := { dst := some 21, op := Op.call { callee := Callee.value (Operand.func 13), args := #[Operand.tmp 17, Operand.tmp 20], argTypes := #[43, 43] }, type := 4, pos := "law.go:29", after := #[{ on := 10, ground := Ground.data }, { on := 13, ground := Ground.data }, { on := 13, ground := Ground.chain }, { on := 7, ground := Ground.guard }], guard := some (7, true) }) rfl (fun K hK => ?_) AllReadyH.nil
  go_simp
  refine (rsame_any h h a4 a5 n n c4 c5 ln ln X5 S5.out.1 S5.out.2 hn1 hn1).mono ?_
  rintro _ X6 ⟨rfl, bb⟩
  rw [sameT_self]
  have B6 : Hid (Below V.heap.size V X6) := below_over B5.out bb
  clear bb S5 hHeld
  refine hK.out _ _ ⟨⟨_, B6.out⟩, rfl⟩ (fun hHeld => ?_)
  clear hK K
  try simp only [Act.put, List.setIfInBounds_toArray, List.set_cons_zero, List.set_cons_succ]
  refine wpAnyH_take (i := 15) (oi := { dst := some 22, op := Op.pick (Operand.tmp 14) (Operand.tmp 21) (Operand.const (Value.bool false)), type := 4, pos := "law.go:29", after := #[{ on := 7, ground := Ground.data }, { on := 14, ground := Ground.data }], guard := none }) (v := ?_) rfl (by kernel_rfl) (by kernel_rfl) (by kernel_rfl) (fun _ _ _ h => h) (Or.inl ⟨by rfl, ?_⟩) hHeld ?_
  rotate_left
  · intro W_ hSw_
    obtain ⟨qq, rfl⟩ := hSw_
    first | (go_simp; done) | (go_simp; with_reducible rfl)
  rotate_left
  try simp only [Act.put, List.setIfInBounds_toArray, List.set_cons_zero, List.set_cons_succ]
  refine wpAnyH_take (i := 16) (oi := { dst := some 23, op := Op.move (Operand.tmp 22), type := 4, pos := "law.go:29", after := #[{ on := 15, ground := Ground.data }, { on := 14, ground := Ground.chain }], guard := none }) (v := ?_) rfl (by kernel_rfl) (by kernel_rfl) (by kernel_rfl) (fun _ _ _ h => h) (Or.inl ⟨by rfl, ?_⟩) hHeld ?_
  rotate_left
  · intro W_ hSw_
    obtain ⟨qq, rfl⟩ := hSw_
    first | (go_simp; done) | (go_simp; with_reducible rfl)
  rotate_left
  try simp only [Act.put, List.setIfInBounds_toArray, List.set_cons_zero, List.set_cons_succ]
  refine wpAnyH_ready (rs := [17]) (by kernel_rfl) (by simp) ?_
  refine AllReadyH.cons (o := { dst := some 24, op := Op.call { callee := Callee.value (Operand.func 11), args := #[], argTypes := #[] }, type := 4, pos := "law.go:29", after := #[{ on := 16, ground := Ground.chain }, { on := 16, ground := Ground.guard }], guard := some (16, true) }) rfl (fun K hK => ?_) AllReadyH.nil
  go_simp
  refine (awake_any X6).mono ?_
  rintro _ X7 ⟨rfl, bb⟩
  have B7 : Hid (Below V.heap.size V X7) := below_over B6.out bb
  clear bb hHeld
  refine hK.out _ _ ⟨⟨_, B7.out⟩, rfl⟩ (fun hHeld => ?_)
  clear hK K
  try simp only [Act.put, List.setIfInBounds_toArray, List.set_cons_zero, List.set_cons_succ]
  refine wpAnyH_take (i := 18) (oi := { dst := some 25, op := Op.pick (Operand.tmp 23) (Operand.tmp 24) (Operand.const (Value.bool false)), type := 4, pos := "law.go:29", after := #[{ on := 16, ground := Ground.data }, { on := 17, ground := Ground.data }], guard := none }) (v := ?_) rfl (by kernel_rfl) (by kernel_rfl) (by kernel_rfl) (fun _ _ _ h => h) (Or.inl ⟨by rfl, ?_⟩) hHeld ?_
  rotate_left
  · intro W_ hSw_
    obtain ⟨qq, rfl⟩ := hSw_
    first | (go_simp; done) | (go_simp; with_reducible rfl)
  rotate_left
  try simp only [Act.put, List.setIfInBounds_toArray, List.set_cons_zero, List.set_cons_succ]
  refine wpAnyH_ready (rs := [19]) (by kernel_rfl) (by simp) ?_
  refine AllReadyH.cons (o := { dst := some 4, op := Op.assign (Operand.tmp 25), type := 4, pos := "law.go:29", after := #[{ on := 18, ground := Ground.data }, { on := 17, ground := Ground.chain }, { on := 0, ground := Ground.phase }, { on := 1, ground := Ground.phase }, { on := 2, ground := Ground.phase }, { on := 3, ground := Ground.phase }, { on := 4, ground := Ground.phase }, { on := 5, ground := Ground.phase }, { on := 6, ground := Ground.phase }, { on := 7, ground := Ground.phase }, { on := 8, ground := Ground.phase }, { on := 9, ground := Ground.phase }, { on := 10, ground := Ground.phase }, { on := 11, ground := Ground.phase }, { on := 12, ground := Ground.phase }, { on := 13, ground := Ground.phase }, { on := 14, ground := Ground.phase }, { on := 15, ground := Ground.phase }, { on := 16, ground := Ground.phase }, { on := 17, ground := Ground.phase }, { on := 18, ground := Ground.phase }], guard := none }) rfl (fun K hK => ?_) AllReadyH.nil
  go_simp
  clear hHeld
  refine hK.out _ _ ⟨⟨_, B7.out⟩, rfl⟩ (fun hHeld => ?_)
  clear hK K
  try simp only [Act.put, List.setIfInBounds_toArray, List.set_cons_zero, List.set_cons_succ]
  refine wpAnyH_done (by kernel_rfl) ?_ _
  refine NoPanic.normal ?_
  clear hHeld
  go_wp2
  go_ret
  exact ⟨rfl, below_over G4.out.bel B7.out⟩
end Go.Proofs.Ytfjigbmhheekbaa
