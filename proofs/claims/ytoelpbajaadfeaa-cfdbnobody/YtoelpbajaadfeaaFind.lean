/-
  The walks of Find and New, for every input.
-/
import Derived.Test.YtoelpbajaadfeaaLearn
namespace Go.Proofs.Ytoelpbajaadfeaa
set_option linter.unusedVariables false
set_option maxRecDepth 4000
set_option linter.unusedSimpArgs false
open Go.RowKit

attribute [local go_sem ↓] ldK stK ldM stM ldP stP
theorem place_new (W : World) (a : Ad) (t : Int) : ∃ W', (stS 76 (.pointer (some ⟨W.heap.size, 0, none⟩)) (.agg #[.int .u8 a.a, .int .u8 a.b, .int .u8 a.c, .int .u8 a.d, .int .u8 a.e, .int .u8 a.f, .int .i64 t])).run Try.prog (W.alloc (.cells #[.int .u8 0, .int .u8 0, .int .u8 0, .int .u8 0, .int .u8 0, .int .u8 0, .int .i64 0] 76)) = .ok () W' ∧ RvAt W' W.heap.size 76 (En.pc ⟨zeroK, a, t⟩) ∧ Below W.heap.size W W' ∧ W'.heap.size = W.heap.size + 1 :=
  row_new rtP W #[.int .u8 0, .int .u8 0, .int .u8 0, .int .u8 0, .int .u8 0, .int .u8 0, .int .i64 0] #[.int .u8 a.a, .int .u8 a.b, .int .u8 a.c, .int .u8 a.d, .int .u8 a.e, .int .u8 a.f, .int .i64 t] rfl rfl (En.pone ⟨zeroK, a, t⟩)
set_option maxHeartbeats 2000000 in
theorem find_any (p b : Nat) (c : Cf) (l : List En) (k : Ky) (w : World) (h : Db w p b c l) (hk : k.wf) :
    Calls Try.prog 16 #[.pointer (some ⟨p, 0, none⟩), .int .i64 k.vid, .agg k.mc] w fun r w' => r = .returned (.tuple #[.agg (plA l k.rk).cs, .bool (look l k.rk).isSome]) ∧ Below w.heap.size w w' := by
  obtain ⟨W, hW, rm1, rm2, bW, zW⟩ := two_macs w k Ad.zero
  have hD := h.below bW
  have f3 := fun q : Later W => (hD.below q.below).c3
  have f1 : ∀ q : Later W, (ldS 38 (.pointer (some ⟨w.heap.size, 0, none⟩))).run Try.prog q.val = .ok (.agg #[.int .u8 k.a, .int .u8 k.b, .int .u8 k.c, .int .u8 k.d, .int .u8 k.e, .int .u8 k.f]) q.val := fun q => (rm1.below q.below).ld rtM (Ky.msize k)
  have fl := fun q : Later W => (hD.below q.below).map.look2 hk
  simp only [plOf_out] at fl
  change ∀ q : Later W, (Instr.lookup 58 (.map (some b)) (.agg #[.int .i64 k.vid, .int .u8 k.a, .int .u8 k.b, .int .u8 k.c, .int .u8 k.d, .int .u8 k.e, .int .u8 k.f]) true).run Try.prog q.val = _ at fl
  obtain ⟨X0, hX0⟩ : ∃ X, W.drew = X := ⟨_, rfl⟩
  obtain ⟨W1, st1, rv1, b1, z1⟩ := place_new X0 (plA l k.rk) (plS l k.rk)
  have bX : Below W.heap.size W X0 := by rw [← hX0]; exact (Below.refl _ _).drew
  have c0 := rv1.pmac
  obtain ⟨W2, st2, rv2, g2, z2⟩ := (rm2.below (below_over bX b1)).put rtM (Ad.size _) (Ad.size (plA l k.rk)) (Ad.one _)
  have B1 : Hid (Below W.heap.size W X0 ∧ Below W.heap.size W W1 ∧ Below w.heap.size w W ∧ RvAt W2 (w.heap.size + 1) 38 (plA l k.rk).cs ∧ W1.grownBy W2 (some (w.heap.size + 1))) := ⟨bX, below_over bX b1, bW, rv2, g2⟩
  have c3 := hD.c3
  change (w.alloc (.cells k.mc 38)).alloc (.cells #[.int .u8 0, .int .u8 0, .int .u8 0, .int .u8 0, .int .u8 0, .int .u8 0] 38) = W at hW
  clear h hk hD bW b1 z1 rv1 bX zW rm1 rm2 rv2 g2 z2
  go_enter Try.func16, Try.ntmps16
  go_wp2_with fail
  refine (made_any p _ _ c3).mono ?_
  rintro _ Y ⟨rfl, hY⟩
  rw [hY]
  clear hY Y c3
  simp only [Option.isSome_some]
  go_wp2_with fail
  refine wp_region_noPanic ?_
  refine wp_region_held_drew (S := fun w' => ∃ x : Later W, w' = x.val) (by kernel_rfl) ⟨⟨_, (Below.refl _ _).drew⟩, rfl⟩ (fun hHeld => ?_)
  rw [hX0] at hHeld ⊢
  refine wpAnyH_take (i := 0) (oi := { dst := some 15, op := Op.move (Operand.tmp 0), type := 23, pos := "cfdb.go:105", after := #[], guard := none }) (v := ?_) rfl (by kernel_rfl) (by kernel_rfl) (by kernel_rfl) (fun _ _ _ h => h) (Or.inl ⟨by rfl, ?_⟩) hHeld ?_
  rotate_left
  · intro W_ hSw_
    obtain ⟨q, rfl⟩ := hSw_
    first | (go_simp; done) | (go_simp; with_reducible rfl)
  rotate_left
  try simp only [Act.put, List.setIfInBounds_toArray, List.set_cons_zero, List.set_cons_succ]
  refine wpAnyH_take (i := 1) (oi := { dst := some 16, op := Op.nilCheck (Operand.tmp 15), type := 0, pos := "cfdb.go:105", after := #[{ on := 0, ground := Ground.data }], guard := none }) (v := ?_) rfl (by kernel_rfl) (by kernel_rfl) (by kernel_rfl) (fun _ _ _ h => h) (Or.inl ⟨by rfl, ?_⟩) hHeld ?_
  rotate_left
  · intro W_ hSw_
    obtain ⟨q, rfl⟩ := hSw_
    first | (go_simp; done) | (go_simp; with_reducible rfl)
  rotate_left
  try simp only [Act.put, List.setIfInBounds_toArray, List.set_cons_zero, List.set_cons_succ]
  refine wpAnyH_take (i := 2) (oi := { dst := some 17, op := Op.fieldAddr 60 (Operand.tmp 16) 2, type := 0, pos := "cfdb.go:105", after := #[{ on := 1, ground := Ground.data }], guard := none }) (v := ?_) rfl (by kernel_rfl) (by kernel_rfl) (by kernel_rfl) (fun _ _ _ h => h) (Or.inl ⟨by rfl, ?_⟩) hHeld ?_
  rotate_left
  · intro W_ hSw_
    obtain ⟨q, rfl⟩ := hSw_
    first | (go_simp; done) | (go_simp; with_reducible rfl)
  rotate_left
  try simp only [Act.put, List.setIfInBounds_toArray, List.set_cons_zero, List.set_cons_succ]
  refine wpAnyH_take (i := 3) (oi := { dst := some 18, op := Op.load 58 (Operand.tmp 17), type := 58, pos := "cfdb.go:105", after := #[{ on := 2, ground := Ground.data }], guard := none }) (v := ?_) rfl (by kernel_rfl) (by kernel_rfl) (by kernel_rfl) (fun _ _ _ h => h) (Or.inl ⟨by rfl, ?_⟩) hHeld ?_
  rotate_left
  · intro W_ hSw_
    obtain ⟨q, rfl⟩ := hSw_
    first | (go_simp; done) | (go_simp; with_reducible rfl)
  rotate_left
  try simp only [Act.put, List.setIfInBounds_toArray, List.set_cons_zero, List.set_cons_succ]
  refine wpAnyH_take (i := 4) (oi := { dst := some 19, op := Op.move (Operand.tmp 1), type := 3, pos := "cfdb.go:105", after := #[], guard := none }) (v := ?_) rfl (by kernel_rfl) (by kernel_rfl) (by kernel_rfl) (fun _ _ _ h => h) (Or.inl ⟨by rfl, ?_⟩) hHeld ?_
  rotate_left
  · intro W_ hSw_
    obtain ⟨q, rfl⟩ := hSw_
    first | (go_simp; done) | (go_simp; with_reducible rfl)
  rotate_left
  try simp only [Act.put, List.setIfInBounds_toArray, List.set_cons_zero, List.set_cons_succ]
  refine wpAnyH_take (i := 5) (oi := { dst := some 20, op := Op.load 38 (Operand.tmp 5), type := 38, pos := "cfdb.go:105", after := #[], guard := none }) (v := ?_) rfl (by kernel_rfl) (by kernel_rfl) (by kernel_rfl) (fun _ _ _ h => h) (Or.inl ⟨by rfl, ?_⟩) hHeld ?_
  rotate_left
  · intro W_ hSw_
    obtain ⟨q, rfl⟩ := hSw_
    first | (go_simp; done) | (go_simp; with_reducible rfl)
  rotate_left
  try simp only [Act.put, List.setIfInBounds_toArray, List.set_cons_zero, List.set_cons_succ]
  refine wpAnyH_take (i := 6) (oi := { dst := some 21, op := Op.build 74 #[(0, Operand.tmp 19), (1, Operand.tmp 20)], type := 74, pos := "cfdb.go:105", after := #[{ on := 4, ground := Ground.data }, { on := 5, ground := Ground.data }], guard := none }) (v := ?_) rfl (by kernel_rfl) (by kernel_rfl) (by kernel_rfl) (fun _ _ _ h => h) (Or.inl ⟨by rfl, ?_⟩) hHeld ?_
  rotate_left
  · intro W_ hSw_
    obtain ⟨q, rfl⟩ := hSw_
    first | (go_simp; done) | (go_simp; with_reducible rfl)
  rotate_left
  try simp only [Act.put, List.setIfInBounds_toArray, List.set_cons_zero, List.set_cons_succ]
  refine wpAnyH_take (i := 7) (oi := { dst := some 22, op := Op.lookup 58 (Operand.tmp 18) (Operand.tmp 21) true, type := 78, pos := "cfdb.go:105", after := #[{ on := 3, ground := Ground.data }, { on := 6, ground := Ground.data }], guard := none }) (v := ?_) rfl (by kernel_rfl) (by kernel_rfl) (by kernel_rfl) (fun _ _ _ h => h) (Or.inl ⟨by rfl, ?_⟩) hHeld ?_
  rotate_left
  · intro W_ hSw_
    obtain ⟨q, rfl⟩ := hSw_
    first | (go_simp; done) | (go_simp; with_reducible rfl)
  rotate_left
  try simp only [Act.put, List.setIfInBounds_toArray, List.set_cons_zero, List.set_cons_succ]
  refine wpAnyH_take (i := 8) (oi := { dst := some 14, op := Op.move (Operand.tmp 22), type := 78, pos := "cfdb.go:105", after := #[{ on := 7, ground := Ground.data }], guard := none }) (v := ?_) rfl (by kernel_rfl) (by kernel_rfl) (by kernel_rfl) (fun _ _ _ h => h) (Or.inl ⟨by rfl, ?_⟩) hHeld ?_
  rotate_left
  · intro W_ hSw_
    obtain ⟨q, rfl⟩ := hSw_
    first | (go_simp; done) | (go_simp; with_reducible rfl)
  rotate_left
  try simp only [Act.put, List.setIfInBounds_toArray, List.set_cons_zero, List.set_cons_succ]
  refine wpAnyH_take (i := 9) (oi := { dst := some 23, op := Op.extract (Operand.tmp 14) 0, type := 76, pos := "cfdb.go:105", after := #[{ on := 8, ground := Ground.data }], guard := none }) (v := ?_) rfl (by kernel_rfl) (by kernel_rfl) (by kernel_rfl) (fun _ _ _ h => h) (Or.inl ⟨by rfl, ?_⟩) hHeld ?_
  rotate_left
  · intro W_ hSw_
    obtain ⟨q, rfl⟩ := hSw_
    first | (go_simp; done) | (go_simp; with_reducible rfl)
  rotate_left
  try simp only [Act.put, List.setIfInBounds_toArray, List.set_cons_zero, List.set_cons_succ]
  refine wpAnyH_take (i := 10) (oi := { dst := some 24, op := Op.extract (Operand.tmp 14) 1, type := 4, pos := "cfdb.go:105", after := #[{ on := 8, ground := Ground.data }, { on := 12, ground := Ground.gcOnly Departure.lateStores }], guard := none }) (v := ?_) rfl (by kernel_rfl) (by kernel_rfl) (by kernel_rfl) (fun _ _ _ h => h) (Or.inl ⟨by rfl, ?_⟩) hHeld ?_
  rotate_left
  · intro W_ hSw_
    obtain ⟨q, rfl⟩ := hSw_
    first | (go_simp; done) | (go_simp; with_reducible rfl)
  rotate_left
  try simp only [Act.put, List.setIfInBounds_toArray, List.set_cons_zero, List.set_cons_succ]
  refine wpAnyH_ready (rs := [11]) (by kernel_rfl) (by simp) ?_
  refine AllReadyH.cons (o := { dst := some 8, op := Op.alloc 76, type := 0, pos := "cfdb.go:105", after := #[], guard := none }) rfl (fun K hK => ?_) AllReadyH.nil
  go_simp
  clear hHeld
  refine hK.out _ _ ⟨⟨_, B1.out.1.alloc B1.out.1.size _⟩, rfl⟩ (fun hHeld => ?_)
  clear hK K
  try simp only [Act.put, List.setIfInBounds_toArray, List.set_cons_zero, List.set_cons_succ]
  refine wpAnyH_ready (rs := [12]) (by kernel_rfl) (by simp) ?_
  refine AllReadyH.cons (o := { dst := none, op := Op.store 76 (Operand.tmp 8) (Operand.tmp 23), type := 0, pos := "cfdb.go:105", after := #[{ on := 11, ground := Ground.data }, { on := 9, ground := Ground.data }, { on := 0, ground := Ground.phase }, { on := 1, ground := Ground.phase }, { on := 2, ground := Ground.phase }, { on := 3, ground := Ground.phase }, { on := 4, ground := Ground.phase }, { on := 5, ground := Ground.phase }, { on := 6, ground := Ground.phase }, { on := 7, ground := Ground.phase }, { on := 8, ground := Ground.phase }, { on := 9, ground := Ground.phase }, { on := 10, ground := Ground.textOnly Departure.lateStores }, { on := 11, ground := Ground.phase }], guard := none }) rfl (fun K hK => ?_) AllReadyH.nil
  go_simp
  clear hHeld
  refine hK.out _ _ ⟨⟨_, B1.out.2.1⟩, rfl⟩ (fun hHeld => ?_)
  clear hK K
  try simp only [Act.put, List.setIfInBounds_toArray, List.set_cons_zero, List.set_cons_succ]
  refine wpAnyH_ready (rs := [13]) (by kernel_rfl) (by simp) ?_
  refine AllReadyH.cons (o := { dst := some 9, op := Op.assign (Operand.tmp 24), type := 4, pos := "cfdb.go:105", after := #[{ on := 10, ground := Ground.data }, { on := 12, ground := Ground.chain }, { on := 0, ground := Ground.phase }, { on := 1, ground := Ground.phase }, { on := 2, ground := Ground.phase }, { on := 3, ground := Ground.phase }, { on := 4, ground := Ground.phase }, { on := 5, ground := Ground.phase }, { on := 6, ground := Ground.phase }, { on := 7, ground := Ground.phase }, { on := 8, ground := Ground.phase }, { on := 9, ground := Ground.phase }, { on := 10, ground := Ground.phase }, { on := 11, ground := Ground.phase }, { on := 12, ground := Ground.phase }], guard := none }) rfl (fun K hK => ?_) AllReadyH.nil
  go_simp
  clear hHeld
  refine hK.out _ _ ⟨⟨_, B1.out.2.1⟩, rfl⟩ (fun hHeld => ?_)
  clear hK K
  try simp only [Act.put, List.setIfInBounds_toArray, List.set_cons_zero, List.set_cons_succ]
  refine wpAnyH_done (by kernel_rfl) ?_ _
  refine NoPanic.normal ?_
  clear hHeld
  clear st1 f3 f1 fl hX0 hW
  go_wp2
  refine bodyPost_ret (results_rowtmp rtM Try.results16 _ _ _ _ rfl B1.out.2.2.2.1 (Ad.size _)) rfl ?_
  have b2 := below_over B1.out.2.2.1 B1.out.2.1
  exact ⟨rfl, b2.trans (below_of_grown B1.out.2.2.2.2 b2.size (fun j e => by cases e; omega))⟩
/-- May a database be made so? -/
def okC (c : Cf) : Bool := inn c.room 1 256 && inn c.age 1 1048576
theorem okC_wf {c : Cf} (h : okC c = true) : c.wf := by
  simp only [okC, inn, Bool.and_eq_true, decide_eq_true_eq] at h
  exact ⟨h.1, h.2⟩
set_option maxHeartbeats 2000000 in
theorem new_no (c : Cf) (w : World) (h : okC c = false) :
    Calls Try.prog 8 #[.int .i64 c.room, .int .i64 c.age] w fun r w' => r = .returned (.tuple #[.pointer none, .int .i64 80]) ∧ w' = w := by
  have W1 := fun n a b w => within_any n a b w
  go_enter Try.func8, Try.ntmps8
  go_wp2_with fail
  refine (W1 _ _ _ _).mono ?_
  rintro _ Y ⟨rfl, hY⟩
  rw [hY]
  clear hY Y
  cases h2 : inn c.room 1 256
  · go_wp2
    go_ret2
    exact ⟨rfl, rfl⟩
  · go_wp2_with fail
    refine (W1 _ _ _ _).mono ?_
    rintro _ Y ⟨rfl, hY⟩
    rw [hY]
    clear hY Y
    have h3 : inn c.age 1 1048576 = false := by simpa [okC, h2] using h
    rw [h3]
    go_wp2
    go_ret2
    exact ⟨rfl, rfl⟩
set_option maxHeartbeats 2000000 in
theorem new_yes (c : Cf) (w : World) (h : okC c = true) :
    Calls Try.prog 8 #[.int .i64 c.room, .int .i64 c.age] w fun r w' => ∃ p b, r = .returned (.tuple #[.pointer (some ⟨p, 0, none⟩), .int .i64 0]) ∧ Db w' p b c [] ∧ w.heap.size ≤ p ∧ w.heap.size ≤ b ∧ Below w.heap.size w w' := by
  have W1 := fun n a b w => within_any n a b w
  obtain ⟨h2, h3⟩ : inn c.room 1 256 = true ∧ inn c.age 1 1048576 = true := by simpa [okC] using h
  have hw := okC_wf h
  have hmm := @run_makeMap Try.prog
  go_enter Try.func8, Try.ntmps8
  go_wp2_with fail
  refine (W1 _ _ _ _).mono ?_
  rintro _ Y ⟨rfl, hY⟩
  rw [hY, h2]
  clear hY Y
  go_wp2_with fail
  refine (W1 _ _ _ _).mono ?_
  rintro _ Y ⟨rfl, hY⟩
  rw [hY, h3]
  clear hY Y
  go_wp2
  go_ret2
  refine ⟨w.heap.size + 1, w.heap.size, rfl, ⟨?_, ?_, by omega, hw, ?_⟩, by omega, Nat.le_refl _, by go_grown⟩
  · have := RvAt.new (w.alloc (.map #[] 0)) 60 (c.cs w.heap.size)
    rw [show (w.alloc (.map #[] 0)).heap.size = w.heap.size + 1 by simp] at this
    exact this
  · exact (MapIs.made w).below ((Below.refl _ _).alloc (Nat.le_refl _) _)
  · have := hw.room
    simp
    omega
set_option maxHeartbeats 2000000 in
theorem len_any (p b : Nat) (c : Cf) (l : List En) (w : World) (h : Db w p b c l) :
    Calls Try.prog 15 #[.pointer (some ⟨p, 0, none⟩)] w fun r w' => r = .returned (.int .i64 l.length) ∧ w' = w := by
  have c3 := h.c3
  have hl := h.map.len
  go_enter Try.func15, Try.ntmps15
  go_wp2_with fail
  refine (made_any p _ _ c3).mono ?_
  rintro _ Y ⟨rfl, hY⟩
  rw [hY]
  clear hY Y
  simp only [Option.isSome_some]
  go_wp2
  go_ret
  exact ⟨rfl, rfl⟩
end Go.Proofs.Ytoelpbajaadfeaa
