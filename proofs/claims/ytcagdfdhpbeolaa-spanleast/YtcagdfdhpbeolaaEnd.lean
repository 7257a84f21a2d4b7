/-
  A port's role and vector: the walks of end and carries, for every graph that may be.
-/
import Derived.Test.YtcagdfdhpbeolaaStl
import Derived.Deep.CutRange
namespace Go.Proofs.Ytcagdfdhpbeolaa
set_option linter.unusedVariables false
set_option maxRecDepth 4000
set_option linter.unusedSimpArgs false
open Go.RowKit

theorem bdX (ps : Array (Nat × Value)) : Instr.build 58 ps = bdS 58 ps := rfl
theorem bdX_is (x : En) (w : World) : (bdS 58 #[(0, .int .i64 x.b), (1, .int .i64 x.p), (2, .int .i64 x.o), (3, .agg x.v.cs)]).run Try.prog w = .ok (.agg x.cs) w := by kernel_rfl
theorem XvAt.put (W : World) (x : En) : ∃ V, (stS 58 (.pointer (some ⟨W.heap.size, 0, none⟩)) (.agg x.cs)).run Try.prog (W.alloc (.cells #[.int .i64 0, .int .i64 0, .int .i64 0, .int .u64 0, .int .u32 0, .int .u64 0, .int .u16 0] 58)) = .ok () V ∧ RvAt V W.heap.size 58 x.cs ∧ Below W.heap.size W V := by
  obtain ⟨V, h1, h2, h3, _⟩ := row_new rtX W #[.int .i64 0, .int .i64 0, .int .i64 0, .int .u64 0, .int .u32 0, .int .u64 0, .int .u16 0] x.cs rfl rfl (one_of rfl)
  exact ⟨V, h1, h2, h3⟩
theorem XvAt.setO {W : World} {b : Nat} {t : TypeId} {x : En} (h : RvAt W b t x.cs) (o : Int) : ∃ V, (stS 52 (.pointer (some ⟨b, 2, none⟩)) (.int .i64 o)).run Try.prog W = .ok () V ∧ RvAt V b t (En.mk x.b x.p o x.v).cs ∧ W.grownBy V (some b) :=
  ⟨_, h.st1 infoR (by show 2 < 7; decide) rfl, h.set, grown_row _ _ _⟩
theorem XvAt.putV {W : World} {b : Nat} {t : TypeId} {x : En} (h : RvAt W b t x.cs) (v : V4) : ∃ V, (stS 56 (.pointer (some ⟨b, 3, none⟩)) (.agg v.cs)).run Try.prog W = .ok () V ∧ RvAt V b t (En.mk x.b x.p x.o v).cs ∧ W.grownBy V (some b) :=
  ⟨_, store_cells (ty := 56) (o := 3) (cs := v.cs) h infoV (by show 3 + 4 ≤ 7; decide) (V4.one _), h.set, grown_row _ _ _⟩
theorem XvAt.o {W : World} {b : Nat} {t : TypeId} {x : En} (h : RvAt W b t x.cs) : W.cell? ⟨b, 2, none⟩ = some (.int .i64 x.o) := h.cell 2 _ rfl
theorem end_new (w : World) (cs ds : Array Value) : ∃ W, ((w.alloc (.cells cs 68)).alloc (.cells ds 50)).alloc (.cells #[.int .i64 0, .int .i64 0, .int .i64 0, .int .u64 0, .int .u32 0, .int .u64 0, .int .u16 0] 58) = W ∧ RvAt W w.heap.size 68 cs ∧ RvAt W (w.heap.size + 1) 50 ds ∧ RvAt W (w.heap.size + 2) 58 #[.int .i64 0, .int .i64 0, .int .i64 0, .int .u64 0, .int .u32 0, .int .u64 0, .int .u16 0] ∧ Below w.heap.size w W ∧ W.heap.size = w.heap.size + 3 := by
  refine ⟨_, rfl, ?_, ?_, ?_, ?_, by simp⟩
  · exact RvAt.below (RvAt.below (RvAt.new w _ _) ((Below.refl _ _).alloc (Nat.le_refl _) _)) ((Below.refl _ _).alloc (Nat.le_refl _) _)
  · have := RvAt.new (w.alloc (.cells cs 68)) 50 ds
    simp at this
    exact RvAt.below this ((Below.refl _ _).alloc (Nat.le_refl _) _)
  · have := RvAt.new ((w.alloc (.cells cs 68)).alloc (.cells ds 50)) 58 #[.int .i64 0, .int .i64 0, .int .i64 0, .int .u64 0, .int .u32 0, .int .u64 0, .int .u16 0]
    simpa using this
  · exact (((Below.refl _ _).alloc (Nat.le_refl _) _).alloc (by simp) _).alloc (by simp; omega) _
theorem bet_told {ids : List Nat} {L : List Ne} (g : Gok ids L) {s : Ne} (hs : s ∈ sdl L) (w : World) : Calls Try.prog 49 #[.agg (toldV ids L s.a s.pa).cs, .agg (toldV ids L s.b s.pb).cs] w fun e w' => e = .returned (.bool (decide (vk (toldV ids L s.a s.pa) < vk (toldV ids L s.b s.pb)))) ∧ Below w.heap.size w w' := by
  have hg := g.side s hs
  have h1 := toldV_wf g hg.1 hg.2.2.1
  have h2 := toldV_wf g hg.2.1 hg.2.2.2.1
  rw [← bet_vk h1 h2]
  exact better_any _ _ w h1 h2
attribute [local go_sem ↓] ldT ldE ldV stV ldX stX stR bdX
set_option maxHeartbeats 16000000 in
theorem end_any (a : Option Addr) (n c g c2 : Nat) (ids : List Nat) (L : List Ne) (s : Ne) (w : World) (h : TQ w a n c g c2 ids L (rpOf ids L)) (hs : s ∈ sdl L) :
    Calls Try.prog 39 #[.agg (tre a n c g c2), .agg s.eg.cs] w fun r w' => r = .returned (.agg (endOf ids L s).cs) ∧ Below w.heap.size w w' := by
  obtain ⟨W, hW, r0, r1, r2, bW, zW⟩ := end_new w (tre a n c g c2) s.eg.cs
  have hgs := h.ok.side s hs
  rw [h.len] at hgs
  have hn7 : n ≤ 7 := by rw [← h.len]; exact h.ok.n7
  have hnn := h.sl.int
  have T : Hid (s ∈ sdl L ∧ s.a < n ∧ s.b < n ∧ s.pa ≤ 7 ∧ s.pb ≤ 7) := ⟨hs, hgs.1, hgs.2.1, hgs.2.2.1, hgs.2.2.2.1⟩
  have H : Hid (TQ W a n c g c2 ids L (rpOf ids L) ∧ RvAt W w.heap.size 68 (tre a n c g c2) ∧ EvAt W (w.heap.size + 1) s.eg ∧ RvAt W (w.heap.size + 2) 58 #[.int .i64 0, .int .i64 0, .int .i64 0, .int .u64 0, .int .u32 0, .int .u64 0, .int .u16 0] ∧ Below w.heap.size w W ∧ W.heap.size = w.heap.size + 3) := ⟨h.below bW, r0, r1, r2, bW, zW⟩
  have ha0 : (0 : Int) ≤ (s.a : Int) := by omega
  have ha1 : (s.a : Int) < (n : Int) := by omega
  obtain ⟨own, hown⟩ : ∃ z, toldV ids L s.a s.pa = z := ⟨_, rfl⟩
  obtain ⟨oth, hoth⟩ : ∃ z, toldV ids L s.b s.pb = z := ⟨_, rfl⟩
  have CA : Hid (∀ X, Below W.heap.size W X → _) := fun X k => told_any a n c g c2 ids L (rpOf ids L) s.a s.pa X (H.out.1.below k) T.out.2.1 T.out.2.2.2.1
  have CB : Hid (∀ X, Below W.heap.size W X → _) := fun X k => told_any a n c g c2 ids L (rpOf ids L) s.b s.pb X (H.out.1.below k) T.out.2.2.1 T.out.2.2.2.2
  have CT : Hid (∀ X : World, _) := fun X => bet_told h.ok hs X
  rw [hown] at CA CT
  rw [hoth] at CB CT
  have HE : Hid (endOf ids L s = ⟨s.a, s.pa, if rpOf ids L s.a = (s.pa : Int) then 3 else if vk own < vk oth then 4 else 1, if vk own < vk oth then own else oth⟩) := by show _ = _; unfold endOf roleOf vecOf; rw [hown, hoth]
  obtain ⟨E, hE⟩ : ∃ z, endOf ids L s = z := ⟨_, rfl⟩
  rw [hE] at HE ⊢
  clear h hs r0 r1 r2 bW zW hgs hown hoth hE
  go_enter Try.func39, Try.ntmps39
  go_wp2_with fail
  go_cut [5, 6] from 8 to 19 (fun v5 v6 wx => ∃ z5 z6, v5 = .pointer (some ⟨z5, 0, none⟩) ∧ v6 = .pointer (some ⟨z6, 0, none⟩) ∧ RvAt wx z5 56 own.cs ∧ RvAt wx z6 56 oth.cs ∧ Below W.heap.size W wx)
  case first =>
    have f0 := fun q : Later W => (H.out.2.1.below q.below).ld rtT rfl
    have f1 := fun q : Later W => (H.out.2.2.1.below q.below).m0
    have f2 := fun q : Later W => (H.out.2.2.1.below q.below).m1
    have f3 := fun q : Later W => (H.out.2.2.1.below q.below).m2
    have f4 := fun q : Later W => (H.out.2.2.1.below q.below).m3
    obtain ⟨X0, hX0⟩ : ∃ X0, World.drew W = X0 := ⟨_, rfl⟩
    have B0 : Hid (Below W.heap.size W X0) := by rw [← hX0]; exact (Below.refl _ _).drew
    refine wp_region_noPanic ?_
    refine wp_region_held_drew (S := fun w' => ∃ x : Later W, w' = x.val) (by kernel_rfl) ⟨⟨_, (Below.refl _ _).drew⟩, rfl⟩ (fun hHeld => ?_)
    rw [hX0] at hHeld ⊢
    clear hX0 hW
    refine wpAnyH_take (i := 0) (oi := { dst := some 8, op := Op.load 68 (Operand.tmp 2), type := 68, pos := "span.go:196", after := #[], guard := none }) (v := ?_) rfl (by kernel_rfl) (by kernel_rfl) (by kernel_rfl) (fun _ _ _ h => h) (Or.inl ⟨by rfl, ?_⟩) hHeld ?_
    rotate_left
    · intro W_ hSw_
      obtain ⟨q, rfl⟩ := hSw_
      first | (go_simp; done) | (go_simp; with_reducible rfl)
    rotate_left
    try simp only [Act.put, List.setIfInBounds_toArray, List.set_cons_zero, List.set_cons_succ]
    refine wpAnyH_take (i := 1) (oi := { dst := some 9, op := Op.fieldAddr 50 (Operand.tmp 3) 0, type := 0, pos := "span.go:196", after := #[], guard := none }) (v := ?_) rfl (by kernel_rfl) (by kernel_rfl) (by kernel_rfl) (fun _ _ _ h => h) (Or.inl ⟨by rfl, ?_⟩) hHeld ?_
    rotate_left
    · intro W_ hSw_
      obtain ⟨q, rfl⟩ := hSw_
      first | (go_simp; done) | (go_simp; with_reducible rfl)
    rotate_left
    try simp only [Act.put, List.setIfInBounds_toArray, List.set_cons_zero, List.set_cons_succ]
    refine wpAnyH_take (i := 2) (oi := { dst := some 10, op := Op.load 3 (Operand.tmp 9), type := 3, pos := "span.go:196", after := #[{ on := 1, ground := Ground.data }], guard := none }) (v := ?_) rfl (by kernel_rfl) (by kernel_rfl) (by kernel_rfl) (fun _ _ _ h => h) (Or.inl ⟨by rfl, ?_⟩) hHeld ?_
    rotate_left
    · intro W_ hSw_
      obtain ⟨q, rfl⟩ := hSw_
      first | (go_simp; done) | (go_simp; with_reducible rfl)
    rotate_left
    try simp only [Act.put, List.setIfInBounds_toArray, List.set_cons_zero, List.set_cons_succ]
    refine wpAnyH_take (i := 3) (oi := { dst := some 11, op := Op.fieldAddr 50 (Operand.tmp 3) 1, type := 0, pos := "span.go:196", after := #[], guard := none }) (v := ?_) rfl (by kernel_rfl) (by kernel_rfl) (by kernel_rfl) (fun _ _ _ h => h) (Or.inl ⟨by rfl, ?_⟩) hHeld ?_
    rotate_left
    · intro W_ hSw_
      obtain ⟨q, rfl⟩ := hSw_
      first | (go_simp; done) | (go_simp; with_reducible rfl)
    rotate_left
    try simp only [Act.put, List.setIfInBounds_toArray, List.set_cons_zero, List.set_cons_succ]
    refine wpAnyH_take (i := 4) (oi := { dst := some 12, op := Op.load 3 (Operand.tmp 11), type := 3, pos := "span.go:196", after := #[{ on := 3, ground := Ground.data }], guard := none }) (v := ?_) rfl (by kernel_rfl) (by kernel_rfl) (by kernel_rfl) (fun _ _ _ h => h) (Or.inl ⟨by rfl, ?_⟩) hHeld ?_
    rotate_left
    · intro W_ hSw_
      obtain ⟨q, rfl⟩ := hSw_
      first | (go_simp; done) | (go_simp; with_reducible rfl)
    rotate_left
    try simp only [Act.put, List.setIfInBounds_toArray, List.set_cons_zero, List.set_cons_succ]
    refine wpAnyH_take (i := 6) (oi := { dst := some 14, op := Op.load 68 (Operand.tmp 2), type := 68, pos := "span.go:196", after := #[], guard := none }) (v := ?_) rfl (by kernel_rfl) (by kernel_rfl) (by kernel_rfl) (fun _ _ _ h => h) (Or.inl ⟨by rfl, ?_⟩) hHeld ?_
    rotate_left
    · intro W_ hSw_
      obtain ⟨q, rfl⟩ := hSw_
      first | (go_simp; done) | (go_simp; with_reducible rfl)
    rotate_left
    try simp only [Act.put, List.setIfInBounds_toArray, List.set_cons_zero, List.set_cons_succ]
    refine wpAnyH_take (i := 7) (oi := { dst := some 15, op := Op.fieldAddr 50 (Operand.tmp 3) 2, type := 0, pos := "span.go:196", after := #[], guard := none }) (v := ?_) rfl (by kernel_rfl) (by kernel_rfl) (by kernel_rfl) (fun _ _ _ h => h) (Or.inl ⟨by rfl, ?_⟩) hHeld ?_
    rotate_left
    · intro W_ hSw_
      obtain ⟨q, rfl⟩ := hSw_
      first | (go_simp; done) | (go_simp; with_reducible rfl)
    rotate_left
    try simp only [Act.put, List.setIfInBounds_toArray, List.set_cons_zero, List.set_cons_succ]
    refine wpAnyH_take (i := 8) (oi := { dst := some 16, op := Op.load 3 (Operand.tmp 15), type := 3, pos := "span.go:196", after := #[{ on := 7, ground := Ground.data }], guard := none }) (v := ?_) rfl (by kernel_rfl) (by kernel_rfl) (by kernel_rfl) (fun _ _ _ h => h) (Or.inl ⟨by rfl, ?_⟩) hHeld ?_
    rotate_left
    · intro W_ hSw_
      obtain ⟨q, rfl⟩ := hSw_
      first | (go_simp; done) | (go_simp; with_reducible rfl)
    rotate_left
    try simp only [Act.put, List.setIfInBounds_toArray, List.set_cons_zero, List.set_cons_succ]
    refine wpAnyH_take (i := 9) (oi := { dst := some 17, op := Op.fieldAddr 50 (Operand.tmp 3) 3, type := 0, pos := "span.go:196", after := #[], guard := none }) (v := ?_) rfl (by kernel_rfl) (by kernel_rfl) (by kernel_rfl) (fun _ _ _ h => h) (Or.inl ⟨by rfl, ?_⟩) hHeld ?_
    rotate_left
    · intro W_ hSw_
      obtain ⟨q, rfl⟩ := hSw_
      first | (go_simp; done) | (go_simp; with_reducible rfl)
    rotate_left
    try simp only [Act.put, List.setIfInBounds_toArray, List.set_cons_zero, List.set_cons_succ]
    refine wpAnyH_take (i := 10) (oi := { dst := some 18, op := Op.load 3 (Operand.tmp 17), type := 3, pos := "span.go:196", after := #[{ on := 9, ground := Ground.data }], guard := none }) (v := ?_) rfl (by kernel_rfl) (by kernel_rfl) (by kernel_rfl) (fun _ _ _ h => h) (Or.inl ⟨by rfl, ?_⟩) hHeld ?_
    rotate_left
    · intro W_ hSw_
      obtain ⟨q, rfl⟩ := hSw_
      first | (go_simp; done) | (go_simp; with_reducible rfl)
    rotate_left
    try simp only [Act.put, List.setIfInBounds_toArray, List.set_cons_zero, List.set_cons_succ]
    refine wpAnyH_ready (rs := [5, 12, 13]) (by kernel_rfl) (by simp) ?_
    refine (AllReadyH.cons (o := { dst := some 13, op := Op.call { callee := Callee.value (Operand.func 48), args := #[Operand.tmp 8, Operand.tmp 10, Operand.tmp 12], argTypes := #[68, 3, 3] }, type := 56, pos := "span.go:196", after := #[{ on := 0, ground := Ground.data }, { on := 2, ground := Ground.data }, { on := 4, ground := Ground.data }], guard := none }) rfl (fun K hK => ?_) (AllReadyH.cons (o := { dst := some 5, op := Op.alloc 56, type := 0, pos := "span.go:196", after := #[], guard := none }) rfl (fun K hK => ?_) (AllReadyH.cons (o := { dst := some 6, op := Op.alloc 56, type := 0, pos := "span.go:196", after := #[], guard := none }) rfl (fun K hK => ?_) AllReadyH.nil)))
    · skip
      go_simp
      refine (CA.out X0 B0.out).mono ?_
      rintro _ X1 ⟨rfl, bb⟩
      have B1 : Hid (Below W.heap.size W X1) := below_over B0.out bb
      clear bb
      clear hHeld
      refine hK.out _ _ ⟨⟨_, B1.out⟩, rfl⟩ (fun hHeld => ?_)
      clear hK K
      try simp only [Act.put, List.setIfInBounds_toArray, List.set_cons_zero, List.set_cons_succ]
      refine wpAnyH_ready (rs := [11, 12, 13]) (by kernel_rfl) (by simp) ?_
      refine (AllReadyH.cons (o := { dst := some 19, op := Op.call { callee := Callee.value (Operand.func 48), args := #[Operand.tmp 14, Operand.tmp 16, Operand.tmp 18], argTypes := #[68, 3, 3] }, type := 56, pos := "span.go:196", after := #[{ on := 6, ground := Ground.data }, { on := 8, ground := Ground.data }, { on := 10, ground := Ground.data }, { on := 5, ground := Ground.chain }], guard := none }) rfl (fun K hK => ?_) (AllReadyH.cons (o := { dst := some 5, op := Op.alloc 56, type := 0, pos := "span.go:196", after := #[], guard := none }) rfl (fun K hK => ?_) (AllReadyH.cons (o := { dst := some 6, op := Op.alloc 56, type := 0, pos := "span.go:196", after := #[], guard := none }) rfl (fun K hK => ?_) AllReadyH.nil)))
      · skip
        go_simp
        refine (CB.out X1 B1.out).mono ?_
        rintro _ X2 ⟨rfl, bb⟩
        have B2 : Hid (Below W.heap.size W X2) := below_over B1.out bb
        clear bb
        clear hHeld
        refine hK.out _ _ ⟨⟨_, B2.out⟩, rfl⟩ (fun hHeld => ?_)
        clear hK K
        try simp only [Act.put, List.setIfInBounds_toArray, List.set_cons_zero, List.set_cons_succ]
        refine wpAnyH_ready (rs := [12, 13]) (by kernel_rfl) (by simp) ?_
        refine (AllReadyH.cons (o := { dst := some 5, op := Op.alloc 56, type := 0, pos := "span.go:196", after := #[], guard := none }) rfl (fun K hK => ?_) (AllReadyH.cons (o := { dst := some 6, op := Op.alloc 56, type := 0, pos := "span.go:196", after := #[], guard := none }) rfl (fun K hK => ?_) AllReadyH.nil))
        · skip
          obtain ⟨X3, hN⟩ : ∃ z, X2.alloc (.cells #[.int .u64 0, .int .u32 0, .int .u64 0, .int .u16 0] 56) = z := ⟨_, rfl⟩
          obtain ⟨z5, hz⟩ : ∃ z, X2.heap.size = z := ⟨_, rfl⟩
          have bb : Below X2.heap.size X2 X3 := by rw [← hN]; exact (Below.refl _ _).alloc (Nat.le_refl _) _
          have B3 : Hid (Below W.heap.size W X3) := below_over B2.out bb
          have p5_3 : Hid (RvAt X3 z5 56 #[.int .u64 0, .int .u32 0, .int .u64 0, .int .u16 0] ∧ W.heap.size ≤ z5) := ⟨by rw [← hN, ← hz]; exact RvAt.new _ _ _, by rw [← hz]; exact B2.out.size⟩
          clear bb
          go_simp
          clear hN hz
          clear hHeld
          refine hK.out _ _ ⟨⟨_, B3.out⟩, rfl⟩ (fun hHeld => ?_)
          clear hK K
          try simp only [Act.put, List.setIfInBounds_toArray, List.set_cons_zero, List.set_cons_succ]
          refine wpAnyH_ready (rs := [13]) (by kernel_rfl) (by simp) ?_
          refine AllReadyH.cons (o := { dst := some 6, op := Op.alloc 56, type := 0, pos := "span.go:196", after := #[], guard := none }) rfl (fun K hK => ?_) AllReadyH.nil
          obtain ⟨X4, hN⟩ : ∃ z, X3.alloc (.cells #[.int .u64 0, .int .u32 0, .int .u64 0, .int .u16 0] 56) = z := ⟨_, rfl⟩
          obtain ⟨z6, hz⟩ : ∃ z, X3.heap.size = z := ⟨_, rfl⟩
          have bb : Below X3.heap.size X3 X4 := by rw [← hN]; exact (Below.refl _ _).alloc (Nat.le_refl _) _
          have B4 : Hid (Below W.heap.size W X4) := below_over B3.out bb
          have p6_4 : Hid (RvAt X4 z6 56 #[.int .u64 0, .int .u32 0, .int .u64 0, .int .u16 0] ∧ W.heap.size ≤ z6) := ⟨by rw [← hN, ← hz]; exact RvAt.new _ _ _, by rw [← hz]; exact B3.out.size⟩
          have p5_4 : Hid (RvAt X4 z5 56 #[.int .u64 0, .int .u32 0, .int .u64 0, .int .u16 0] ∧ W.heap.size ≤ z5) := ⟨p5_3.out.1.below bb, p5_3.out.2⟩
          have NE : Hid (z5 ≠ z6) := by have := p5_3.out.1.lt; show _ ≠ _; omega
          clear bb
          go_simp
          clear hN hz
          clear hHeld
          refine hK.out _ _ ⟨⟨_, B4.out⟩, rfl⟩ (fun hHeld => ?_)
          clear hK K
          try simp only [Act.put, List.setIfInBounds_toArray, List.set_cons_zero, List.set_cons_succ]
          refine wpAnyH_ready (rs := [14]) (by kernel_rfl) (by simp) ?_
          refine AllReadyH.cons (o := { dst := none, op := Op.store 56 (Operand.tmp 5) (Operand.tmp 13), type := 0, pos := "span.go:196", after := #[{ on := 12, ground := Ground.data }, { on := 5, ground := Ground.data }, { on := 11, ground := Ground.chain }, { on := 0, ground := Ground.phase }, { on := 1, ground := Ground.phase }, { on := 2, ground := Ground.phase }, { on := 3, ground := Ground.phase }, { on := 4, ground := Ground.phase }, { on := 5, ground := Ground.phase }, { on := 6, ground := Ground.textOnly Departure.lateStores }, { on := 7, ground := Ground.textOnly Departure.lateStores }, { on := 8, ground := Ground.textOnly Departure.lateStores }, { on := 9, ground := Ground.textOnly Departure.lateStores }, { on := 10, ground := Ground.textOnly Departure.lateStores }, { on := 11, ground := Ground.textOnly Departure.lateStoresUnsure }, { on := 12, ground := Ground.phase }, { on := 13, ground := Ground.phase }], guard := none }) rfl (fun K hK => ?_) AllReadyH.nil
          have st5 := p5_4.out.1.st rtV (ds := (own).cs) rfl rfl (V4.one _)
          obtain ⟨X5, hN⟩ : ∃ z, X4.setRow z5 (own).cs = z := ⟨_, rfl⟩
          rw [hN] at st5
          have B5 : Hid (Below W.heap.size W X5) := by rw [← hN]; exact below_setRow B4.out p5_4.out.2 _
          have p5_5 : Hid (RvAt X5 z5 56 (own).cs ∧ W.heap.size ≤ z5) := ⟨by rw [← hN]; exact p5_4.out.1.set, p5_4.out.2⟩
          have p6_5 : Hid (RvAt X5 z6 56 #[.int .u64 0, .int .u32 0, .int .u64 0, .int .u16 0] ∧ W.heap.size ≤ z6) := ⟨by rw [← hN]; exact p6_4.out.1.keptBut (grown_row _ _ _) (fun e => by have := NE.out; simp only [Option.some.injEq] at e; omega), p6_4.out.2⟩
          go_simp
          clear hN st5
          clear hHeld
          refine hK.out _ _ ⟨⟨_, B5.out⟩, rfl⟩ (fun hHeld => ?_)
          clear hK K
          try simp only [Act.put, List.setIfInBounds_toArray, List.set_cons_zero, List.set_cons_succ]
          refine wpAnyH_ready (rs := [15]) (by kernel_rfl) (by simp) ?_
          refine AllReadyH.cons (o := { dst := none, op := Op.store 56 (Operand.tmp 6) (Operand.tmp 19), type := 0, pos := "span.go:196", after := #[{ on := 13, ground := Ground.data }, { on := 11, ground := Ground.data }, { on := 14, ground := Ground.chain }, { on := 0, ground := Ground.phase }, { on := 1, ground := Ground.phase }, { on := 2, ground := Ground.phase }, { on := 3, ground := Ground.phase }, { on := 4, ground := Ground.phase }, { on := 5, ground := Ground.phase }, { on := 6, ground := Ground.phase }, { on := 7, ground := Ground.phase }, { on := 8, ground := Ground.phase }, { on := 9, ground := Ground.phase }, { on := 10, ground := Ground.phase }, { on := 11, ground := Ground.phase }, { on := 12, ground := Ground.phase }, { on := 13, ground := Ground.phase }, { on := 14, ground := Ground.phase }], guard := none }) rfl (fun K hK => ?_) AllReadyH.nil
          have st6 := p6_5.out.1.st rtV (ds := (oth).cs) rfl rfl (V4.one _)
          obtain ⟨X6, hN⟩ : ∃ z, X5.setRow z6 (oth).cs = z := ⟨_, rfl⟩
          rw [hN] at st6
          have B6 : Hid (Below W.heap.size W X6) := by rw [← hN]; exact below_setRow B5.out p6_5.out.2 _
          have p6_6 : Hid (RvAt X6 z6 56 (oth).cs ∧ W.heap.size ≤ z6) := ⟨by rw [← hN]; exact p6_5.out.1.set, p6_5.out.2⟩
          have p5_6 : Hid (RvAt X6 z5 56 (own).cs ∧ W.heap.size ≤ z5) := ⟨by rw [← hN]; exact p5_5.out.1.keptBut (grown_row _ _ _) (fun e => by have := NE.out; simp only [Option.some.injEq] at e; omega), p5_5.out.2⟩
          go_simp
          clear hN st6
          clear hHeld
          refine hK.out _ _ ⟨⟨_, B6.out⟩, rfl⟩ (fun hHeld => ?_)
          clear hK K
          try simp only [Act.put, List.setIfInBounds_toArray, List.set_cons_zero, List.set_cons_succ]
          refine wpAnyH_done (by kernel_rfl) ?_ _
          refine NoPanic.normal ?_
          clear hHeld
          go_wp2_with fail
          go_meet
          exact ⟨z5, z6, rfl, rfl, p5_6.out.1, p6_6.out.1, B6.out⟩
        · skip
          obtain ⟨X7, hN⟩ : ∃ z, X2.alloc (.cells #[.int .u64 0, .int .u32 0, .int .u64 0, .int .u16 0] 56) = z := ⟨_, rfl⟩
          obtain ⟨z6, hz⟩ : ∃ z, X2.heap.size = z := ⟨_, rfl⟩
          have bb : Below X2.heap.size X2 X7 := by rw [← hN]; exact (Below.refl _ _).alloc (Nat.le_refl _) _
          have B7 : Hid (Below W.heap.size W X7) := below_over B2.out bb
          have p6_7 : Hid (RvAt X7 z6 56 #[.int .u64 0, .int .u32 0, .int .u64 0, .int .u16 0] ∧ W.heap.size ≤ z6) := ⟨by rw [← hN, ← hz]; exact RvAt.new _ _ _, by rw [← hz]; exact B2.out.size⟩
          clear bb
          go_simp
          clear hN hz
          clear hHeld
          refine hK.out _ _ ⟨⟨_, B7.out⟩, rfl⟩ (fun hHeld => ?_)
          clear hK K
          try simp only [Act.put, List.setIfInBounds_toArray, List.set_cons_zero, List.set_cons_succ]
          refine wpAnyH_ready (rs := [12]) (by kernel_rfl) (by simp) ?_
          refine AllReadyH.cons (o := { dst := some 5, op := Op.alloc 56, type := 0, pos := "span.go:196", after := #[], guard := none }) rfl (fun K hK => ?_) AllReadyH.nil
          obtain ⟨X8, hN⟩ : ∃ z, X7.alloc (.cells #[.int .u64 0, .int .u32 0, .int .u64 0, .int .u16 0] 56) = z := ⟨_, rfl⟩
          obtain ⟨z5, hz⟩ : ∃ z, X7.heap.size = z := ⟨_, rfl⟩
          have bb : Below X7.heap.size X7 X8 := by rw [← hN]; exact (Below.refl _ _).alloc (Nat.le_refl _) _
          have B8 : Hid (Below W.heap.size W X8) := below_over B7.out bb
          have p5_8 : Hid (RvAt X8 z5 56 #[.int .u64 0, .int .u32 0, .int .u64 0, .int .u16 0] ∧ W.heap.size ≤ z5) := ⟨by rw [← hN, ← hz]; exact RvAt.new _ _ _, by rw [← hz]; exact B7.out.size⟩
          have p6_8 : Hid (RvAt X8 z6 56 #[.int .u64 0, .int .u32 0, .int .u64 0, .int .u16 0] ∧ W.heap.size ≤ z6) := ⟨p6_7.out.1.below bb, p6_7.out.2⟩
          have NE : Hid (z6 ≠ z5) := by have := p6_7.out.1.lt; show _ ≠ _; omega
          clear bb
          go_simp
          clear hN hz
          clear hHeld
          refine hK.out _ _ ⟨⟨_, B8.out⟩, rfl⟩ (fun hHeld => ?_)
          clear hK K
          try simp only [Act.put, List.setIfInBounds_toArray, List.set_cons_zero, List.set_cons_succ]
          refine wpAnyH_ready (rs := [14]) (by kernel_rfl) (by simp) ?_
          refine AllReadyH.cons (o := { dst := none, op := Op.store 56 (Operand.tmp 5) (Operand.tmp 13), type := 0, pos := "span.go:196", after := #[{ on := 12, ground := Ground.data }, { on := 5, ground := Ground.data }, { on := 11, ground := Ground.chain }, { on := 0, ground := Ground.phase }, { on := 1, ground := Ground.phase }, { on := 2, ground := Ground.phase }, { on := 3, ground := Ground.phase }, { on := 4, ground := Ground.phase }, { on := 5, ground := Ground.phase }, { on := 6, ground := Ground.textOnly Departure.lateStores }, { on := 7, ground := Ground.textOnly Departure.lateStores }, { on := 8, ground := Ground.textOnly Departure.lateStores }, { on := 9, ground := Ground.textOnly Departure.lateStores }, { on := 10, ground := Ground.textOnly Departure.lateStores }, { on := 11, ground := Ground.textOnly Departure.lateStoresUnsure }, { on := 12, ground := Ground.phase }, { on := 13, ground := Ground.phase }], guard := none }) rfl (fun K hK => ?_) AllReadyH.nil
          have st9 := p5_8.out.1.st rtV (ds := (own).cs) rfl rfl (V4.one _)
          obtain ⟨X9, hN⟩ : ∃ z, X8.setRow z5 (own).cs = z := ⟨_, rfl⟩
          rw [hN] at st9
          have B9 : Hid (Below W.heap.size W X9) := by rw [← hN]; exact below_setRow B8.out p5_8.out.2 _
          have p5_9 : Hid (RvAt X9 z5 56 (own).cs ∧ W.heap.size ≤ z5) := ⟨by rw [← hN]; exact p5_8.out.1.set, p5_8.out.2⟩
          have p6_9 : Hid (RvAt X9 z6 56 #[.int .u64 0, .int .u32 0, .int .u64 0, .int .u16 0] ∧ W.heap.size ≤ z6) := ⟨by rw [← hN]; exact p6_8.out.1.keptBut (grown_row _ _ _) (fun e => by have := NE.out; simp only [Option.some.injEq] at e; omega), p6_8.out.2⟩
          go_simp
          clear hN st9
          clear hHeld
          refine hK.out _ _ ⟨⟨_, B9.out⟩, rfl⟩ (fun hHeld => ?_)
          clear hK K
          try simp only [Act.put, List.setIfInBounds_toArray, List.set_cons_zero, List.set_cons_succ]
          refine wpAnyH_ready (rs := [15]) (by kernel_rfl) (by simp) ?_
          refine AllReadyH.cons (o := { dst := none, op := Op.store 56 (Operand.tmp 6) (Operand.tmp 19), type := 0, pos := "span.go:196", after := #[{ on := 13, ground := Ground.data }, { on := 11, ground := Ground.data }, { on := 14, ground := Ground.chain }, { on := 0, ground := Ground.phase }, { on := 1, ground := Ground.phase }, { on := 2, ground := Ground.phase }, { on := 3, ground := Ground.phase }, { on := 4, ground := Ground.phase }, { on := 5, ground := Ground.phase }, { on := 6, ground := Ground.phase }, { on := 7, ground := Ground.phase }, { on := 8, ground := Ground.phase }, { on := 9, ground := Ground.phase }, { on := 10, ground := Ground.phase }, { on := 11, ground := Ground.phase }, { on := 12, ground := Ground.phase }, { on := 13, ground := Ground.phase }, { on := 14, ground := Ground.phase }], guard := none }) rfl (fun K hK => ?_) AllReadyH.nil
          have st10 := p6_9.out.1.st rtV (ds := (oth).cs) rfl rfl (V4.one _)
          obtain ⟨X10, hN⟩ : ∃ z, X9.setRow z6 (oth).cs = z := ⟨_, rfl⟩
          rw [hN] at st10
          have B10 : Hid (Below W.heap.size W X10) := by rw [← hN]; exact below_setRow B9.out p6_9.out.2 _
          have p6_10 : Hid (RvAt X10 z6 56 (oth).cs ∧ W.heap.size ≤ z6) := ⟨by rw [← hN]; exact p6_9.out.1.set, p6_9.out.2⟩
          have p5_10 : Hid (RvAt X10 z5 56 (own).cs ∧ W.heap.size ≤ z5) := ⟨by rw [← hN]; exact p5_9.out.1.keptBut (grown_row _ _ _) (fun e => by have := NE.out; simp only [Option.some.injEq] at e; omega), p5_9.out.2⟩
          go_simp
          clear hN st10
          clear hHeld
          refine hK.out _ _ ⟨⟨_, B10.out⟩, rfl⟩ (fun hHeld => ?_)
          clear hK K
          try simp only [Act.put, List.setIfInBounds_toArray, List.set_cons_zero, List.set_cons_succ]
          refine wpAnyH_done (by kernel_rfl) ?_ _
          refine NoPanic.normal ?_
          clear hHeld
          go_wp2_with fail
          go_meet
          exact ⟨z5, z6, rfl, rfl, p5_10.out.1, p6_10.out.1, B10.out⟩
      · skip
        obtain ⟨X11, hN⟩ : ∃ z, X1.alloc (.cells #[.int .u64 0, .int .u32 0, .int .u64 0, .int .u16 0] 56) = z := ⟨_, rfl⟩
        obtain ⟨z5, hz⟩ : ∃ z, X1.heap.size = z := ⟨_, rfl⟩
        have bb : Below X1.heap.size X1 X11 := by rw [← hN]; exact (Below.refl _ _).alloc (Nat.le_refl _) _
        have B11 : Hid (Below W.heap.size W X11) := below_over B1.out bb
        have p5_11 : Hid (RvAt X11 z5 56 #[.int .u64 0, .int .u32 0, .int .u64 0, .int .u16 0] ∧ W.heap.size ≤ z5) := ⟨by rw [← hN, ← hz]; exact RvAt.new _ _ _, by rw [← hz]; exact B1.out.size⟩
        clear bb
        go_simp
        clear hN hz
        clear hHeld
        refine hK.out _ _ ⟨⟨_, B11.out⟩, rfl⟩ (fun hHeld => ?_)
        clear hK K
        try simp only [Act.put, List.setIfInBounds_toArray, List.set_cons_zero, List.set_cons_succ]
        refine wpAnyH_ready (rs := [11, 13]) (by kernel_rfl) (by simp) ?_
        refine (AllReadyH.cons (o := { dst := some 19, op := Op.call { callee := Callee.value (Operand.func 48), args := #[Operand.tmp 14, Operand.tmp 16, Operand.tmp 18], argTypes := #[68, 3, 3] }, type := 56, pos := "span.go:196", after := #[{ on := 6, ground := Ground.data }, { on := 8, ground := Ground.data }, { on := 10, ground := Ground.data }, { on := 5, ground := Ground.chain }], guard := none }) rfl (fun K hK => ?_) (AllReadyH.cons (o := { dst := some 6, op := Op.alloc 56, type := 0, pos := "span.go:196", after := #[], guard := none }) rfl (fun K hK => ?_) AllReadyH.nil))
        · skip
          go_simp
          refine (CB.out X11 B11.out).mono ?_
          rintro _ X12 ⟨rfl, bb⟩
          have B12 : Hid (Below W.heap.size W X12) := below_over B11.out bb
          have p5_12 : Hid (RvAt X12 z5 56 #[.int .u64 0, .int .u32 0, .int .u64 0, .int .u16 0] ∧ W.heap.size ≤ z5) := ⟨p5_11.out.1.below bb, p5_11.out.2⟩
          clear bb
          clear hHeld
          refine hK.out _ _ ⟨⟨_, B12.out⟩, rfl⟩ (fun hHeld => ?_)
          clear hK K
          try simp only [Act.put, List.setIfInBounds_toArray, List.set_cons_zero, List.set_cons_succ]
          refine wpAnyH_ready (rs := [13]) (by kernel_rfl) (by simp) ?_
          refine AllReadyH.cons (o := { dst := some 6, op := Op.alloc 56, type := 0, pos := "span.go:196", after := #[], guard := none }) rfl (fun K hK => ?_) AllReadyH.nil
          obtain ⟨X13, hN⟩ : ∃ z, X12.alloc (.cells #[.int .u64 0, .int .u32 0, .int .u64 0, .int .u16 0] 56) = z := ⟨_, rfl⟩
          obtain ⟨z6, hz⟩ : ∃ z, X12.heap.size = z := ⟨_, rfl⟩
          have bb : Below X12.heap.size X12 X13 := by rw [← hN]; exact (Below.refl _ _).alloc (Nat.le_refl _) _
          have B13 : Hid (Below W.heap.size W X13) := below_over B12.out bb
          have p6_13 : Hid (RvAt X13 z6 56 #[.int .u64 0, .int .u32 0, .int .u64 0, .int .u16 0] ∧ W.heap.size ≤ z6) := ⟨by rw [← hN, ← hz]; exact RvAt.new _ _ _, by rw [← hz]; exact B12.out.size⟩
          have p5_13 : Hid (RvAt X13 z5 56 #[.int .u64 0, .int .u32 0, .int .u64 0, .int .u16 0] ∧ W.heap.size ≤ z5) := ⟨p5_12.out.1.below bb, p5_12.out.2⟩
          have NE : Hid (z5 ≠ z6) := by have := p5_12.out.1.lt; show _ ≠ _; omega
          clear bb
          go_simp
          clear hN hz
          clear hHeld
          refine hK.out _ _ ⟨⟨_, B13.out⟩, rfl⟩ (fun hHeld => ?_)
          clear hK K
          try simp only [Act.put, List.setIfInBounds_toArray, List.set_cons_zero, List.set_cons_succ]
          refine wpAnyH_ready (rs := [14]) (by kernel_rfl) (by simp) ?_
          refine AllReadyH.cons (o := { dst := none, op := Op.store 56 (Operand.tmp 5) (Operand.tmp 13), type := 0, pos := "span.go:196", after := #[{ on := 12, ground := Ground.data }, { on := 5, ground := Ground.data }, { on := 11, ground := Ground.chain }, { on := 0, ground := Ground.phase }, { on := 1, ground := Ground.phase }, { on := 2, ground := Ground.phase }, { on := 3, ground := Ground.phase }, { on := 4, ground := Ground.phase }, { on := 5, ground := Ground.phase }, { on := 6, ground := Ground.textOnly Departure.lateStores }, { on := 7, ground := Ground.textOnly Departure.lateStores }, { on := 8, ground := Ground.textOnly Departure.lateStores }, { on := 9, ground := Ground.textOnly Departure.lateStores }, { on := 10, ground := Ground.textOnly Departure.lateStores }, { on := 11, ground := Ground.textOnly Departure.lateStoresUnsure }, { on := 12, ground := Ground.phase }, { on := 13, ground := Ground.phase }], guard := none }) rfl (fun K hK => ?_) AllReadyH.nil
          have st14 := p5_13.out.1.st rtV (ds := (own).cs) rfl rfl (V4.one _)
          obtain ⟨X14, hN⟩ : ∃ z, X13.setRow z5 (own).cs = z := ⟨_, rfl⟩
          rw [hN] at st14
          have B14 : Hid (Below W.heap.size W X14) := by rw [← hN]; exact below_setRow B13.out p5_13.out.2 _
          have p5_14 : Hid (RvAt X14 z5 56 (own).cs ∧ W.heap.size ≤ z5) := ⟨by rw [← hN]; exact p5_13.out.1.set, p5_13.out.2⟩
          have p6_14 : Hid (RvAt X14 z6 56 #[.int .u64 0, .int .u32 0, .int .u64 0, .int .u16 0] ∧ W.heap.size ≤ z6) := ⟨by rw [← hN]; exact p6_13.out.1.keptBut (grown_row _ _ _) (fun e => by have := NE.out; simp only [Option.some.injEq] at e; omega), p6_13.out.2⟩
          go_simp
          clear hN st14
          clear hHeld
          refine hK.out _ _ ⟨⟨_, B14.out⟩, rfl⟩ (fun hHeld => ?_)
          clear hK K
          try simp only [Act.put, List.setIfInBounds_toArray, List.set_cons_zero, List.set_cons_succ]
          refine wpAnyH_ready (rs := [15]) (by kernel_rfl) (by simp) ?_
          refine AllReadyH.cons (o := { dst := none, op := Op.store 56 (Operand.tmp 6) (Operand.tmp 19), type := 0, pos := "span.go:196", after := #[{ on := 13, ground := Ground.data }, { on := 11, ground := Ground.data }, { on := 14, ground := Ground.chain }, { on := 0, ground := Ground.phase }, { on := 1, ground := Ground.phase }, { on := 2, ground := Ground.phase }, { on := 3, ground := Ground.phase }, { on := 4, ground := Ground.phase }, { on := 5, ground := Ground.phase }, { on := 6, ground := Ground.phase }, { on := 7, ground := Ground.phase }, { on := 8, ground := Ground.phase }, { on := 9, ground := Ground.phase }, { on := 10, ground := Ground.phase }, { on := 11, ground := Ground.phase }, { on := 12, ground := Ground.phase }, { on := 13, ground := Ground.phase }, { on := 14, ground := Ground.phase }], guard := none }) rfl (fun K hK => ?_) AllReadyH.nil
          have st15 := p6_14.out.1.st rtV (ds := (oth).cs) rfl rfl (V4.one _)
          obtain ⟨X15, hN⟩ : ∃ z, X14.setRow z6 (oth).cs = z := ⟨_, rfl⟩
          rw [hN] at st15
          have B15 : Hid (Below W.heap.size W X15) := by rw [← hN]; exact below_setRow B14.out p6_14.out.2 _
          have p6_15 : Hid (RvAt X15 z6 56 (oth).cs ∧ W.heap.size ≤ z6) := ⟨by rw [← hN]; exact p6_14.out.1.set, p6_14.out.2⟩
          have p5_15 : Hid (RvAt X15 z5 56 (own).cs ∧ W.heap.size ≤ z5) := ⟨by rw [← hN]; exact p5_14.out.1.keptBut (grown_row _ _ _) (fun e => by have := NE.out; simp only [Option.some.injEq] at e; omega), p5_14.out.2⟩
          go_simp
          clear hN st15
          clear hHeld
          refine hK.out _ _ ⟨⟨_, B15.out⟩, rfl⟩ (fun hHeld => ?_)
          clear hK K
          try simp only [Act.put, List.setIfInBounds_toArray, List.set_cons_zero, List.set_cons_succ]
          refine wpAnyH_done (by kernel_rfl) ?_ _
          refine NoPanic.normal ?_
          clear hHeld
          go_wp2_with fail
          go_meet
          exact ⟨z5, z6, rfl, rfl, p5_15.out.1, p6_15.out.1, B15.out⟩
        · skip
          obtain ⟨X16, hN⟩ : ∃ z, X11.alloc (.cells #[.int .u64 0, .int .u32 0, .int .u64 0, .int .u16 0] 56) = z := ⟨_, rfl⟩
          obtain ⟨z6, hz⟩ : ∃ z, X11.heap.size = z := ⟨_, rfl⟩
          have bb : Below X11.heap.size X11 X16 := by rw [← hN]; exact (Below.refl _ _).alloc (Nat.le_refl _) _
          have B16 : Hid (Below W.heap.size W X16) := below_over B11.out bb
          have p6_16 : Hid (RvAt X16 z6 56 #[.int .u64 0, .int .u32 0, .int .u64 0, .int .u16 0] ∧ W.heap.size ≤ z6) := ⟨by rw [← hN, ← hz]; exact RvAt.new _ _ _, by rw [← hz]; exact B11.out.size⟩
          have p5_16 : Hid (RvAt X16 z5 56 #[.int .u64 0, .int .u32 0, .int .u64 0, .int .u16 0] ∧ W.heap.size ≤ z5) := ⟨p5_11.out.1.below bb, p5_11.out.2⟩
          have NE : Hid (z5 ≠ z6) := by have := p5_11.out.1.lt; show _ ≠ _; omega
          clear bb
          go_simp
          clear hN hz
          clear hHeld
          refine hK.out _ _ ⟨⟨_, B16.out⟩, rfl⟩ (fun hHeld => ?_)
          clear hK K
          try simp only [Act.put, List.setIfInBounds_toArray, List.set_cons_zero, List.set_cons_succ]
          refine wpAnyH_ready (rs := [11]) (by kernel_rfl) (by simp) ?_
          refine AllReadyH.cons (o := { dst := some 19, op := Op.call { callee := Callee.value (Operand.func 48), args := #[Operand.tmp 14, Operand.tmp 16, Operand.tmp 18], argTypes := #[68, 3, 3] }, type := 56, pos := "span.go:196", after := #[{ on := 6, ground := Ground.data }, { on := 8, ground := Ground.data }, { on := 10, ground := Ground.data }, { on := 5, ground := Ground.chain }], guard := none }) rfl (fun K hK => ?_) AllReadyH.nil
          go_simp
          refine (CB.out X16 B16.out).mono ?_
          rintro _ X17 ⟨rfl, bb⟩
          have B17 : Hid (Below W.heap.size W X17) := below_over B16.out bb
          have p5_17 : Hid (RvAt X17 z5 56 #[.int .u64 0, .int .u32 0, .int .u64 0, .int .u16 0] ∧ W.heap.size ≤ z5) := ⟨p5_16.out.1.below bb, p5_16.out.2⟩
          have p6_17 : Hid (RvAt X17 z6 56 #[.int .u64 0, .int .u32 0, .int .u64 0, .int .u16 0] ∧ W.heap.size ≤ z6) := ⟨p6_16.out.1.below bb, p6_16.out.2⟩
          clear bb
          clear hHeld
          refine hK.out _ _ ⟨⟨_, B17.out⟩, rfl⟩ (fun hHeld => ?_)
          clear hK K
          try simp only [Act.put, List.setIfInBounds_toArray, List.set_cons_zero, List.set_cons_succ]
          refine wpAnyH_ready (rs := [14]) (by kernel_rfl) (by simp) ?_
          refine AllReadyH.cons (o := { dst := none, op := Op.store 56 (Operand.tmp 5) (Operand.tmp 13), type := 0, pos := "span.go:196", after := #[{ on := 12, ground := Ground.data }, { on := 5, ground := Ground.data }, { on := 11, ground := Ground.chain }, { on := 0, ground := Ground.phase }, { on := 1, ground := Ground.phase }, { on := 2, ground := Ground.phase }, { on := 3, ground := Ground.phase }, { on := 4, ground := Ground.phase }, { on := 5, ground := Ground.phase }, { on := 6, ground := Ground.textOnly Departure.lateStores }, { on := 7, ground := Ground.textOnly Departure.lateStores }, { on := 8, ground := Ground.textOnly Departure.lateStores }, { on := 9, ground := Ground.textOnly Departure.lateStores }, { on := 10, ground := Ground.textOnly Departure.lateStores }, { on := 11, ground := Ground.textOnly Departure.lateStoresUnsure }, { on := 12, ground := Ground.phase }, { on := 13, ground := Ground.phase }], guard := none }) rfl (fun K hK => ?_) AllReadyH.nil
          have st18 := p5_17.out.1.st rtV (ds := (own).cs) rfl rfl (V4.one _)
          obtain ⟨X18, hN⟩ : ∃ z, X17.setRow z5 (own).cs = z := ⟨_, rfl⟩
          rw [hN] at st18
          have B18 : Hid (Below W.heap.size W X18) := by rw [← hN]; exact below_setRow B17.out p5_17.out.2 _
          have p5_18 : Hid (RvAt X18 z5 56 (own).cs ∧ W.heap.size ≤ z5) := ⟨by rw [← hN]; exact p5_17.out.1.set, p5_17.out.2⟩
          have p6_18 : Hid (RvAt X18 z6 56 #[.int .u64 0, .int .u32 0, .int .u64 0, .int .u16 0] ∧ W.heap.size ≤ z6) := ⟨by rw [← hN]; exact p6_17.out.1.keptBut (grown_row _ _ _) (fun e => by have := NE.out; simp only [Option.some.injEq] at e; omega), p6_17.out.2⟩
          go_simp
          clear hN st18
          clear hHeld
          refine hK.out _ _ ⟨⟨_, B18.out⟩, rfl⟩ (fun hHeld => ?_)
          clear hK K
          try simp only [Act.put, List.setIfInBounds_toArray, List.set_cons_zero, List.set_cons_succ]
          refine wpAnyH_ready (rs := [15]) (by kernel_rfl) (by simp) ?_
          refine AllReadyH.cons (o := { dst := none, op := Op.store 56 (Operand.tmp 6) (Operand.tmp 19), type := 0, pos := "span.go:196", after := #[{ on := 13, ground := Ground.data }, { on := 11, ground := Ground.data }, { on := 14, ground := Ground.chain }, { on := 0, ground := Ground.phase }, { on := 1, ground := Ground.phase }, { on := 2, ground := Ground.phase }, { on := 3, ground := Ground.phase }, { on := 4, ground := Ground.phase }, { on := 5, ground := Ground.phase }, { on := 6, ground := Ground.phase }, { on := 7, ground := Ground.phase }, { on := 8, ground := Ground.phase }, { on := 9, ground := Ground.phase }, { on := 10, ground := Ground.phase }, { on := 11, ground := Ground.phase }, { on := 12, ground := Ground.phase }, { on := 13, ground := Ground.phase }, { on := 14, ground := Ground.phase }], guard := none }) rfl (fun K hK => ?_) AllReadyH.nil
          have st19 := p6_18.out.1.st rtV (ds := (oth).cs) rfl rfl (V4.one _)
          obtain ⟨X19, hN⟩ : ∃ z, X18.setRow z6 (oth).cs = z := ⟨_, rfl⟩
          rw [hN] at st19
          have B19 : Hid (Below W.heap.size W X19) := by rw [← hN]; exact below_setRow B18.out p6_18.out.2 _
          have p6_19 : Hid (RvAt X19 z6 56 (oth).cs ∧ W.heap.size ≤ z6) := ⟨by rw [← hN]; exact p6_18.out.1.set, p6_18.out.2⟩
          have p5_19 : Hid (RvAt X19 z5 56 (own).cs ∧ W.heap.size ≤ z5) := ⟨by rw [← hN]; exact p5_18.out.1.keptBut (grown_row _ _ _) (fun e => by have := NE.out; simp only [Option.some.injEq] at e; omega), p5_18.out.2⟩
          go_simp
          clear hN st19
          clear hHeld
          refine hK.out _ _ ⟨⟨_, B19.out⟩, rfl⟩ (fun hHeld => ?_)
          clear hK K
          try simp only [Act.put, List.setIfInBounds_toArray, List.set_cons_zero, List.set_cons_succ]
          refine wpAnyH_done (by kernel_rfl) ?_ _
          refine NoPanic.normal ?_
          clear hHeld
          go_wp2_with fail
          go_meet
          exact ⟨z5, z6, rfl, rfl, p5_19.out.1, p6_19.out.1, B19.out⟩
      · skip
        obtain ⟨X20, hN⟩ : ∃ z, X1.alloc (.cells #[.int .u64 0, .int .u32 0, .int .u64 0, .int .u16 0] 56) = z := ⟨_, rfl⟩
        obtain ⟨z6, hz⟩ : ∃ z, X1.heap.size = z := ⟨_, rfl⟩
        have bb : Below X1.heap.size X1 X20 := by rw [← hN]; exact (Below.refl _ _).alloc (Nat.le_refl _) _
        have B20 : Hid (Below W.heap.size W X20) := below_over B1.out bb
        have p6_20 : Hid (RvAt X20 z6 56 #[.int .u64 0, .int .u32 0, .int .u64 0, .int .u16 0] ∧ W.heap.size ≤ z6) := ⟨by rw [← hN, ← hz]; exact RvAt.new _ _ _, by rw [← hz]; exact B1.out.size⟩
        clear bb
        go_simp
        clear hN hz
        clear hHeld
        refine hK.out _ _ ⟨⟨_, B20.out⟩, rfl⟩ (fun hHeld => ?_)
        clear hK K
        try simp only [Act.put, List.setIfInBounds_toArray, List.set_cons_zero, List.set_cons_succ]
        refine wpAnyH_ready (rs := [11, 12]) (by kernel_rfl) (by simp) ?_
        refine (AllReadyH.cons (o := { dst := some 19, op := Op.call { callee := Callee.value (Operand.func 48), args := #[Operand.tmp 14, Operand.tmp 16, Operand.tmp 18], argTypes := #[68, 3, 3] }, type := 56, pos := "span.go:196", after := #[{ on := 6, ground := Ground.data }, { on := 8, ground := Ground.data }, { on := 10, ground := Ground.data }, { on := 5, ground := Ground.chain }], guard := none }) rfl (fun K hK => ?_) (AllReadyH.cons (o := { dst := some 5, op := Op.alloc 56, type := 0, pos := "span.go:196", after := #[], guard := none }) rfl (fun K hK => ?_) AllReadyH.nil))
        · skip
          go_simp
          refine (CB.out X20 B20.out).mono ?_
          rintro _ X21 ⟨rfl, bb⟩
          have B21 : Hid (Below W.heap.size W X21) := below_over B20.out bb
          have p6_21 : Hid (RvAt X21 z6 56 #[.int .u64 0, .int .u32 0, .int .u64 0, .int .u16 0] ∧ W.heap.size ≤ z6) := ⟨p6_20.out.1.below bb, p6_20.out.2⟩
          clear bb
          clear hHeld
          refine hK.out _ _ ⟨⟨_, B21.out⟩, rfl⟩ (fun hHeld => ?_)
          clear hK K
          try simp only [Act.put, List.setIfInBounds_toArray, List.set_cons_zero, List.set_cons_succ]
          refine wpAnyH_ready (rs := [12]) (by kernel_rfl) (by simp) ?_
          refine AllReadyH.cons (o := { dst := some 5, op := Op.alloc 56, type := 0, pos := "span.go:196", after := #[], guard := none }) rfl (fun K hK => ?_) AllReadyH.nil
          obtain ⟨X22, hN⟩ : ∃ z, X21.alloc (.cells #[.int .u64 0, .int .u32 0, .int .u64 0, .int .u16 0] 56) = z := ⟨_, rfl⟩
          obtain ⟨z5, hz⟩ : ∃ z, X21.heap.size = z := ⟨_, rfl⟩
          have bb : Below X21.heap.size X21 X22 := by rw [← hN]; exact (Below.refl _ _).alloc (Nat.le_refl _) _
          have B22 : Hid (Below W.heap.size W X22) := below_over B21.out bb
          have p5_22 : Hid (RvAt X22 z5 56 #[.int .u64 0, .int .u32 0, .int .u64 0, .int .u16 0] ∧ W.heap.size ≤ z5) := ⟨by rw [← hN, ← hz]; exact RvAt.new _ _ _, by rw [← hz]; exact B21.out.size⟩
          have p6_22 : Hid (RvAt X22 z6 56 #[.int .u64 0, .int .u32 0, .int .u64 0, .int .u16 0] ∧ W.heap.size ≤ z6) := ⟨p6_21.out.1.below bb, p6_21.out.2⟩
          have NE : Hid (z6 ≠ z5) := by have := p6_21.out.1.lt; show _ ≠ _; omega
          clear bb
          go_simp
          clear hN hz
          clear hHeld
          refine hK.out _ _ ⟨⟨_, B22.out⟩, rfl⟩ (fun hHeld => ?_)
          clear hK K
          try simp only [Act.put, List.setIfInBounds_toArray, List.set_cons_zero, List.set_cons_succ]
          refine wpAnyH_ready (rs := [14]) (by kernel_rfl) (by simp) ?_
          refine AllReadyH.cons (o := { dst := none, op := Op.store 56 (Operand.tmp 5) (Operand.tmp 13), type := 0, pos := "span.go:196", after := #[{ on := 12, ground := Ground.data }, { on := 5, ground := Ground.data }, { on := 11, ground := Ground.chain }, { on := 0, ground := Ground.phase }, { on := 1, ground := Ground.phase }, { on := 2, ground := Ground.phase }, { on := 3, ground := Ground.phase }, { on := 4, ground := Ground.phase }, { on := 5, ground := Ground.phase }, { on := 6, ground := Ground.textOnly Departure.lateStores }, { on := 7, ground := Ground.textOnly Departure.lateStores }, { on := 8, ground := Ground.textOnly Departure.lateStores }, { on := 9, ground := Ground.textOnly Departure.lateStores }, { on := 10, ground := Ground.textOnly Departure.lateStores }, { on := 11, ground := Ground.textOnly Departure.lateStoresUnsure }, { on := 12, ground := Ground.phase }, { on := 13, ground := Ground.phase }], guard := none }) rfl (fun K hK => ?_) AllReadyH.nil
          have st23 := p5_22.out.1.st rtV (ds := (own).cs) rfl rfl (V4.one _)
          obtain ⟨X23, hN⟩ : ∃ z, X22.setRow z5 (own).cs = z := ⟨_, rfl⟩
          rw [hN] at st23
          have B23 : Hid (Below W.heap.size W X23) := by rw [← hN]; exact below_setRow B22.out p5_22.out.2 _
          have p5_23 : Hid (RvAt X23 z5 56 (own).cs ∧ W.heap.size ≤ z5) := ⟨by rw [← hN]; exact p5_22.out.1.set, p5_22.out.2⟩
          have p6_23 : Hid (RvAt X23 z6 56 #[.int .u64 0, .int .u32 0, .int .u64 0, .int .u16 0] ∧ W.heap.size ≤ z6) := ⟨by rw [← hN]; exact p6_22.out.1.keptBut (grown_row _ _ _) (fun e => by have := NE.out; simp only [Option.some.injEq] at e; omega), p6_22.out.2⟩
          go_simp
          clear hN st23
          clear hHeld
          refine hK.out _ _ ⟨⟨_, B23.out⟩, rfl⟩ (fun hHeld => ?_)
          clear hK K
          try simp only [Act.put, List.setIfInBounds_toArray, List.set_cons_zero, List.set_cons_succ]
          refine wpAnyH_ready (rs := [15]) (by kernel_rfl) (by simp) ?_
          refine AllReadyH.cons (o := { dst := none, op := Op.store 56 (Operand.tmp 6) (Operand.tmp 19), type := 0, pos := "span.go:196", after := #[{ on := 13, ground := Ground.data }, { on := 11, ground := Ground.data }, { on := 14, ground := Ground.chain }, { on := 0, ground := Ground.phase }, { on := 1, ground := Ground.phase }, { on := 2, ground := Ground.phase }, { on := 3, ground := Ground.phase }, { on := 4, ground := Ground.phase }, { on := 5, ground := Ground.phase }, { on := 6, ground := Ground.phase }, { on := 7, ground := Ground.phase }, { on := 8, ground := Ground.phase }, { on := 9, ground := Ground.phase }, { on := 10, ground := Ground.phase }, { on := 11, ground := Ground.phase }, { on := 12, ground := Ground.phase }, { on := 13, ground := Ground.phase }, { on := 14, ground := Ground.phase }], guard := none }) rfl (fun K hK => ?_) AllReadyH.nil
          have st24 := p6_23.out.1.st rtV (ds := (oth).cs) rfl rfl (V4.one _)
          obtain ⟨X24, hN⟩ : ∃ z, X23.setRow z6 (oth).cs = z := ⟨_, rfl⟩
          rw [hN] at st24
          have B24 : Hid (Below W.heap.size W X24) := by rw [← hN]; exact below_setRow B23.out p6_23.out.2 _
          have p6_24 : Hid (RvAt X24 z6 56 (oth).cs ∧ W.heap.size ≤ z6) := ⟨by rw [← hN]; exact p6_23.out.1.set, p6_23.out.2⟩
          have p5_24 : Hid (RvAt X24 z5 56 (own).cs ∧ W.heap.size ≤ z5) := ⟨by rw [← hN]; exact p5_23.out.1.keptBut (grown_row _ _ _) (fun e => by have := NE.out; simp only [Option.some.injEq] at e; omega), p5_23.out.2⟩
          go_simp
          clear hN st24
          clear hHeld
          refine hK.out _ _ ⟨⟨_, B24.out⟩, rfl⟩ (fun hHeld => ?_)
          clear hK K
          try simp only [Act.put, List.setIfInBounds_toArray, List.set_cons_zero, List.set_cons_succ]
          refine wpAnyH_done (by kernel_rfl) ?_ _
          refine NoPanic.normal ?_
          clear hHeld
          go_wp2_with fail
          go_meet
          exact ⟨z5, z6, rfl, rfl, p5_24.out.1, p6_24.out.1, B24.out⟩
        · skip
          obtain ⟨X25, hN⟩ : ∃ z, X20.alloc (.cells #[.int .u64 0, .int .u32 0, .int .u64 0, .int .u16 0] 56) = z := ⟨_, rfl⟩
          obtain ⟨z5, hz⟩ : ∃ z, X20.heap.size = z := ⟨_, rfl⟩
          have bb : Below X20.heap.size X20 X25 := by rw [← hN]; exact (Below.refl _ _).alloc (Nat.le_refl _) _
          have B25 : Hid (Below W.heap.size W X25) := below_over B20.out bb
          have p5_25 : Hid (RvAt X25 z5 56 #[.int .u64 0, .int .u32 0, .int .u64 0, .int .u16 0] ∧ W.heap.size ≤ z5) := ⟨by rw [← hN, ← hz]; exact RvAt.new _ _ _, by rw [← hz]; exact B20.out.size⟩
          have p6_25 : Hid (RvAt X25 z6 56 #[.int .u64 0, .int .u32 0, .int .u64 0, .int .u16 0] ∧ W.heap.size ≤ z6) := ⟨p6_20.out.1.below bb, p6_20.out.2⟩
          have NE : Hid (z6 ≠ z5) := by have := p6_20.out.1.lt; show _ ≠ _; omega
          clear bb
          go_simp
          clear hN hz
          clear hHeld
          refine hK.out _ _ ⟨⟨_, B25.out⟩, rfl⟩ (fun hHeld => ?_)
          clear hK K
          try simp only [Act.put, List.setIfInBounds_toArray, List.set_cons_zero, List.set_cons_succ]
          refine wpAnyH_ready (rs := [11]) (by kernel_rfl) (by simp) ?_
          refine AllReadyH.cons (o := { dst := some 19, op := Op.call { callee := Callee.value (Operand.func 48), args := #[Operand.tmp 14, Operand.tmp 16, Operand.tmp 18], argTypes := #[68, 3, 3] }, type := 56, pos := "span.go:196", after := #[{ on := 6, ground := Ground.data }, { on := 8, ground := Ground.data }, { on := 10, ground := Ground.data }, { on := 5, ground := Ground.chain }], guard := none }) rfl (fun K hK => ?_) AllReadyH.nil
          go_simp
          refine (CB.out X25 B25.out).mono ?_
          rintro _ X26 ⟨rfl, bb⟩
          have B26 : Hid (Below W.heap.size W X26) := below_over B25.out bb
          have p5_26 : Hid (RvAt X26 z5 56 #[.int .u64 0, .int .u32 0, .int .u64 0, .int .u16 0] ∧ W.heap.size ≤ z5) := ⟨p5_25.out.1.below bb, p5_25.out.2⟩
          have p6_26 : Hid (RvAt X26 z6 56 #[.int .u64 0, .int .u32 0, .int .u64 0, .int .u16 0] ∧ W.heap.size ≤ z6) := ⟨p6_25.out.1.below bb, p6_25.out.2⟩
          clear bb
          clear hHeld
          refine hK.out _ _ ⟨⟨_, B26.out⟩, rfl⟩ (fun hHeld => ?_)
          clear hK K
          try simp only [Act.put, List.setIfInBounds_toArray, List.set_cons_zero, List.set_cons_succ]
          refine wpAnyH_ready (rs := [14]) (by kernel_rfl) (by simp) ?_
          refine AllReadyH.cons (o := { dst := none, op := Op.store 56 (Operand.tmp 5) (Operand.tmp 13), type := 0, pos := "span.go:196", after := #[{ on := 12, ground := Ground.data }, { on := 5, ground := Ground.data }, { on := 11, ground := Ground.chain }, { on := 0, ground := Ground.phase }, { on := 1, ground := Ground.phase }, { on := 2, ground := Ground.phase }, { on := 3, ground := Ground.phase }, { on := 4, ground := Ground.phase }, { on := 5, ground := Ground.phase }, { on := 6, ground := Ground.textOnly Departure.lateStores }, { on := 7, ground := Ground.textOnly Departure.lateStores }, { on := 8, ground := Ground.textOnly Departure.lateStores }, { on := 9, ground := Ground.textOnly Departure.lateStores }, { on := 10, ground := Ground.textOnly Departure.lateStores }, { on := 11, ground := Ground.textOnly Departure.lateStoresUnsure }, { on := 12, ground := Ground.phase }, { on := 13, ground := Ground.phase }], guard := none }) rfl (fun K hK => ?_) AllReadyH.nil
          have st27 := p5_26.out.1.st rtV (ds := (own).cs) rfl rfl (V4.one _)
          obtain ⟨X27, hN⟩ : ∃ z, X26.setRow z5 (own).cs = z := ⟨_, rfl⟩
          rw [hN] at st27
          have B27 : Hid (Below W.heap.size W X27) := by rw [← hN]; exact below_setRow B26.out p5_26.out.2 _
          have p5_27 : Hid (RvAt X27 z5 56 (own).cs ∧ W.heap.size ≤ z5) := ⟨by rw [← hN]; exact p5_26.out.1.set, p5_26.out.2⟩
          have p6_27 : Hid (RvAt X27 z6 56 #[.int .u64 0, .int .u32 0, .int .u64 0, .int .u16 0] ∧ W.heap.size ≤ z6) := ⟨by rw [← hN]; exact p6_26.out.1.keptBut (grown_row _ _ _) (fun e => by have := NE.out; simp only [Option.some.injEq] at e; omega), p6_26.out.2⟩
          go_simp
          clear hN st27
          clear hHeld
          refine hK.out _ _ ⟨⟨_, B27.out⟩, rfl⟩ (fun hHeld => ?_)
          clear hK K
          try simp only [Act.put, List.setIfInBounds_toArray, List.set_cons_zero, List.set_cons_succ]
          refine wpAnyH_ready (rs := [15]) (by kernel_rfl) (by simp) ?_
          refine AllReadyH.cons (o := { dst := none, op := Op.store 56 (Operand.tmp 6) (Operand.tmp 19), type := 0, pos := "span.go:196", after := #[{ on := 13, ground := Ground.data }, { on := 11, ground := Ground.data }, { on := 14, ground := Ground.chain }, { on := 0, ground := Ground.phase }, { on := 1, ground := Ground.phase }, { on := 2, ground := Ground.phase }, { on := 3, ground := Ground.phase }, { on := 4, ground := Ground.phase }, { on := 5, ground := Ground.phase }, { on := 6, ground := Ground.phase }, { on := 7, ground := Ground.phase }, { on := 8, ground := Ground.phase }, { on := 9, ground := Ground.phase }, { on := 10, ground := Ground.phase }, { on := 11, ground := Ground.phase }, { on := 12, ground := Ground.phase }, { on := 13, ground := Ground.phase }, { on := 14, ground := Ground.phase }], guard := none }) rfl (fun K hK => ?_) AllReadyH.nil
          have st28 := p6_27.out.1.st rtV (ds := (oth).cs) rfl rfl (V4.one _)
          obtain ⟨X28, hN⟩ : ∃ z, X27.setRow z6 (oth).cs = z := ⟨_, rfl⟩
          rw [hN] at st28
          have B28 : Hid (Below W.heap.size W X28) := by rw [← hN]; exact below_setRow B27.out p6_27.out.2 _
          have p6_28 : Hid (RvAt X28 z6 56 (oth).cs ∧ W.heap.size ≤ z6) := ⟨by rw [← hN]; exact p6_27.out.1.set, p6_27.out.2⟩
          have p5_28 : Hid (RvAt X28 z5 56 (own).cs ∧ W.heap.size ≤ z5) := ⟨by rw [← hN]; exact p5_27.out.1.keptBut (grown_row _ _ _) (fun e => by have := NE.out; simp only [Option.some.injEq] at e; omega), p5_27.out.2⟩
          go_simp
          clear hN st28
          clear hHeld
          refine hK.out _ _ ⟨⟨_, B28.out⟩, rfl⟩ (fun hHeld => ?_)
          clear hK K
          try simp only [Act.put, List.setIfInBounds_toArray, List.set_cons_zero, List.set_cons_succ]
          refine wpAnyH_done (by kernel_rfl) ?_ _
          refine NoPanic.normal ?_
          clear hHeld
          go_wp2_with fail
          go_meet
          exact ⟨z5, z6, rfl, rfl, p5_28.out.1, p6_28.out.1, B28.out⟩
    · skip
      obtain ⟨X29, hN⟩ : ∃ z, X0.alloc (.cells #[.int .u64 0, .int .u32 0, .int .u64 0, .int .u16 0] 56) = z := ⟨_, rfl⟩
      obtain ⟨z5, hz⟩ : ∃ z, X0.heap.size = z := ⟨_, rfl⟩
      have bb : Below X0.heap.size X0 X29 := by rw [← hN]; exact (Below.refl _ _).alloc (Nat.le_refl _) _
      have B29 : Hid (Below W.heap.size W X29) := below_over B0.out bb
      have p5_29 : Hid (RvAt X29 z5 56 #[.int .u64 0, .int .u32 0, .int .u64 0, .int .u16 0] ∧ W.heap.size ≤ z5) := ⟨by rw [← hN, ← hz]; exact RvAt.new _ _ _, by rw [← hz]; exact B0.out.size⟩
      clear bb
      go_simp
      clear hN hz
      clear hHeld
      refine hK.out _ _ ⟨⟨_, B29.out⟩, rfl⟩ (fun hHeld => ?_)
      clear hK K
      try simp only [Act.put, List.setIfInBounds_toArray, List.set_cons_zero, List.set_cons_succ]
      refine wpAnyH_ready (rs := [5, 13]) (by kernel_rfl) (by simp) ?_
      refine (AllReadyH.cons (o := { dst := some 13, op := Op.call { callee := Callee.value (Operand.func 48), args := #[Operand.tmp 8, Operand.tmp 10, Operand.tmp 12], argTypes := #[68, 3, 3] }, type := 56, pos := "span.go:196", after := #[{ on := 0, ground := Ground.data }, { on := 2, ground := Ground.data }, { on := 4, ground := Ground.data }], guard := none }) rfl (fun K hK => ?_) (AllReadyH.cons (o := { dst := some 6, op := Op.alloc 56, type := 0, pos := "span.go:196", after := #[], guard := none }) rfl (fun K hK => ?_) AllReadyH.nil))
      · skip
        go_simp
        refine (CA.out X29 B29.out).mono ?_
        rintro _ X30 ⟨rfl, bb⟩
        have B30 : Hid (Below W.heap.size W X30) := below_over B29.out bb
        have p5_30 : Hid (RvAt X30 z5 56 #[.int .u64 0, .int .u32 0, .int .u64 0, .int .u16 0] ∧ W.heap.size ≤ z5) := ⟨p5_29.out.1.below bb, p5_29.out.2⟩
        clear bb
        clear hHeld
        refine hK.out _ _ ⟨⟨_, B30.out⟩, rfl⟩ (fun hHeld => ?_)
        clear hK K
        try simp only [Act.put, List.setIfInBounds_toArray, List.set_cons_zero, List.set_cons_succ]
        refine wpAnyH_ready (rs := [11, 13]) (by kernel_rfl) (by simp) ?_
        refine (AllReadyH.cons (o := { dst := some 19, op := Op.call { callee := Callee.value (Operand.func 48), args := #[Operand.tmp 14, Operand.tmp 16, Operand.tmp 18], argTypes := #[68, 3, 3] }, type := 56, pos := "span.go:196", after := #[{ on := 6, ground := Ground.data }, { on := 8, ground := Ground.data }, { on := 10, ground := Ground.data }, { on := 5, ground := Ground.chain }], guard := none }) rfl (fun K hK => ?_) (AllReadyH.cons (o := { dst := some 6, op := Op.alloc 56, type := 0, pos := "span.go:196", after := #[], guard := none }) rfl (fun K hK => ?_) AllReadyH.nil))
        · skip
          go_simp
          refine (CB.out X30 B30.out).mono ?_
          rintro _ X31 ⟨rfl, bb⟩
          have B31 : Hid (Below W.heap.size W X31) := below_over B30.out bb
          have p5_31 : Hid (RvAt X31 z5 56 #[.int .u64 0, .int .u32 0, .int .u64 0, .int .u16 0] ∧ W.heap.size ≤ z5) := ⟨p5_30.out.1.below bb, p5_30.out.2⟩
          clear bb
          clear hHeld
          refine hK.out _ _ ⟨⟨_, B31.out⟩, rfl⟩ (fun hHeld => ?_)
          clear hK K
          try simp only [Act.put, List.setIfInBounds_toArray, List.set_cons_zero, List.set_cons_succ]
          refine wpAnyH_ready (rs := [13]) (by kernel_rfl) (by simp) ?_
          refine AllReadyH.cons (o := { dst := some 6, op := Op.alloc 56, type := 0, pos := "span.go:196", after := #[], guard := none }) rfl (fun K hK => ?_) AllReadyH.nil
          obtain ⟨X32, hN⟩ : ∃ z, X31.alloc (.cells #[.int .u64 0, .int .u32 0, .int .u64 0, .int .u16 0] 56) = z := ⟨_, rfl⟩
          obtain ⟨z6, hz⟩ : ∃ z, X31.heap.size = z := ⟨_, rfl⟩
          have bb : Below X31.heap.size X31 X32 := by rw [← hN]; exact (Below.refl _ _).alloc (Nat.le_refl _) _
          have B32 : Hid (Below W.heap.size W X32) := below_over B31.out bb
          have p6_32 : Hid (RvAt X32 z6 56 #[.int .u64 0, .int .u32 0, .int .u64 0, .int .u16 0] ∧ W.heap.size ≤ z6) := ⟨by rw [← hN, ← hz]; exact RvAt.new _ _ _, by rw [← hz]; exact B31.out.size⟩
          have p5_32 : Hid (RvAt X32 z5 56 #[.int .u64 0, .int .u32 0, .int .u64 0, .int .u16 0] ∧ W.heap.size ≤ z5) := ⟨p5_31.out.1.below bb, p5_31.out.2⟩
          have NE : Hid (z5 ≠ z6) := by have := p5_31.out.1.lt; show _ ≠ _; omega
          clear bb
          go_simp
          clear hN hz
          clear hHeld
          refine hK.out _ _ ⟨⟨_, B32.out⟩, rfl⟩ (fun hHeld => ?_)
          clear hK K
          try simp only [Act.put, List.setIfInBounds_toArray, List.set_cons_zero, List.set_cons_succ]
          refine wpAnyH_ready (rs := [14]) (by kernel_rfl) (by simp) ?_
          refine AllReadyH.cons (o := { dst := none, op := Op.store 56 (Operand.tmp 5) (Operand.tmp 13), type := 0, pos := "span.go:196", after := #[{ on := 12, ground := Ground.data }, { on := 5, ground := Ground.data }, { on := 11, ground := Ground.chain }, { on := 0, ground := Ground.phase }, { on := 1, ground := Ground.phase }, { on := 2, ground := Ground.phase }, { on := 3, ground := Ground.phase }, { on := 4, ground := Ground.phase }, { on := 5, ground := Ground.phase }, { on := 6, ground := Ground.textOnly Departure.lateStores }, { on := 7, ground := Ground.textOnly Departure.lateStores }, { on := 8, ground := Ground.textOnly Departure.lateStores }, { on := 9, ground := Ground.textOnly Departure.lateStores }, { on := 10, ground := Ground.textOnly Departure.lateStores }, { on := 11, ground := Ground.textOnly Departure.lateStoresUnsure }, { on := 12, ground := Ground.phase }, { on := 13, ground := Ground.phase }], guard := none }) rfl (fun K hK => ?_) AllReadyH.nil
          have st33 := p5_32.out.1.st rtV (ds := (own).cs) rfl rfl (V4.one _)
          obtain ⟨X33, hN⟩ : ∃ z, X32.setRow z5 (own).cs = z := ⟨_, rfl⟩
          rw [hN] at st33
          have B33 : Hid (Below W.heap.size W X33) := by rw [← hN]; exact below_setRow B32.out p5_32.out.2 _
          have p5_33 : Hid (RvAt X33 z5 56 (own).cs ∧ W.heap.size ≤ z5) := ⟨by rw [← hN]; exact p5_32.out.1.set, p5_32.out.2⟩
          have p6_33 : Hid (RvAt X33 z6 56 #[.int .u64 0, .int .u32 0, .int .u64 0, .int .u16 0] ∧ W.heap.size ≤ z6) := ⟨by rw [← hN]; exact p6_32.out.1.keptBut (grown_row _ _ _) (fun e => by have := NE.out; simp only [Option.some.injEq] at e; omega), p6_32.out.2⟩
          go_simp
          clear hN st33
          clear hHeld
          refine hK.out _ _ ⟨⟨_, B33.out⟩, rfl⟩ (fun hHeld => ?_)
          clear hK K
          try simp only [Act.put, List.setIfInBounds_toArray, List.set_cons_zero, List.set_cons_succ]
          refine wpAnyH_ready (rs := [15]) (by kernel_rfl) (by simp) ?_
          refine AllReadyH.cons (o := { dst := none, op := Op.store 56 (Operand.tmp 6) (Operand.tmp 19), type := 0, pos := "span.go:196", after := #[{ on := 13, ground := Ground.data }, { on := 11, ground := Ground.data }, { on := 14, ground := Ground.chain }, { on := 0, ground := Ground.phase }, { on := 1, ground := Ground.phase }, { on := 2, ground := Ground.phase }, { on := 3, ground := Ground.phase }, { on := 4, ground := Ground.phase }, { on := 5, ground := Ground.phase }, { on := 6, ground := Ground.phase }, { on := 7, ground := Ground.phase }, { on := 8, ground := Ground.phase }, { on := 9, ground := Ground.phase }, { on := 10, ground := Ground.phase }, { on := 11, ground := Ground.phase }, { on := 12, ground := Ground.phase }, { on := 13, ground := Ground.phase }, { on := 14, ground := Ground.phase }], guard := none }) rfl (fun K hK => ?_) AllReadyH.nil
          have st34 := p6_33.out.1.st rtV (ds := (oth).cs) rfl rfl (V4.one _)
          obtain ⟨X34, hN⟩ : ∃ z, X33.setRow z6 (oth).cs = z := ⟨_, rfl⟩
          rw [hN] at st34
          have B34 : Hid (Below W.heap.size W X34) := by rw [← hN]; exact below_setRow B33.out p6_33.out.2 _
          have p6_34 : Hid (RvAt X34 z6 56 (oth).cs ∧ W.heap.size ≤ z6) := ⟨by rw [← hN]; exact p6_33.out.1.set, p6_33.out.2⟩
          have p5_34 : Hid (RvAt X34 z5 56 (own).cs ∧ W.heap.size ≤ z5) := ⟨by rw [← hN]; exact p5_33.out.1.keptBut (grown_row _ _ _) (fun e => by have := NE.out; simp only [Option.some.injEq] at e; omega), p5_33.out.2⟩
          go_simp
          clear hN st34
          clear hHeld
          refine hK.out _ _ ⟨⟨_, B34.out⟩, rfl⟩ (fun hHeld => ?_)
          clear hK K
          try simp only [Act.put, List.setIfInBounds_toArray, List.set_cons_zero, List.set_cons_succ]
          refine wpAnyH_done (by kernel_rfl) ?_ _
          refine NoPanic.normal ?_
          clear hHeld
          go_wp2_with fail
          go_meet
          exact ⟨z5, z6, rfl, rfl, p5_34.out.1, p6_34.out.1, B34.out⟩
        · skip
          obtain ⟨X35, hN⟩ : ∃ z, X30.alloc (.cells #[.int .u64 0, .int .u32 0, .int .u64 0, .int .u16 0] 56) = z := ⟨_, rfl⟩
          obtain ⟨z6, hz⟩ : ∃ z, X30.heap.size = z := ⟨_, rfl⟩
          have bb : Below X30.heap.size X30 X35 := by rw [← hN]; exact (Below.refl _ _).alloc (Nat.le_refl _) _
          have B35 : Hid (Below W.heap.size W X35) := below_over B30.out bb
          have p6_35 : Hid (RvAt X35 z6 56 #[.int .u64 0, .int .u32 0, .int .u64 0, .int .u16 0] ∧ W.heap.size ≤ z6) := ⟨by rw [← hN, ← hz]; exact RvAt.new _ _ _, by rw [← hz]; exact B30.out.size⟩
          have p5_35 : Hid (RvAt X35 z5 56 #[.int .u64 0, .int .u32 0, .int .u64 0, .int .u16 0] ∧ W.heap.size ≤ z5) := ⟨p5_30.out.1.below bb, p5_30.out.2⟩
          have NE : Hid (z5 ≠ z6) := by have := p5_30.out.1.lt; show _ ≠ _; omega
          clear bb
          go_simp
          clear hN hz
          clear hHeld
          refine hK.out _ _ ⟨⟨_, B35.out⟩, rfl⟩ (fun hHeld => ?_)
          clear hK K
          try simp only [Act.put, List.setIfInBounds_toArray, List.set_cons_zero, List.set_cons_succ]
          refine wpAnyH_ready (rs := [11]) (by kernel_rfl) (by simp) ?_
          refine AllReadyH.cons (o := { dst := some 19, op := Op.call { callee := Callee.value (Operand.func 48), args := #[Operand.tmp 14, Operand.tmp 16, Operand.tmp 18], argTypes := #[68, 3, 3] }, type := 56, pos := "span.go:196", after := #[{ on := 6, ground := Ground.data }, { on := 8, ground := Ground.data }, { on := 10, ground := Ground.data }, { on := 5, ground := Ground.chain }], guard := none }) rfl (fun K hK => ?_) AllReadyH.nil
          go_simp
          refine (CB.out X35 B35.out).mono ?_
          rintro _ X36 ⟨rfl, bb⟩
          have B36 : Hid (Below W.heap.size W X36) := below_over B35.out bb
          have p5_36 : Hid (RvAt X36 z5 56 #[.int .u64 0, .int .u32 0, .int .u64 0, .int .u16 0] ∧ W.heap.size ≤ z5) := ⟨p5_35.out.1.below bb, p5_35.out.2⟩
          have p6_36 : Hid (RvAt X36 z6 56 #[.int .u64 0, .int .u32 0, .int .u64 0, .int .u16 0] ∧ W.heap.size ≤ z6) := ⟨p6_35.out.1.below bb, p6_35.out.2⟩
          clear bb
          clear hHeld
          refine hK.out _ _ ⟨⟨_, B36.out⟩, rfl⟩ (fun hHeld => ?_)
          clear hK K
          try simp only [Act.put, List.setIfInBounds_toArray, List.set_cons_zero, List.set_cons_succ]
          refine wpAnyH_ready (rs := [14]) (by kernel_rfl) (by simp) ?_
          refine AllReadyH.cons (o := { dst := none, op := Op.store 56 (Operand.tmp 5) (Operand.tmp 13), type := 0, pos := "span.go:196", after := #[{ on := 12, ground := Ground.data }, { on := 5, ground := Ground.data }, { on := 11, ground := Ground.chain }, { on := 0, ground := Ground.phase }, { on := 1, ground := Ground.phase }, { on := 2, ground := Ground.phase }, { on := 3, ground := Ground.phase }, { on := 4, ground := Ground.phase }, { on := 5, ground := Ground.phase }, { on := 6, ground := Ground.textOnly Departure.lateStores }, { on := 7, ground := Ground.textOnly Departure.lateStores }, { on := 8, ground := Ground.textOnly Departure.lateStores }, { on := 9, ground := Ground.textOnly Departure.lateStores }, { on := 10, ground := Ground.textOnly Departure.lateStores }, { on := 11, ground := Ground.textOnly Departure.lateStoresUnsure }, { on := 12, ground := Ground.phase }, { on := 13, ground := Ground.phase }], guard := none }) rfl (fun K hK => ?_) AllReadyH.nil
          have st37 := p5_36.out.1.st rtV (ds := (own).cs) rfl rfl (V4.one _)
          obtain ⟨X37, hN⟩ : ∃ z, X36.setRow z5 (own).cs = z := ⟨_, rfl⟩
          rw [hN] at st37
          have B37 : Hid (Below W.heap.size W X37) := by rw [← hN]; exact below_setRow B36.out p5_36.out.2 _
          have p5_37 : Hid (RvAt X37 z5 56 (own).cs ∧ W.heap.size ≤ z5) := ⟨by rw [← hN]; exact p5_36.out.1.set, p5_36.out.2⟩
          have p6_37 : Hid (RvAt X37 z6 56 #[.int .u64 0, .int .u32 0, .int .u64 0, .int .u16 0] ∧ W.heap.size ≤ z6) := ⟨by rw [← hN]; exact p6_36.out.1.keptBut (grown_row _ _ _) (fun e => by have := NE.out; simp only [Option.some.injEq] at e; omega), p6_36.out.2⟩
          go_simp
          clear hN st37
          clear hHeld
          refine hK.out _ _ ⟨⟨_, B37.out⟩, rfl⟩ (fun hHeld => ?_)
          clear hK K
          try simp only [Act.put, List.setIfInBounds_toArray, List.set_cons_zero, List.set_cons_succ]
          refine wpAnyH_ready (rs := [15]) (by kernel_rfl) (by simp) ?_
          refine AllReadyH.cons (o := { dst := none, op := Op.store 56 (Operand.tmp 6) (Operand.tmp 19), type := 0, pos := "span.go:196", after := #[{ on := 13, ground := Ground.data }, { on := 11, ground := Ground.data }, { on := 14, ground := Ground.chain }, { on := 0, ground := Ground.phase }, { on := 1, ground := Ground.phase }, { on := 2, ground := Ground.phase }, { on := 3, ground := Ground.phase }, { on := 4, ground := Ground.phase }, { on := 5, ground := Ground.phase }, { on := 6, ground := Ground.phase }, { on := 7, ground := Ground.phase }, { on := 8, ground := Ground.phase }, { on := 9, ground := Ground.phase }, { on := 10, ground := Ground.phase }, { on := 11, ground := Ground.phase }, { on := 12, ground := Ground.phase }, { on := 13, ground := Ground.phase }, { on := 14, ground := Ground.phase }], guard := none }) rfl (fun K hK => ?_) AllReadyH.nil
          have st38 := p6_37.out.1.st rtV (ds := (oth).cs) rfl rfl (V4.one _)
          obtain ⟨X38, hN⟩ : ∃ z, X37.setRow z6 (oth).cs = z := ⟨_, rfl⟩
          rw [hN] at st38
          have B38 : Hid (Below W.heap.size W X38) := by rw [← hN]; exact below_setRow B37.out p6_37.out.2 _
          have p6_38 : Hid (RvAt X38 z6 56 (oth).cs ∧ W.heap.size ≤ z6) := ⟨by rw [← hN]; exact p6_37.out.1.set, p6_37.out.2⟩
          have p5_38 : Hid (RvAt X38 z5 56 (own).cs ∧ W.heap.size ≤ z5) := ⟨by rw [← hN]; exact p5_37.out.1.keptBut (grown_row _ _ _) (fun e => by have := NE.out; simp only [Option.some.injEq] at e; omega), p5_37.out.2⟩
          go_simp
          clear hN st38
          clear hHeld
          refine hK.out _ _ ⟨⟨_, B38.out⟩, rfl⟩ (fun hHeld => ?_)
          clear hK K
          try simp only [Act.put, List.setIfInBounds_toArray, List.set_cons_zero, List.set_cons_succ]
          refine wpAnyH_done (by kernel_rfl) ?_ _
          refine NoPanic.normal ?_
          clear hHeld
          go_wp2_with fail
          go_meet
          exact ⟨z5, z6, rfl, rfl, p5_38.out.1, p6_38.out.1, B38.out⟩
      · skip
        obtain ⟨X39, hN⟩ : ∃ z, X29.alloc (.cells #[.int .u64 0, .int .u32 0, .int .u64 0, .int .u16 0] 56) = z := ⟨_, rfl⟩
        obtain ⟨z6, hz⟩ : ∃ z, X29.heap.size = z := ⟨_, rfl⟩
        have bb : Below X29.heap.size X29 X39 := by rw [← hN]; exact (Below.refl _ _).alloc (Nat.le_refl _) _
        have B39 : Hid (Below W.heap.size W X39) := below_over B29.out bb
        have p6_39 : Hid (RvAt X39 z6 56 #[.int .u64 0, .int .u32 0, .int .u64 0, .int .u16 0] ∧ W.heap.size ≤ z6) := ⟨by rw [← hN, ← hz]; exact RvAt.new _ _ _, by rw [← hz]; exact B29.out.size⟩
        have p5_39 : Hid (RvAt X39 z5 56 #[.int .u64 0, .int .u32 0, .int .u64 0, .int .u16 0] ∧ W.heap.size ≤ z5) := ⟨p5_29.out.1.below bb, p5_29.out.2⟩
        have NE : Hid (z5 ≠ z6) := by have := p5_29.out.1.lt; show _ ≠ _; omega
        clear bb
        go_simp
        clear hN hz
        clear hHeld
        refine hK.out _ _ ⟨⟨_, B39.out⟩, rfl⟩ (fun hHeld => ?_)
        clear hK K
        try simp only [Act.put, List.setIfInBounds_toArray, List.set_cons_zero, List.set_cons_succ]
        refine wpAnyH_ready (rs := [5]) (by kernel_rfl) (by simp) ?_
        refine AllReadyH.cons (o := { dst := some 13, op := Op.call { callee := Callee.value (Operand.func 48), args := #[Operand.tmp 8, Operand.tmp 10, Operand.tmp 12], argTypes := #[68, 3, 3] }, type := 56, pos := "span.go:196", after := #[{ on := 0, ground := Ground.data }, { on := 2, ground := Ground.data }, { on := 4, ground := Ground.data }], guard := none }) rfl (fun K hK => ?_) AllReadyH.nil
        go_simp
        refine (CA.out X39 B39.out).mono ?_
        rintro _ X40 ⟨rfl, bb⟩
        have B40 : Hid (Below W.heap.size W X40) := below_over B39.out bb
        have p5_40 : Hid (RvAt X40 z5 56 #[.int .u64 0, .int .u32 0, .int .u64 0, .int .u16 0] ∧ W.heap.size ≤ z5) := ⟨p5_39.out.1.below bb, p5_39.out.2⟩
        have p6_40 : Hid (RvAt X40 z6 56 #[.int .u64 0, .int .u32 0, .int .u64 0, .int .u16 0] ∧ W.heap.size ≤ z6) := ⟨p6_39.out.1.below bb, p6_39.out.2⟩
        clear bb
        clear hHeld
        refine hK.out _ _ ⟨⟨_, B40.out⟩, rfl⟩ (fun hHeld => ?_)
        clear hK K
        try simp only [Act.put, List.setIfInBounds_toArray, List.set_cons_zero, List.set_cons_succ]
        refine wpAnyH_ready (rs := [11]) (by kernel_rfl) (by simp) ?_
        refine AllReadyH.cons (o := { dst := some 19, op := Op.call { callee := Callee.value (Operand.func 48), args := #[Operand.tmp 14, Operand.tmp 16, Operand.tmp 18], argTypes := #[68, 3, 3] }, type := 56, pos := "span.go:196", after := #[{ on := 6, ground := Ground.data }, { on := 8, ground := Ground.data }, { on := 10, ground := Ground.data }, { on := 5, ground := Ground.chain }], guard := none }) rfl (fun K hK => ?_) AllReadyH.nil
        go_simp
        refine (CB.out X40 B40.out).mono ?_
        rintro _ X41 ⟨rfl, bb⟩
        have B41 : Hid (Below W.heap.size W X41) := below_over B40.out bb
        have p5_41 : Hid (RvAt X41 z5 56 #[.int .u64 0, .int .u32 0, .int .u64 0, .int .u16 0] ∧ W.heap.size ≤ z5) := ⟨p5_40.out.1.below bb, p5_40.out.2⟩
        have p6_41 : Hid (RvAt X41 z6 56 #[.int .u64 0, .int .u32 0, .int .u64 0, .int .u16 0] ∧ W.heap.size ≤ z6) := ⟨p6_40.out.1.below bb, p6_40.out.2⟩
        clear bb
        clear hHeld
        refine hK.out _ _ ⟨⟨_, B41.out⟩, rfl⟩ (fun hHeld => ?_)
        clear hK K
        try simp only [Act.put, List.setIfInBounds_toArray, List.set_cons_zero, List.set_cons_succ]
        refine wpAnyH_ready (rs := [14]) (by kernel_rfl) (by simp) ?_
        refine AllReadyH.cons (o := { dst := none, op := Op.store 56 (Operand.tmp 5) (Operand.tmp 13), type := 0, pos := "span.go:196", after := #[{ on := 12, ground := Ground.data }, { on := 5, ground := Ground.data }, { on := 11, ground := Ground.chain }, { on := 0, ground := Ground.phase }, { on := 1, ground := Ground.phase }, { on := 2, ground := Ground.phase }, { on := 3, ground := Ground.phase }, { on := 4, ground := Ground.phase }, { on := 5, ground := Ground.phase }, { on := 6, ground := Ground.textOnly Departure.lateStores }, { on := 7, ground := Ground.textOnly Departure.lateStores }, { on := 8, ground := Ground.textOnly Departure.lateStores }, { on := 9, ground := Ground.textOnly Departure.lateStores }, { on := 10, ground := Ground.textOnly Departure.lateStores }, { on := 11, ground := Ground.textOnly Departure.lateStoresUnsure }, { on := 12, ground := Ground.phase }, { on := 13, ground := Ground.phase }], guard := none }) rfl (fun K hK => ?_) AllReadyH.nil
        have st42 := p5_41.out.1.st rtV (ds := (own).cs) rfl rfl (V4.one _)
        obtain ⟨X42, hN⟩ : ∃ z, X41.setRow z5 (own).cs = z := ⟨_, rfl⟩
        rw [hN] at st42
        have B42 : Hid (Below W.heap.size W X42) := by rw [← hN]; exact below_setRow B41.out p5_41.out.2 _
        have p5_42 : Hid (RvAt X42 z5 56 (own).cs ∧ W.heap.size ≤ z5) := ⟨by rw [← hN]; exact p5_41.out.1.set, p5_41.out.2⟩
        have p6_42 : Hid (RvAt X42 z6 56 #[.int .u64 0, .int .u32 0, .int .u64 0, .int .u16 0] ∧ W.heap.size ≤ z6) := ⟨by rw [← hN]; exact p6_41.out.1.keptBut (grown_row _ _ _) (fun e => by have := NE.out; simp only [Option.some.injEq] at e; omega), p6_41.out.2⟩
        go_simp
        clear hN st42
        clear hHeld
        refine hK.out _ _ ⟨⟨_, B42.out⟩, rfl⟩ (fun hHeld => ?_)
        clear hK K
        try simp only [Act.put, List.setIfInBounds_toArray, List.set_cons_zero, List.set_cons_succ]
        refine wpAnyH_ready (rs := [15]) (by kernel_rfl) (by simp) ?_
        refine AllReadyH.cons (o := { dst := none, op := Op.store 56 (Operand.tmp 6) (Operand.tmp 19), type := 0, pos := "span.go:196", after := #[{ on := 13, ground := Ground.data }, { on := 11, ground := Ground.data }, { on := 14, ground := Ground.chain }, { on := 0, ground := Ground.phase }, { on := 1, ground := Ground.phase }, { on := 2, ground := Ground.phase }, { on := 3, ground := Ground.phase }, { on := 4, ground := Ground.phase }, { on := 5, ground := Ground.phase }, { on := 6, ground := Ground.phase }, { on := 7, ground := Ground.phase }, { on := 8, ground := Ground.phase }, { on := 9, ground := Ground.phase }, { on := 10, ground := Ground.phase }, { on := 11, ground := Ground.phase }, { on := 12, ground := Ground.phase }, { on := 13, ground := Ground.phase }, { on := 14, ground := Ground.phase }], guard := none }) rfl (fun K hK => ?_) AllReadyH.nil
        have st43 := p6_42.out.1.st rtV (ds := (oth).cs) rfl rfl (V4.one _)
        obtain ⟨X43, hN⟩ : ∃ z, X42.setRow z6 (oth).cs = z := ⟨_, rfl⟩
        rw [hN] at st43
        have B43 : Hid (Below W.heap.size W X43) := by rw [← hN]; exact below_setRow B42.out p6_42.out.2 _
        have p6_43 : Hid (RvAt X43 z6 56 (oth).cs ∧ W.heap.size ≤ z6) := ⟨by rw [← hN]; exact p6_42.out.1.set, p6_42.out.2⟩
        have p5_43 : Hid (RvAt X43 z5 56 (own).cs ∧ W.heap.size ≤ z5) := ⟨by rw [← hN]; exact p5_42.out.1.keptBut (grown_row _ _ _) (fun e => by have := NE.out; simp only [Option.some.injEq] at e; omega), p5_42.out.2⟩
        go_simp
        clear hN st43
        clear hHeld
        refine hK.out _ _ ⟨⟨_, B43.out⟩, rfl⟩ (fun hHeld => ?_)
        clear hK K
        try simp only [Act.put, List.setIfInBounds_toArray, List.set_cons_zero, List.set_cons_succ]
        refine wpAnyH_done (by kernel_rfl) ?_ _
        refine NoPanic.normal ?_
        clear hHeld
        go_wp2_with fail
        go_meet
        exact ⟨z5, z6, rfl, rfl, p5_43.out.1, p6_43.out.1, B43.out⟩
    · skip
      obtain ⟨X44, hN⟩ : ∃ z, X0.alloc (.cells #[.int .u64 0, .int .u32 0, .int .u64 0, .int .u16 0] 56) = z := ⟨_, rfl⟩
      obtain ⟨z6, hz⟩ : ∃ z, X0.heap.size = z := ⟨_, rfl⟩
      have bb : Below X0.heap.size X0 X44 := by rw [← hN]; exact (Below.refl _ _).alloc (Nat.le_refl _) _
      have B44 : Hid (Below W.heap.size W X44) := below_over B0.out bb
      have p6_44 : Hid (RvAt X44 z6 56 #[.int .u64 0, .int .u32 0, .int .u64 0, .int .u16 0] ∧ W.heap.size ≤ z6) := ⟨by rw [← hN, ← hz]; exact RvAt.new _ _ _, by rw [← hz]; exact B0.out.size⟩
      clear bb
      go_simp
      clear hN hz
      clear hHeld
      refine hK.out _ _ ⟨⟨_, B44.out⟩, rfl⟩ (fun hHeld => ?_)
      clear hK K
      try simp only [Act.put, List.setIfInBounds_toArray, List.set_cons_zero, List.set_cons_succ]
      refine wpAnyH_ready (rs := [5, 12]) (by kernel_rfl) (by simp) ?_
      refine (AllReadyH.cons (o := { dst := some 13, op := Op.call { callee := Callee.value (Operand.func 48), args := #[Operand.tmp 8, Operand.tmp 10, Operand.tmp 12], argTypes := #[68, 3, 3] }, type := 56, pos := "span.go:196", after := #[{ on := 0, ground := Ground.data }, { on := 2, ground := Ground.data }, { on := 4, ground := Ground.data }], guard := none }) rfl (fun K hK => ?_) (AllReadyH.cons (o := { dst := some 5, op := Op.alloc 56, type := 0, pos := "span.go:196", after := #[], guard := none }) rfl (fun K hK => ?_) AllReadyH.nil))
      · skip
        go_simp
        refine (CA.out X44 B44.out).mono ?_
        rintro _ X45 ⟨rfl, bb⟩
        have B45 : Hid (Below W.heap.size W X45) := below_over B44.out bb
        have p6_45 : Hid (RvAt X45 z6 56 #[.int .u64 0, .int .u32 0, .int .u64 0, .int .u16 0] ∧ W.heap.size ≤ z6) := ⟨p6_44.out.1.below bb, p6_44.out.2⟩
        clear bb
        clear hHeld
        refine hK.out _ _ ⟨⟨_, B45.out⟩, rfl⟩ (fun hHeld => ?_)
        clear hK K
        try simp only [Act.put, List.setIfInBounds_toArray, List.set_cons_zero, List.set_cons_succ]
        refine wpAnyH_ready (rs := [11, 12]) (by kernel_rfl) (by simp) ?_
        refine (AllReadyH.cons (o := { dst := some 19, op := Op.call { callee := Callee.value (Operand.func 48), args := #[Operand.tmp 14, Operand.tmp 16, Operand.tmp 18], argTypes := #[68, 3, 3] }, type := 56, pos := "span.go:196", after := #[{ on := 6, ground := Ground.data }, { on := 8, ground := Ground.data }, { on := 10, ground := Ground.data }, { on := 5, ground := Ground.chain }], guard := none }) rfl (fun K hK => ?_) (AllReadyH.cons (o := { dst := some 5, op := Op.alloc 56, type := 0, pos := "span.go:196", after := #[], guard := none }) rfl (fun K hK => ?_) AllReadyH.nil))
        · skip
          go_simp
          refine (CB.out X45 B45.out).mono ?_
          rintro _ X46 ⟨rfl, bb⟩
          have B46 : Hid (Below W.heap.size W X46) := below_over B45.out bb
          have p6_46 : Hid (RvAt X46 z6 56 #[.int .u64 0, .int .u32 0, .int .u64 0, .int .u16 0] ∧ W.heap.size ≤ z6) := ⟨p6_45.out.1.below bb, p6_45.out.2⟩
          clear bb
          clear hHeld
          refine hK.out _ _ ⟨⟨_, B46.out⟩, rfl⟩ (fun hHeld => ?_)
          clear hK K
          try simp only [Act.put, List.setIfInBounds_toArray, List.set_cons_zero, List.set_cons_succ]
          refine wpAnyH_ready (rs := [12]) (by kernel_rfl) (by simp) ?_
          refine AllReadyH.cons (o := { dst := some 5, op := Op.alloc 56, type := 0, pos := "span.go:196", after := #[], guard := none }) rfl (fun K hK => ?_) AllReadyH.nil
          obtain ⟨X47, hN⟩ : ∃ z, X46.alloc (.cells #[.int .u64 0, .int .u32 0, .int .u64 0, .int .u16 0] 56) = z := ⟨_, rfl⟩
          obtain ⟨z5, hz⟩ : ∃ z, X46.heap.size = z := ⟨_, rfl⟩
          have bb : Below X46.heap.size X46 X47 := by rw [← hN]; exact (Below.refl _ _).alloc (Nat.le_refl _) _
          have B47 : Hid (Below W.heap.size W X47) := below_over B46.out bb
          have p5_47 : Hid (RvAt X47 z5 56 #[.int .u64 0, .int .u32 0, .int .u64 0, .int .u16 0] ∧ W.heap.size ≤ z5) := ⟨by rw [← hN, ← hz]; exact RvAt.new _ _ _, by rw [← hz]; exact B46.out.size⟩
          have p6_47 : Hid (RvAt X47 z6 56 #[.int .u64 0, .int .u32 0, .int .u64 0, .int .u16 0] ∧ W.heap.size ≤ z6) := ⟨p6_46.out.1.below bb, p6_46.out.2⟩
          have NE : Hid (z6 ≠ z5) := by have := p6_46.out.1.lt; show _ ≠ _; omega
          clear bb
          go_simp
          clear hN hz
          clear hHeld
          refine hK.out _ _ ⟨⟨_, B47.out⟩, rfl⟩ (fun hHeld => ?_)
          clear hK K
          try simp only [Act.put, List.setIfInBounds_toArray, List.set_cons_zero, List.set_cons_succ]
          refine wpAnyH_ready (rs := [14]) (by kernel_rfl) (by simp) ?_
          refine AllReadyH.cons (o := { dst := none, op := Op.store 56 (Operand.tmp 5) (Operand.tmp 13), type := 0, pos := "span.go:196", after := #[{ on := 12, ground := Ground.data }, { on := 5, ground := Ground.data }, { on := 11, ground := Ground.chain }, { on := 0, ground := Ground.phase }, { on := 1, ground := Ground.phase }, { on := 2, ground := Ground.phase }, { on := 3, ground := Ground.phase }, { on := 4, ground := Ground.phase }, { on := 5, ground := Ground.phase }, { on := 6, ground := Ground.textOnly Departure.lateStores }, { on := 7, ground := Ground.textOnly Departure.lateStores }, { on := 8, ground := Ground.textOnly Departure.lateStores }, { on := 9, ground := Ground.textOnly Departure.lateStores }, { on := 10, ground := Ground.textOnly Departure.lateStores }, { on := 11, ground := Ground.textOnly Departure.lateStoresUnsure }, { on := 12, ground := Ground.phase }, { on := 13, ground := Ground.phase }], guard := none }) rfl (fun K hK => ?_) AllReadyH.nil
          have st48 := p5_47.out.1.st rtV (ds := (own).cs) rfl rfl (V4.one _)
          obtain ⟨X48, hN⟩ : ∃ z, X47.setRow z5 (own).cs = z := ⟨_, rfl⟩
          rw [hN] at st48
          have B48 : Hid (Below W.heap.size W X48) := by rw [← hN]; exact below_setRow B47.out p5_47.out.2 _
          have p5_48 : Hid (RvAt X48 z5 56 (own).cs ∧ W.heap.size ≤ z5) := ⟨by rw [← hN]; exact p5_47.out.1.set, p5_47.out.2⟩
          have p6_48 : Hid (RvAt X48 z6 56 #[.int .u64 0, .int .u32 0, .int .u64 0, .int .u16 0] ∧ W.heap.size ≤ z6) := ⟨by rw [← hN]; exact p6_47.out.1.keptBut (grown_row _ _ _) (fun e => by have := NE.out; simp only [Option.some.injEq] at e; omega), p6_47.out.2⟩
          go_simp
          clear hN st48
          clear hHeld
          refine hK.out _ _ ⟨⟨_, B48.out⟩, rfl⟩ (fun hHeld => ?_)
          clear hK K
          try simp only [Act.put, List.setIfInBounds_toArray, List.set_cons_zero, List.set_cons_succ]
          refine wpAnyH_ready (rs := [15]) (by kernel_rfl) (by simp) ?_
          refine AllReadyH.cons (o := { dst := none, op := Op.store 56 (Operand.tmp 6) (Operand.tmp 19), type := 0, pos := "span.go:196", after := #[{ on := 13, ground := Ground.data }, { on := 11, ground := Ground.data }, { on := 14, ground := Ground.chain }, { on := 0, ground := Ground.phase }, { on := 1, ground := Ground.phase }, { on := 2, ground := Ground.phase }, { on := 3, ground := Ground.phase }, { on := 4, ground := Ground.phase }, { on := 5, ground := Ground.phase }, { on := 6, ground := Ground.phase }, { on := 7, ground := Ground.phase }, { on := 8, ground := Ground.phase }, { on := 9, ground := Ground.phase }, { on := 10, ground := Ground.phase }, { on := 11, ground := Ground.phase }, { on := 12, ground := Ground.phase }, { on := 13, ground := Ground.phase }, { on := 14, ground := Ground.phase }], guard := none }) rfl (fun K hK => ?_) AllReadyH.nil
          have st49 := p6_48.out.1.st rtV (ds := (oth).cs) rfl rfl (V4.one _)
          obtain ⟨X49, hN⟩ : ∃ z, X48.setRow z6 (oth).cs = z := ⟨_, rfl⟩
          rw [hN] at st49
          have B49 : Hid (Below W.heap.size W X49) := by rw [← hN]; exact below_setRow B48.out p6_48.out.2 _
          have p6_49 : Hid (RvAt X49 z6 56 (oth).cs ∧ W.heap.size ≤ z6) := ⟨by rw [← hN]; exact p6_48.out.1.set, p6_48.out.2⟩
          have p5_49 : Hid (RvAt X49 z5 56 (own).cs ∧ W.heap.size ≤ z5) := ⟨by rw [← hN]; exact p5_48.out.1.keptBut (grown_row _ _ _) (fun e => by have := NE.out; simp only [Option.some.injEq] at e; omega), p5_48.out.2⟩
          go_simp
          clear hN st49
          clear hHeld
          refine hK.out _ _ ⟨⟨_, B49.out⟩, rfl⟩ (fun hHeld => ?_)
          clear hK K
          try simp only [Act.put, List.setIfInBounds_toArray, List.set_cons_zero, List.set_cons_succ]
          refine wpAnyH_done (by kernel_rfl) ?_ _
          refine NoPanic.normal ?_
          clear hHeld
          go_wp2_with fail
          go_meet
          exact ⟨z5, z6, rfl, rfl, p5_49.out.1, p6_49.out.1, B49.out⟩
        · skip
          obtain ⟨X50, hN⟩ : ∃ z, X45.alloc (.cells #[.int .u64 0, .int .u32 0, .int .u64 0, .int .u16 0] 56) = z := ⟨_, rfl⟩
          obtain ⟨z5, hz⟩ : ∃ z, X45.heap.size = z := ⟨_, rfl⟩
          have bb : Below X45.heap.size X45 X50 := by rw [← hN]; exact (Below.refl _ _).alloc (Nat.le_refl _) _
          have B50 : Hid (Below W.heap.size W X50) := below_over B45.out bb
          have p5_50 : Hid (RvAt X50 z5 56 #[.int .u64 0, .int .u32 0, .int .u64 0, .int .u16 0] ∧ W.heap.size ≤ z5) := ⟨by rw [← hN, ← hz]; exact RvAt.new _ _ _, by rw [← hz]; exact B45.out.size⟩
          have p6_50 : Hid (RvAt X50 z6 56 #[.int .u64 0, .int .u32 0, .int .u64 0, .int .u16 0] ∧ W.heap.size ≤ z6) := ⟨p6_45.out.1.below bb, p6_45.out.2⟩
          have NE : Hid (z6 ≠ z5) := by have := p6_45.out.1.lt; show _ ≠ _; omega
          clear bb
          go_simp
          clear hN hz
          clear hHeld
          refine hK.out _ _ ⟨⟨_, B50.out⟩, rfl⟩ (fun hHeld => ?_)
          clear hK K
          try simp only [Act.put, List.setIfInBounds_toArray, List.set_cons_zero, List.set_cons_succ]
          refine wpAnyH_ready (rs := [11]) (by kernel_rfl) (by simp) ?_
          refine AllReadyH.cons (o := { dst := some 19, op := Op.call { callee := Callee.value (Operand.func 48), args := #[Operand.tmp 14, Operand.tmp 16, Operand.tmp 18], argTypes := #[68, 3, 3] }, type := 56, pos := "span.go:196", after := #[{ on := 6, ground := Ground.data }, { on := 8, ground := Ground.data }, { on := 10, ground := Ground.data }, { on := 5, ground := Ground.chain }], guard := none }) rfl (fun K hK => ?_) AllReadyH.nil
          go_simp
          refine (CB.out X50 B50.out).mono ?_
          rintro _ X51 ⟨rfl, bb⟩
          have B51 : Hid (Below W.heap.size W X51) := below_over B50.out bb
          have p5_51 : Hid (RvAt X51 z5 56 #[.int .u64 0, .int .u32 0, .int .u64 0, .int .u16 0] ∧ W.heap.size ≤ z5) := ⟨p5_50.out.1.below bb, p5_50.out.2⟩
          have p6_51 : Hid (RvAt X51 z6 56 #[.int .u64 0, .int .u32 0, .int .u64 0, .int .u16 0] ∧ W.heap.size ≤ z6) := ⟨p6_50.out.1.below bb, p6_50.out.2⟩
          clear bb
          clear hHeld
          refine hK.out _ _ ⟨⟨_, B51.out⟩, rfl⟩ (fun hHeld => ?_)
          clear hK K
          try simp only [Act.put, List.setIfInBounds_toArray, List.set_cons_zero, List.set_cons_succ]
          refine wpAnyH_ready (rs := [14]) (by kernel_rfl) (by simp) ?_
          refine AllReadyH.cons (o := { dst := none, op := Op.store 56 (Operand.tmp 5) (Operand.tmp 13), type := 0, pos := "span.go:196", after := #[{ on := 12, ground := Ground.data }, { on := 5, ground := Ground.data }, { on := 11, ground := Ground.chain }, { on := 0, ground := Ground.phase }, { on := 1, ground := Ground.phase }, { on := 2, ground := Ground.phase }, { on := 3, ground := Ground.phase }, { on := 4, ground := Ground.phase }, { on := 5, ground := Ground.phase }, { on := 6, ground := Ground.textOnly Departure.lateStores }, { on := 7, ground := Ground.textOnly Departure.lateStores }, { on := 8, ground := Ground.textOnly Departure.lateStores }, { on := 9, ground := Ground.textOnly Departure.lateStores }, { on := 10, ground := Ground.textOnly Departure.lateStores }, { on := 11, ground := Ground.textOnly Departure.lateStoresUnsure }, { on := 12, ground := Ground.phase }, { on := 13, ground := Ground.phase }], guard := none }) rfl (fun K hK => ?_) AllReadyH.nil
          have st52 := p5_51.out.1.st rtV (ds := (own).cs) rfl rfl (V4.one _)
          obtain ⟨X52, hN⟩ : ∃ z, X51.setRow z5 (own).cs = z := ⟨_, rfl⟩
          rw [hN] at st52
          have B52 : Hid (Below W.heap.size W X52) := by rw [← hN]; exact below_setRow B51.out p5_51.out.2 _
          have p5_52 : Hid (RvAt X52 z5 56 (own).cs ∧ W.heap.size ≤ z5) := ⟨by rw [← hN]; exact p5_51.out.1.set, p5_51.out.2⟩
          have p6_52 : Hid (RvAt X52 z6 56 #[.int .u64 0, .int .u32 0, .int .u64 0, .int .u16 0] ∧ W.heap.size ≤ z6) := ⟨by rw [← hN]; exact p6_51.out.1.keptBut (grown_row _ _ _) (fun e => by have := NE.out; simp only [Option.some.injEq] at e; omega), p6_51.out.2⟩
          go_simp
          clear hN st52
          clear hHeld
          refine hK.out _ _ ⟨⟨_, B52.out⟩, rfl⟩ (fun hHeld => ?_)
          clear hK K
          try simp only [Act.put, List.setIfInBounds_toArray, List.set_cons_zero, List.set_cons_succ]
          refine wpAnyH_ready (rs := [15]) (by kernel_rfl) (by simp) ?_
          refine AllReadyH.cons (o := { dst := none, op := Op.store 56 (Operand.tmp 6) (Operand.tmp 19), type := 0, pos := "span.go:196", after := #[{ on := 13, ground := Ground.data }, { on := 11, ground := Ground.data }, { on := 14, ground := Ground.chain }, { on := 0, ground := Ground.phase }, { on := 1, ground := Ground.phase }, { on := 2, ground := Ground.phase }, { on := 3, ground := Ground.phase }, { on := 4, ground := Ground.phase }, { on := 5, ground := Ground.phase }, { on := 6, ground := Ground.phase }, { on := 7, ground := Ground.phase }, { on := 8, ground := Ground.phase }, { on := 9, ground := Ground.phase }, { on := 10, ground := Ground.phase }, { on := 11, ground := Ground.phase }, { on := 12, ground := Ground.phase }, { on := 13, ground := Ground.phase }, { on := 14, ground := Ground.phase }], guard := none }) rfl (fun K hK => ?_) AllReadyH.nil
          have st53 := p6_52.out.1.st rtV (ds := (oth).cs) rfl rfl (V4.one _)
          obtain ⟨X53, hN⟩ : ∃ z, X52.setRow z6 (oth).cs = z := ⟨_, rfl⟩
          rw [hN] at st53
          have B53 : Hid (Below W.heap.size W X53) := by rw [← hN]; exact below_setRow B52.out p6_52.out.2 _
          have p6_53 : Hid (RvAt X53 z6 56 (oth).cs ∧ W.heap.size ≤ z6) := ⟨by rw [← hN]; exact p6_52.out.1.set, p6_52.out.2⟩
          have p5_53 : Hid (RvAt X53 z5 56 (own).cs ∧ W.heap.size ≤ z5) := ⟨by rw [← hN]; exact p5_52.out.1.keptBut (grown_row _ _ _) (fun e => by have := NE.out; simp only [Option.some.injEq] at e; omega), p5_52.out.2⟩
          go_simp
          clear hN st53
          clear hHeld
          refine hK.out _ _ ⟨⟨_, B53.out⟩, rfl⟩ (fun hHeld => ?_)
          clear hK K
          try simp only [Act.put, List.setIfInBounds_toArray, List.set_cons_zero, List.set_cons_succ]
          refine wpAnyH_done (by kernel_rfl) ?_ _
          refine NoPanic.normal ?_
          clear hHeld
          go_wp2_with fail
          go_meet
          exact ⟨z5, z6, rfl, rfl, p5_53.out.1, p6_53.out.1, B53.out⟩
      · skip
        obtain ⟨X54, hN⟩ : ∃ z, X44.alloc (.cells #[.int .u64 0, .int .u32 0, .int .u64 0, .int .u16 0] 56) = z := ⟨_, rfl⟩
        obtain ⟨z5, hz⟩ : ∃ z, X44.heap.size = z := ⟨_, rfl⟩
        have bb : Below X44.heap.size X44 X54 := by rw [← hN]; exact (Below.refl _ _).alloc (Nat.le_refl _) _
        have B54 : Hid (Below W.heap.size W X54) := below_over B44.out bb
        have p5_54 : Hid (RvAt X54 z5 56 #[.int .u64 0, .int .u32 0, .int .u64 0, .int .u16 0] ∧ W.heap.size ≤ z5) := ⟨by rw [← hN, ← hz]; exact RvAt.new _ _ _, by rw [← hz]; exact B44.out.size⟩
        have p6_54 : Hid (RvAt X54 z6 56 #[.int .u64 0, .int .u32 0, .int .u64 0, .int .u16 0] ∧ W.heap.size ≤ z6) := ⟨p6_44.out.1.below bb, p6_44.out.2⟩
        have NE : Hid (z6 ≠ z5) := by have := p6_44.out.1.lt; show _ ≠ _; omega
        clear bb
        go_simp
        clear hN hz
        clear hHeld
        refine hK.out _ _ ⟨⟨_, B54.out⟩, rfl⟩ (fun hHeld => ?_)
        clear hK K
        try simp only [Act.put, List.setIfInBounds_toArray, List.set_cons_zero, List.set_cons_succ]
        refine wpAnyH_ready (rs := [5]) (by kernel_rfl) (by simp) ?_
        refine AllReadyH.cons (o := { dst := some 13, op := Op.call { callee := Callee.value (Operand.func 48), args := #[Operand.tmp 8, Operand.tmp 10, Operand.tmp 12], argTypes := #[68, 3, 3] }, type := 56, pos := "span.go:196", after := #[{ on := 0, ground := Ground.data }, { on := 2, ground := Ground.data }, { on := 4, ground := Ground.data }], guard := none }) rfl (fun K hK => ?_) AllReadyH.nil
        go_simp
        refine (CA.out X54 B54.out).mono ?_
        rintro _ X55 ⟨rfl, bb⟩
        have B55 : Hid (Below W.heap.size W X55) := below_over B54.out bb
        have p5_55 : Hid (RvAt X55 z5 56 #[.int .u64 0, .int .u32 0, .int .u64 0, .int .u16 0] ∧ W.heap.size ≤ z5) := ⟨p5_54.out.1.below bb, p5_54.out.2⟩
        have p6_55 : Hid (RvAt X55 z6 56 #[.int .u64 0, .int .u32 0, .int .u64 0, .int .u16 0] ∧ W.heap.size ≤ z6) := ⟨p6_54.out.1.below bb, p6_54.out.2⟩
        clear bb
        clear hHeld
        refine hK.out _ _ ⟨⟨_, B55.out⟩, rfl⟩ (fun hHeld => ?_)
        clear hK K
        try simp only [Act.put, List.setIfInBounds_toArray, List.set_cons_zero, List.set_cons_succ]
        refine wpAnyH_ready (rs := [11]) (by kernel_rfl) (by simp) ?_
        refine AllReadyH.cons (o := { dst := some 19, op := Op.call { callee := Callee.value (Operand.func 48), args := #[Operand.tmp 14, Operand.tmp 16, Operand.tmp 18], argTypes := #[68, 3, 3] }, type := 56, pos := "span.go:196", after := #[{ on := 6, ground := Ground.data }, { on := 8, ground := Ground.data }, { on := 10, ground := Ground.data }, { on := 5, ground := Ground.chain }], guard := none }) rfl (fun K hK => ?_) AllReadyH.nil
        go_simp
        refine (CB.out X55 B55.out).mono ?_
        rintro _ X56 ⟨rfl, bb⟩
        have B56 : Hid (Below W.heap.size W X56) := below_over B55.out bb
        have p5_56 : Hid (RvAt X56 z5 56 #[.int .u64 0, .int .u32 0, .int .u64 0, .int .u16 0] ∧ W.heap.size ≤ z5) := ⟨p5_55.out.1.below bb, p5_55.out.2⟩
        have p6_56 : Hid (RvAt X56 z6 56 #[.int .u64 0, .int .u32 0, .int .u64 0, .int .u16 0] ∧ W.heap.size ≤ z6) := ⟨p6_55.out.1.below bb, p6_55.out.2⟩
        clear bb
        clear hHeld
        refine hK.out _ _ ⟨⟨_, B56.out⟩, rfl⟩ (fun hHeld => ?_)
        clear hK K
        try simp only [Act.put, List.setIfInBounds_toArray, List.set_cons_zero, List.set_cons_succ]
        refine wpAnyH_ready (rs := [14]) (by kernel_rfl) (by simp) ?_
        refine AllReadyH.cons (o := { dst := none, op := Op.store 56 (Operand.tmp 5) (Operand.tmp 13), type := 0, pos := "span.go:196", after := #[{ on := 12, ground := Ground.data }, { on := 5, ground := Ground.data }, { on := 11, ground := Ground.chain }, { on := 0, ground := Ground.phase }, { on := 1, ground := Ground.phase }, { on := 2, ground := Ground.phase }, { on := 3, ground := Ground.phase }, { on := 4, ground := Ground.phase }, { on := 5, ground := Ground.phase }, { on := 6, ground := Ground.textOnly Departure.lateStores }, { on := 7, ground := Ground.textOnly Departure.lateStores }, { on := 8, ground := Ground.textOnly Departure.lateStores }, { on := 9, ground := Ground.textOnly Departure.lateStores }, { on := 10, ground := Ground.textOnly Departure.lateStores }, { on := 11, ground := Ground.textOnly Departure.lateStoresUnsure }, { on := 12, ground := Ground.phase }, { on := 13, ground := Ground.phase }], guard := none }) rfl (fun K hK => ?_) AllReadyH.nil
        have st57 := p5_56.out.1.st rtV (ds := (own).cs) rfl rfl (V4.one _)
        obtain ⟨X57, hN⟩ : ∃ z, X56.setRow z5 (own).cs = z := ⟨_, rfl⟩
        rw [hN] at st57
        have B57 : Hid (Below W.heap.size W X57) := by rw [← hN]; exact below_setRow B56.out p5_56.out.2 _
        have p5_57 : Hid (RvAt X57 z5 56 (own).cs ∧ W.heap.size ≤ z5) := ⟨by rw [← hN]; exact p5_56.out.1.set, p5_56.out.2⟩
        have p6_57 : Hid (RvAt X57 z6 56 #[.int .u64 0, .int .u32 0, .int .u64 0, .int .u16 0] ∧ W.heap.size ≤ z6) := ⟨by rw [← hN]; exact p6_56.out.1.keptBut (grown_row _ _ _) (fun e => by have := NE.out; simp only [Option.some.injEq] at e; omega), p6_56.out.2⟩
        go_simp
        clear hN st57
        clear hHeld
        refine hK.out _ _ ⟨⟨_, B57.out⟩, rfl⟩ (fun hHeld => ?_)
        clear hK K
        try simp only [Act.put, List.setIfInBounds_toArray, List.set_cons_zero, List.set_cons_succ]
        refine wpAnyH_ready (rs := [15]) (by kernel_rfl) (by simp) ?_
        refine AllReadyH.cons (o := { dst := none, op := Op.store 56 (Operand.tmp 6) (Operand.tmp 19), type := 0, pos := "span.go:196", after := #[{ on := 13, ground := Ground.data }, { on := 11, ground := Ground.data }, { on := 14, ground := Ground.chain }, { on := 0, ground := Ground.phase }, { on := 1, ground := Ground.phase }, { on := 2, ground := Ground.phase }, { on := 3, ground := Ground.phase }, { on := 4, ground := Ground.phase }, { on := 5, ground := Ground.phase }, { on := 6, ground := Ground.phase }, { on := 7, ground := Ground.phase }, { on := 8, ground := Ground.phase }, { on := 9, ground := Ground.phase }, { on := 10, ground := Ground.phase }, { on := 11, ground := Ground.phase }, { on := 12, ground := Ground.phase }, { on := 13, ground := Ground.phase }, { on := 14, ground := Ground.phase }], guard := none }) rfl (fun K hK => ?_) AllReadyH.nil
        have st58 := p6_57.out.1.st rtV (ds := (oth).cs) rfl rfl (V4.one _)
        obtain ⟨X58, hN⟩ : ∃ z, X57.setRow z6 (oth).cs = z := ⟨_, rfl⟩
        rw [hN] at st58
        have B58 : Hid (Below W.heap.size W X58) := by rw [← hN]; exact below_setRow B57.out p6_57.out.2 _
        have p6_58 : Hid (RvAt X58 z6 56 (oth).cs ∧ W.heap.size ≤ z6) := ⟨by rw [← hN]; exact p6_57.out.1.set, p6_57.out.2⟩
        have p5_58 : Hid (RvAt X58 z5 56 (own).cs ∧ W.heap.size ≤ z5) := ⟨by rw [← hN]; exact p5_57.out.1.keptBut (grown_row _ _ _) (fun e => by have := NE.out; simp only [Option.some.injEq] at e; omega), p5_57.out.2⟩
        go_simp
        clear hN st58
        clear hHeld
        refine hK.out _ _ ⟨⟨_, B58.out⟩, rfl⟩ (fun hHeld => ?_)
        clear hK K
        try simp only [Act.put, List.setIfInBounds_toArray, List.set_cons_zero, List.set_cons_succ]
        refine wpAnyH_done (by kernel_rfl) ?_ _
        refine NoPanic.normal ?_
        clear hHeld
        go_wp2_with fail
        go_meet
        exact ⟨z5, z6, rfl, rfl, p5_58.out.1, p6_58.out.1, B58.out⟩
  case rest =>
    obtain ⟨z5, z6, rfl, rfl, q5, q6, bX⟩ := hcut
    have m0 := (H.out.2.2.1.below bX).m0
    have m1 := (H.out.2.2.1.below bX).m1
    have l6 := q6.ld rtV rfl
    have bd := bdX_is ⟨s.a, s.pa, 1, oth⟩ wc
    obtain ⟨V, sV, rV, bV⟩ := XvAt.put wc ⟨s.a, s.pa, 1, oth⟩
    have K : Hid (Below W.heap.size W V ∧ RvAt V z5 56 own.cs ∧ RvAt V z6 56 oth.cs ∧ RvAt V wc.heap.size 58 (En.mk s.a s.pa 1 oth).cs ∧ z5 < wc.heap.size ∧ W.heap.size ≤ wc.heap.size) := ⟨below_over bX bV, q5.below bV, q6.below bV, rV, q5.lt, bX.size⟩
    have k5 := K.out.2.1.ld rtV rfl
    have k6 := K.out.2.2.1.ld rtV rfl
    obtain ⟨z7, h7⟩ : ∃ z, wc.heap.size = z := ⟨_, rfl⟩
    rw [h7] at K sV
    clear q5 q6 bX rV bV CA CB
    go_wp2_with fail
    clear h7 bd sV m0 m1 l6
    refine (CT.out _).mono ?_
    rintro _ V1 ⟨rfl, b1⟩
    have K1 : Hid (Below W.heap.size W V1 ∧ RvAt V1 z5 56 own.cs ∧ RvAt V1 z7 58 (En.mk s.a s.pa 1 oth).cs ∧ z5 < z7 ∧ W.heap.size ≤ z7) := ⟨below_over K.out.1 b1, K.out.2.1.below b1, K.out.2.2.2.1.below b1, K.out.2.2.2.2.1, K.out.2.2.2.2.2⟩
    clear b1 K k5 k6
    have EN : Hid (∀ (U : World) (o : Int) (v : V4), Below W.heap.size W U → RvAt U z7 58 (En.mk s.a s.pa o v).cs → (rpOf ids L s.a = (s.pa : Int) → E = ⟨s.a, s.pa, 3, v⟩) → (rpOf ids L s.a ≠ (s.pa : Int) → E = ⟨s.a, s.pa, o, v⟩) → True) := fun _ _ _ _ _ _ _ => trivial
    clear EN
    cases hq : decide (vk own < vk oth)
    · have hq' : ¬ vk own < vk oth := of_decide_eq_false hq
      have x0 := fun q : Later V1 => (H.out.2.1.below (below_later K1.out.1 q)).cell 1 (.slice (some ⟨g, 0, none⟩) n c2) rfl
      have x1 := fun q : Later V1 => (H.out.2.2.1.below (below_later K1.out.1 q)).m0
      have x2 := fun q : Later V1 => (H.out.2.2.1.below (below_later K1.out.1 q)).m1
      have x3 := fun q : Later V1 => (H.out.1.below (below_later K1.out.1 q)).n2 T.out.2.1
      obtain ⟨rp, hrp⟩ : ∃ z, rpOf ids L s.a = z := ⟨_, rfl⟩
      rw [hrp] at x3 HE
      cases hr : (rp == (s.pa : Int))
      · have HE2 : Hid (E = ⟨s.a, s.pa, 1, oth⟩) := by
          have := HE.out
          rw [if_neg (by simpa using hr), if_neg hq', if_neg hq'] at this
          exact this
        clear HE
        go_wp2_with fail
        refine wp_region_later (by kernel_rfl) (by kernel_rfl) ?_
        repeat (go_big_quiet_step (first | exact rfl))
        refine wpQuiet_nil ?_
        intro _ hw'
        obtain ⟨q, rfl⟩ := hw'
        clear x0 x1 x2 x3
        have rX := K1.out.2.2.1.below q.below
        have lX := rX.ld rtX rfl
        have so := (H.out.2.2.2.1.below (below_later K1.out.1 q)).st rtX (ds := (En.mk s.a s.pa 1 oth).cs) rfl rfl (one_of rfl)
        have Zf : Hid (RvAt (q.val.setRow (w.heap.size + 2) (En.mk s.a s.pa 1 oth).cs) (w.heap.size + 2) 58 (En.mk s.a s.pa 1 oth).cs ∧ Below w.heap.size w (q.val.setRow (w.heap.size + 2) (En.mk s.a s.pa 1 oth).cs)) := ⟨(H.out.2.2.2.1.below (below_later K1.out.1 q)).set, below_setRow (below_over H.out.2.2.2.2.1 (below_later K1.out.1 q)) (by omega) _⟩
        clear rX
        go_wp2
        refine bodyPost_ret (results_row rtX Try.results39 _ _ _ _ rfl Zf.out.1 rfl) rfl ?_
        exact ⟨by rw [HE2.out], Zf.out.2⟩
      · have HE2 : Hid (E = ⟨s.a, s.pa, 3, oth⟩) := by
          have := HE.out
          rw [if_pos (by simpa using hr), if_neg hq'] at this
          exact this
        clear HE
        go_wp2_with fail
        refine wp_region_later (by kernel_rfl) (by kernel_rfl) ?_
        repeat (go_big_quiet_step (first | exact rfl))
        refine wpQuiet_nil ?_
        intro _ hw'
        obtain ⟨q, rfl⟩ := hw'
        clear x0 x1 x2 x3
        obtain ⟨U, sU, rU, gU⟩ := XvAt.setO (K1.out.2.2.1.below q.below) 3
        have lX := rU.ld rtX rfl
        have hz := K1.out.2.2.2.2
        have hz2 := H.out.2.2.2.2.2
        have oU := (H.out.2.2.2.1.below (below_later K1.out.1 q)).keptBut gU (fun e => by simp only [Option.some.injEq] at e; omega)
        have bU : Below w.heap.size w U := gro (below_over H.out.2.2.2.2.1 (below_later K1.out.1 q)) gU (by omega) (by have := (below_over H.out.2.2.2.2.1 (below_later K1.out.1 q)).size; omega)
        have so := oU.st rtX (ds := (En.mk s.a s.pa 3 oth).cs) rfl rfl (one_of rfl)
        have Zf : Hid (RvAt (U.setRow (w.heap.size + 2) (En.mk s.a s.pa 3 oth).cs) (w.heap.size + 2) 58 (En.mk s.a s.pa 3 oth).cs ∧ Below w.heap.size w (U.setRow (w.heap.size + 2) (En.mk s.a s.pa 3 oth).cs)) := ⟨oU.set, below_setRow bU (by omega) _⟩
        clear rU gU oU bU hz hz2
        go_wp2
        refine bodyPost_ret (results_row rtX Try.results39 _ _ _ _ rfl Zf.out.1 rfl) rfl ?_
        exact ⟨by rw [HE2.out], Zf.out.2⟩
    · have hq' : vk own < vk oth := of_decide_eq_true hq
      go_wp2_with fail
      obtain ⟨X0, hX0⟩ : ∃ X0, World.drew V1 = X0 := ⟨_, rfl⟩
      have B0 : Hid (Below V1.heap.size V1 X0) := by rw [← hX0]; exact (Below.refl _ _).drew
      obtain ⟨X1, t1, xR1, xG1⟩ := XvAt.setO (K1.out.2.2.1.below B0.out) 4
      obtain ⟨X2, t2, xR2, xG2⟩ := XvAt.putV xR1 own
      have K2 : Hid (Below W.heap.size W X2 ∧ RvAt X2 z7 58 (En.mk s.a s.pa 4 own).cs ∧ RvAt X1 z5 56 own.cs ∧ RvAt X2 z5 56 own.cs) := by
        have hz := K1.out.2.2.2.2
        have hz5 := K1.out.2.2.2.1
        have k0 := below_over K1.out.1 B0.out
        have k1 := gro k0 xG1 hz k0.size
        have p1 := (K1.out.2.1.below B0.out).keptBut xG1 (fun e => by simp only [Option.some.injEq] at e; omega)
        exact ⟨gro k1 xG2 hz k1.size, xR2, p1, p1.keptBut xG2 (fun e => by simp only [Option.some.injEq] at e; omega)⟩
      clear xR1 xG1 xR2 xG2
      refine wp_region_noPanic ?_
      refine wp_region_held_drew (S := fun w' => RvAt w' z5 56 own.cs) (by kernel_rfl) (by rw [hX0]; exact K1.out.2.1.below B0.out) (fun hHeld => ?_)
      rw [hX0] at hHeld ⊢
      clear hX0
      refine wpAnyH_take (i := 0) (oi := { dst := some 29, op := Op.load 56 (Operand.tmp 5), type := 56, pos := "span.go:199", after := #[{ on := 2, ground := Ground.gcOnly Departure.lateStores }], guard := none }) (v := ?_) rfl (by kernel_rfl) (by kernel_rfl) (by kernel_rfl) (fun _ _ _ h => h) (Or.inl ⟨by rfl, ?_⟩) hHeld ?_
      rotate_left
      · intro W_ hSw_
        have fl := hSw_.ld rtV rfl; clear hSw_
        first | (go_simp; done) | (go_simp; with_reducible rfl)
      rotate_left
      try simp only [Act.put, List.setIfInBounds_toArray, List.set_cons_zero, List.set_cons_succ]
      refine wpAnyH_take (i := 1) (oi := { dst := some 30, op := Op.fieldAddr 58 (Operand.tmp 7) 2, type := 0, pos := "span.go:199", after := #[{ on := 0, ground := Ground.textOnly Departure.lateStores }], guard := none }) (v := ?_) rfl (by kernel_rfl) (by kernel_rfl) (by kernel_rfl) (fun _ _ _ h => h) (Or.inl ⟨by rfl, ?_⟩) hHeld ?_
      rotate_left
      · intro W_ hSw_
        have fl := hSw_.ld rtV rfl; clear hSw_
        first | (go_simp; done) | (go_simp; with_reducible rfl)
      rotate_left
      try simp only [Act.put, List.setIfInBounds_toArray, List.set_cons_zero, List.set_cons_succ]
      refine wpAnyH_ready (rs := [2]) (by kernel_rfl) (by simp) ?_
      refine AllReadyH.cons (o := { dst := none, op := Op.store 52 (Operand.tmp 30) (Operand.const (Value.int IntKind.i64 4)), type := 0, pos := "span.go:199", after := #[{ on := 1, ground := Ground.data }, { on := 0, ground := Ground.textOnly Departure.lateStores }], guard := none }) rfl (fun K hK => ?_) AllReadyH.nil
      go_simp
      clear hHeld
      refine hK.out _ _ K2.out.2.2.1 (fun hHeld => ?_)
      clear hK K
      try simp only [Act.put, List.setIfInBounds_toArray, List.set_cons_zero, List.set_cons_succ]
      refine wpAnyH_take (i := 3) (oi := { dst := some 31, op := Op.fieldAddr 58 (Operand.tmp 7) 3, type := 0, pos := "span.go:199", after := #[{ on := 0, ground := Ground.phase }, { on := 1, ground := Ground.phase }, { on := 2, ground := Ground.phase }], guard := none }) (v := ?_) rfl (by kernel_rfl) (by kernel_rfl) (by kernel_rfl) (fun _ _ _ h => h) (Or.inl ⟨by rfl, ?_⟩) hHeld ?_
      rotate_left
      · intro W_ hSw_
        have fl := hSw_.ld rtV rfl; clear hSw_
        first | (go_simp; done) | (go_simp; with_reducible rfl)
      rotate_left
      try simp only [Act.put, List.setIfInBounds_toArray, List.set_cons_zero, List.set_cons_succ]
      refine wpAnyH_ready (rs := [4]) (by kernel_rfl) (by simp) ?_
      refine AllReadyH.cons (o := { dst := none, op := Op.store 56 (Operand.tmp 31) (Operand.tmp 29), type := 0, pos := "span.go:199", after := #[{ on := 3, ground := Ground.data }, { on := 0, ground := Ground.data }, { on := 2, ground := Ground.chain }, { on := 0, ground := Ground.phase }, { on := 1, ground := Ground.phase }, { on := 2, ground := Ground.phase }], guard := none }) rfl (fun K hK => ?_) AllReadyH.nil
      go_simp
      clear hHeld
      refine hK.out _ _ K2.out.2.2.2 (fun hHeld => ?_)
      clear hK K
      try simp only [Act.put, List.setIfInBounds_toArray, List.set_cons_zero, List.set_cons_succ]
      refine wpAnyH_done (by kernel_rfl) ?_ _
      refine NoPanic.normal ?_
      clear hHeld
      clear t1 t2
      have x0 := fun q : Later X2 => (H.out.2.1.below (below_later K2.out.1 q)).cell 1 (.slice (some ⟨g, 0, none⟩) n c2) rfl
      have x1 := fun q : Later X2 => (H.out.2.2.1.below (below_later K2.out.1 q)).m0
      have x2 := fun q : Later X2 => (H.out.2.2.1.below (below_later K2.out.1 q)).m1
      have x3 := fun q : Later X2 => (H.out.1.below (below_later K2.out.1 q)).n2 T.out.2.1
      obtain ⟨rp, hrp⟩ : ∃ z, rpOf ids L s.a = z := ⟨_, rfl⟩
      rw [hrp] at x3 HE
      cases hr : (rp == (s.pa : Int))
      · have HE2 : Hid (E = ⟨s.a, s.pa, 4, own⟩) := by
          have := HE.out
          rw [if_neg (by simpa using hr), if_pos hq', if_pos hq'] at this
          exact this
        clear HE
        go_wp2_with fail
        refine wp_region_later (by kernel_rfl) (by kernel_rfl) ?_
        repeat (go_big_quiet_step (first | exact rfl))
        refine wpQuiet_nil ?_
        intro _ hw'
        obtain ⟨q, rfl⟩ := hw'
        clear x0 x1 x2 x3
        have rX := K2.out.2.1.below q.below
        have lX := rX.ld rtX rfl
        have so := (H.out.2.2.2.1.below (below_later K2.out.1 q)).st rtX (ds := (En.mk s.a s.pa 4 own).cs) rfl rfl (one_of rfl)
        have Zf : Hid (RvAt (q.val.setRow (w.heap.size + 2) (En.mk s.a s.pa 4 own).cs) (w.heap.size + 2) 58 (En.mk s.a s.pa 4 own).cs ∧ Below w.heap.size w (q.val.setRow (w.heap.size + 2) (En.mk s.a s.pa 4 own).cs)) := ⟨(H.out.2.2.2.1.below (below_later K2.out.1 q)).set, below_setRow (below_over H.out.2.2.2.2.1 (below_later K2.out.1 q)) (by omega) _⟩
        clear rX
        go_wp2
        refine bodyPost_ret (results_row rtX Try.results39 _ _ _ _ rfl Zf.out.1 rfl) rfl ?_
        exact ⟨by rw [HE2.out], Zf.out.2⟩
      · have HE2 : Hid (E = ⟨s.a, s.pa, 3, own⟩) := by
          have := HE.out
          rw [if_pos (by simpa using hr), if_pos hq'] at this
          exact this
        clear HE
        go_wp2_with fail
        refine wp_region_later (by kernel_rfl) (by kernel_rfl) ?_
        repeat (go_big_quiet_step (first | exact rfl))
        refine wpQuiet_nil ?_
        intro _ hw'
        obtain ⟨q, rfl⟩ := hw'
        clear x0 x1 x2 x3
        obtain ⟨U, sU, rU, gU⟩ := XvAt.setO (K2.out.2.1.below q.below) 3
        have lX := rU.ld rtX rfl
        have hz := K1.out.2.2.2.2
        have hz2 := H.out.2.2.2.2.2
        have oU := (H.out.2.2.2.1.below (below_later K2.out.1 q)).keptBut gU (fun e => by simp only [Option.some.injEq] at e; omega)
        have bU : Below w.heap.size w U := gro (below_over H.out.2.2.2.2.1 (below_later K2.out.1 q)) gU (by omega) (by have := (below_over H.out.2.2.2.2.1 (below_later K2.out.1 q)).size; omega)
        have so := oU.st rtX (ds := (En.mk s.a s.pa 3 own).cs) rfl rfl (one_of rfl)
        have Zf : Hid (RvAt (U.setRow (w.heap.size + 2) (En.mk s.a s.pa 3 own).cs) (w.heap.size + 2) 58 (En.mk s.a s.pa 3 own).cs ∧ Below w.heap.size w (U.setRow (w.heap.size + 2) (En.mk s.a s.pa 3 own).cs)) := ⟨oU.set, below_setRow bU (by omega) _⟩
        clear rU gU oU bU hz hz2
        go_wp2
        refine bodyPost_ret (results_row rtX Try.results39 _ _ _ _ rfl Zf.out.1 rfl) rfl ?_
        exact ⟨by rw [HE2.out], Zf.out.2⟩
theorem fdX (x : En) (w : World) : (Instr.field 58 (.agg x.cs) 2).run Try.prog w = .ok (.int .i64 x.o) w := by kernel_rfl
attribute [local go_sem ↓] stE
set_option maxHeartbeats 4000000 in
theorem carries_any (a : Option Addr) (n c g c2 : Nat) (ids : List Nat) (L : List Ne) (i : Nat) (x : Ne) (w : World) (h : TQ w a n c g c2 ids L (rpOf ids L)) (hx : L[i]? = some x) :
    Calls Try.prog 40 #[.agg (tre a n c g c2), .agg x.eg.cs] w fun r w' => r = .returned (.bool (carB ids L x)) ∧ Below w.heap.size w w' := by
  obtain ⟨W, hW, r0, r1, bW⟩ : ∃ W, (w.alloc (.cells (tre a n c g c2) 68)).alloc (.cells x.eg.cs 50) = W ∧ RvAt W w.heap.size 68 (tre a n c g c2) ∧ EvAt W (w.heap.size + 1) x.eg ∧ Below w.heap.size w W :=
    ⟨_, rfl, RvAt.below (RvAt.new w _ _) ((Below.refl _ _).alloc (Nat.le_refl _) _), by have := RvAt.new (w.alloc (.cells (tre a n c g c2) 68)) 50 x.eg.cs; unfold EvAt; simpa using this, ((Below.refl _ _).alloc (Nat.le_refl _) _).alloc (by simp) _⟩
  have l1 := r1.ld
  have H : Hid (TQ W a n c g c2 ids L (rpOf ids L) ∧ RvAt W w.heap.size 68 (tre a n c g c2) ∧ Below w.heap.size w W ∧ L[i]? = some x) := ⟨h.below bW, r0, bW, hx⟩
  clear h hx r0 r1 bW
  go_enter Try.func40, Try.ntmps40
  go_wp2_with fail
  refine (sides_any x.eg W).mono ?_
  rintro _ W1 ⟨rfl, b1⟩
  have H1 : Hid (Below W.heap.size W W1) := b1
  clear l1 b1 hW
  go_wp2_with fail
  go_loopw [9] (fun v9 wr => ∃ j : Nat, j ≤ 2 ∧ v9 = .int .i64 j ∧ (∀ t, t < j → roleOf ids L (sdN x t) ≠ 1) ∧ Below W.heap.size W wr) (fun v9 _ => 2 - (intOf v9).toNat)
  case atStart => exact ⟨0, by omega, rfl, fun t ht => by omega, H1.out⟩
  case round =>
    obtain ⟨j, hj, rfl, hlow, hB⟩ := hrel
    have J : Hid ((∀ t, t < j → roleOf ids L (sdN x t) ≠ 1) ∧ Below W.heap.size W wr) := ⟨hlow, hB⟩
    have hj0 : (0 : Int) ≤ (j : Int) := by omega
    by_cases hj2 : j < 2
    · have hj1 : (j : Int) < 2 := by omega
      have ix := ixB x.eg j hj2
      rw [← sdN_eg] at ix
      have hsm := sdl_mem H.out.2.2.2 hj2
      obtain ⟨s, hs⟩ : ∃ s, sdN x j = s := ⟨_, rfl⟩
      rw [hs] at ix hsm
      obtain ⟨V, sV, vE, bV⟩ := EvAt.put wr s.eg
      have lv := vE.ld
      have lt := ((H.out.2.1.below hB).below bV).ld rtT rfl
      have K : Hid (Below W.heap.size W V ∧ sdN x j = s ∧ s ∈ sdl L) := ⟨below_over hB bV, hs, hsm⟩
      clear hlow hB vE bV hs hsm
      go_wp2_with fail
      refine (end_any a n c g c2 ids L s V (H.out.1.below K.out.1) K.out.2.2).mono ?_
      rintro _ V1 ⟨rfl, b1⟩
      have K1 : Hid (Below W.heap.size W V1) := below_over K.out.1 b1
      have fd := fdX (endOf ids L s) V1
      rw [show (endOf ids L s).o = roleOf ids L s from rfl] at fd
      clear b1
      obtain ⟨o, ho⟩ : ∃ z, roleOf ids L s = z := ⟨_, rfl⟩
      rw [ho] at fd
      have HO : Hid (roleOf ids L s = o) := ho
      clear ho
      cases hq : (o == 1)
      · have NX : Hid (∀ t, t < j + 1 → roleOf ids L (sdN x t) ≠ 1) := fun t ht => by
          by_cases e : t = j
          · rw [e, K.out.2.1, HO.out]
            simpa using hq
          · exact J.out.1 t (by omega)
        go_wp2
        go_roundw
        case rel => exact ⟨j + 1, by omega, by go_num, NX.out, K1.out⟩
        case measure => simp [intOf]; omega
      · have NO : Hid (carB ids L x = false) := by
          have e1 : roleOf ids L s = 1 := by rw [HO.out]; simpa using hq
          show _ = _
          unfold carB
          match j, hj2, K.out.2.1 with
          | 0, _, e => rw [show x = s from e, e1]; rfl
          | 1, _, e => rw [show x.turn = s from e, e1]; simp
        go_wp2
        go_ret
        exact ⟨by rw [NO.out]; rfl, below_over H.out.2.2.1 K1.out⟩
    · have hjj : j = 2 := by omega
      subst hjj
      have YS : Hid (carB ids L x = true) := by
        show _ = _
        unfold carB
        have h0 := hlow 0 (by omega)
        have h1 := hlow 1 (by omega)
        rw [show sdN x 0 = x from rfl] at h0
        rw [show sdN x 1 = x.turn from rfl] at h1
        simp [h0, h1]
      clear hlow hB
      go_wp2
      go_ret
      exact ⟨by rw [YS.out]; rfl, below_over H.out.2.2.1 J.out.2⟩
end Go.Proofs.Ytcagdfdhpbeolaa
