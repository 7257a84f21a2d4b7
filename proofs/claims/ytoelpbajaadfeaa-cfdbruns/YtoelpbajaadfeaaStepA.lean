/-
  A call on both: Age, Gone.
-/
import Derived.Test.YtoelpbajaadfeaaBoth
namespace Go.Proofs.Ytoelpbajaadfeaa
set_option linter.unusedVariables false
set_option maxRecDepth 4000
set_option linter.unusedSimpArgs false
open Go.RowKit

attribute [local go_sem ↓] ldK stK ldM stM ldP stP ldE stE apE ldR stR ldO stO
set_option maxHeartbeats 8000000 in
theorem step_age (w X : World) (q p b : Nat) (c : Cf) (l : List En) (a : Option Addr) (k : Nat) (o : Oq) (h : St w X q p b c l l a k) (ho : o.wf) (hr : o.act.tmod 8 = 4) :
    Calls Try.prog 11 #[.pointer (some ⟨q, 0, none⟩), .agg o.cs] X fun r X' => r = .returned (.bool true) ∧ ∃ p' b' a' k', St w X' q p' b' c (stepS c l o) (stepS c l o) a' k' := by
  obtain ⟨W, hW⟩ : ∃ W, X.alloc (.cells o.cs 40) = W := ⟨_, rfl⟩
  have bW : Below X.heap.size X W := by rw [← hW]; exact (Below.refl _ _).alloc (Nat.le_refl _) _
  have rv : RvAt W X.heap.size 40 o.cs := by rw [← hW]; exact RvAt.new _ _ _
  have c0 := rv.cell 0 (.int .u8 o.act) rfl
  have f0 := fun z : Later W => ((h.below bW).bo.below z.below).c0
  have g1 := fun z : Later W => (rv.below z.below).cell 1 (.int .i64 o.isid) rfl
  have g2 := fun z : Later W => (rv.below z.below).cell 2 (.int .i64 o.other) rfl
  have g15 := fun z : Later W => (rv.below z.below).cell 15 (.int .i64 o.tick) rfl
  have gc := fun z : Later W => (rv.below z.below).ocmac
  have gb := fun z : Later W => (rv.below z.below).obmac
  have H : Hid (St w X q p b c l l a k ∧ o.wf ∧ St w W q p b c l l a k ∧ RvAt W X.heap.size 40 o.cs) := ⟨h, ho, h.below bW, rv⟩
  clear h ho bW rv
  go_enter Try.func11, Try.ntmps11
  obtain ⟨lr, hlr⟩ : ∃ lr, remS l (ageSh c.age o.tick) = lr := ⟨_, rfl⟩
  have hE : Hid (stepS c l o = lr.1) := show _ = _ by
    unfold stepS
    rw [← hlr]
    simp [hr]
  go_wp2_with fail
  refine wp_region_later_tail 6 (by kernel_rfl) (by kernel_rfl) ?_
  simp only [List.take_succ_cons, List.take_zero]
  repeat (go_big_quiet_step (first | exact rfl))
  refine wpQuiet_nil ?_
  intro u
  simp only [List.drop_succ_cons, List.drop_zero]
  have HU : Hid (St w u.val q p b c l l a k ∧ RvAt u.val X.heap.size 40 o.cs) := ⟨H.out.2.2.1.below u.below, H.out.2.2.2.below u.below⟩
  go_wp2_with fail
  refine (age_any p b c l o.tick _ HU.out.1.db).mono ?_
  rintro _ V ⟨rfl, dV, gV⟩
  rw [hlr] at dV ⊢
  have G : Hid (St w V q p b c lr.1 l a k) := HU.out.1.code dV gV
  have rvV : RvAt V X.heap.size 40 o.cs := RvAt.keptBut HU.out.2 gV (fun e => by have := Option.some.inj e; have := H.out.1.lt; omega)
  have dq := fun z : Later V => (G.out.bo.below z.below).ld
  have d1 := fun z : Later V => (rvV.below z.below).cell 1 (.int .i64 o.isid) rfl
  have d2 := fun z : Later V => (rvV.below z.below).cell 2 (.int .i64 o.other) rfl
  have d15 := fun z : Later V => (rvV.below z.below).cell 15 (.int .i64 o.tick) rfl
  have dc := fun z : Later V => (rvV.below z.below).ocmac
  have db := fun z : Later V => (rvV.below z.below).obmac
  have hl : Hid (Wfs l ∧ Srt l ∧ l.length ≤ 256 ∧ c.wf) := ⟨H.out.1.db.map.2.1, H.out.1.db.map.1, by have := H.out.1.db.len; have := H.out.1.db.wf.room; omega, H.out.1.db.wf⟩
  clear dV gV rvV HU f0 g1 g2 g15 gc gb
  go_upto_region 8 with fail
  go_cut [6, 7] from 66 to 75 (fun vn vm wx => ∃ nb ra rk, vn = .pointer (some ⟨nb, 0, none⟩) ∧ vm = .int .i64 lr.2 ∧ RvAt wx nb 29 (c.rs ra lr.1.length rk) ∧ SlAt wx ra lr.1.length rk lr.1 ∧ (∀ x, ra = some x → a = some x ∨ V.heap.size ≤ x.block) ∧ Below V.heap.size V wx)
  case first =>
    obtain ⟨X0, hX0⟩ : ∃ X0, V.drew = X0 := ⟨_, rfl⟩
    have B0 : Hid (Below V.heap.size V X0) := by rw [← hX0]; exact (Below.refl _ _).drew
    refine wp_region_noPanic ?_
    refine wp_region_held_drew (S := fun w' => ∃ x : Later V, w' = x.val) (by kernel_rfl) ⟨⟨_, (Below.refl _ _).drew⟩, rfl⟩ (fun hHeld => ?_)
    rw [hX0] at hHeld ⊢
    clear hX0
    refine wpAnyH_take (i := 0) (oi := { dst := some 67, op := Op.move (Operand.tmp 0), type := 33, pos := "law.go:49", after := #[], guard := none }) (v := ?_) rfl (by kernel_rfl) (by kernel_rfl) (by kernel_rfl) (fun _ _ _ h => h) (Or.inl ⟨by rfl, ?_⟩) hHeld ?_
    rotate_left
    · intro W_ hSw_
      obtain ⟨q, rfl⟩ := hSw_
      first | (go_simp; done) | (go_simp; with_reducible rfl)
    rotate_left
    try simp only [Act.put, List.setIfInBounds_toArray, List.set_cons_zero, List.set_cons_succ]
    refine wpAnyH_take (i := 1) (oi := { dst := some 68, op := Op.nilCheck (Operand.tmp 67), type := 0, pos := "law.go:49", after := #[{ on := 0, ground := Ground.data }], guard := none }) (v := ?_) rfl (by kernel_rfl) (by kernel_rfl) (by kernel_rfl) (fun _ _ _ h => h) (Or.inl ⟨by rfl, ?_⟩) hHeld ?_
    rotate_left
    · intro W_ hSw_
      obtain ⟨q, rfl⟩ := hSw_
      first | (go_simp; done) | (go_simp; with_reducible rfl)
    rotate_left
    try simp only [Act.put, List.setIfInBounds_toArray, List.set_cons_zero, List.set_cons_succ]
    refine wpAnyH_take (i := 2) (oi := { dst := some 69, op := Op.fieldAddr 35 (Operand.tmp 68) 1, type := 0, pos := "law.go:49", after := #[{ on := 1, ground := Ground.data }], guard := none }) (v := ?_) rfl (by kernel_rfl) (by kernel_rfl) (by kernel_rfl) (fun _ _ _ h => h) (Or.inl ⟨by rfl, ?_⟩) hHeld ?_
    rotate_left
    · intro W_ hSw_
      obtain ⟨q, rfl⟩ := hSw_
      first | (go_simp; done) | (go_simp; with_reducible rfl)
    rotate_left
    try simp only [Act.put, List.setIfInBounds_toArray, List.set_cons_zero, List.set_cons_succ]
    refine wpAnyH_take (i := 3) (oi := { dst := some 70, op := Op.load 29 (Operand.tmp 69), type := 29, pos := "law.go:49", after := #[{ on := 2, ground := Ground.data }], guard := none }) (v := ?_) rfl (by kernel_rfl) (by kernel_rfl) (by kernel_rfl) (fun _ _ _ h => h) (Or.inl ⟨by rfl, ?_⟩) hHeld ?_
    rotate_left
    · intro W_ hSw_
      obtain ⟨q, rfl⟩ := hSw_
      first | (go_simp; done) | (go_simp; with_reducible rfl)
    rotate_left
    try simp only [Act.put, List.setIfInBounds_toArray, List.set_cons_zero, List.set_cons_succ]
    refine wpAnyH_take (i := 4) (oi := { dst := some 71, op := Op.fieldAddr 40 (Operand.tmp 3) 5, type := 0, pos := "law.go:49", after := #[], guard := none }) (v := ?_) rfl (by kernel_rfl) (by kernel_rfl) (by kernel_rfl) (fun _ _ _ h => h) (Or.inl ⟨by rfl, ?_⟩) hHeld ?_
    rotate_left
    · intro W_ hSw_
      obtain ⟨q, rfl⟩ := hSw_
      first | (go_simp; done) | (go_simp; with_reducible rfl)
    rotate_left
    try simp only [Act.put, List.setIfInBounds_toArray, List.set_cons_zero, List.set_cons_succ]
    refine wpAnyH_take (i := 5) (oi := { dst := some 72, op := Op.load 3 (Operand.tmp 71), type := 3, pos := "law.go:49", after := #[{ on := 4, ground := Ground.data }], guard := none }) (v := ?_) rfl (by kernel_rfl) (by kernel_rfl) (by kernel_rfl) (fun _ _ _ h => h) (Or.inl ⟨by rfl, ?_⟩) hHeld ?_
    rotate_left
    · intro W_ hSw_
      obtain ⟨q, rfl⟩ := hSw_
      first | (go_simp; done) | (go_simp; with_reducible rfl)
    rotate_left
    try simp only [Act.put, List.setIfInBounds_toArray, List.set_cons_zero, List.set_cons_succ]
    refine wpAnyH_ready (rs := [6, 10]) (by kernel_rfl) (by simp) ?_
    refine AllReadyH.cons (o := { dst := some 73, op := Op.call { callee := Callee.value (Operand.func 25), args := #[Operand.tmp 70, Operand.tmp 72], argTypes := #[29, 3] }, type := 66, pos := "law.go:49", after := #[{ on := 3, ground := Ground.data }, { on := 5, ground := Ground.data }], guard := none }) rfl (fun K hK => ?_) (AllReadyH.cons (o := { dst := some 6, op := Op.alloc 29, type := 0, pos := "law.go:49", after := #[], guard := none }) rfl (fun K hK => ?_) AllReadyH.nil)
    · skip
      go_simp
      refine (rage_any c a l.length k l o.tick _ (G.out.sl.below B0.out) hl.out.1 hl.out.2.2.1 hl.out.2.2.2).mono ?_
      rintro _ X1 ⟨⟨v, rfl, ra, rk, rfl, rs, rn⟩, bb⟩
      rw [hlr] at rs ⊢
      have C1 : Hid (SlAt X1 ra lr.1.length rk lr.1 ∧ (∀ x, ra = some x → a = some x ∨ V.heap.size ≤ x.block) ∧ Below V.heap.size V X1) := ⟨rs, fun x hx => (rn x hx).imp id (fun h => Nat.le_trans (B0.out).size h), below_over B0.out bb⟩
      clear bb rs rn
      clear hHeld
      refine hK.out _ _ ⟨⟨_, C1.out.2.2⟩, rfl⟩ (fun hHeld => ?_)
      clear hK K
      try simp only [Act.put, List.setIfInBounds_toArray, List.set_cons_zero, List.set_cons_succ]
      refine wpAnyH_take (i := 7) (oi := { dst := some 66, op := Op.move (Operand.tmp 73), type := 66, pos := "law.go:49", after := #[{ on := 6, ground := Ground.data }], guard := none }) (v := ?_) rfl (by kernel_rfl) (by kernel_rfl) (by kernel_rfl) (fun _ _ _ h => h) (Or.inl ⟨by rfl, ?_⟩) hHeld ?_
      rotate_left
      · intro W_ hSw_
        obtain ⟨q, rfl⟩ := hSw_
        first | (go_simp; done) | (go_simp; with_reducible rfl)
      rotate_left
      try simp only [Act.put, List.setIfInBounds_toArray, List.set_cons_zero, List.set_cons_succ]
      refine wpAnyH_take (i := 8) (oi := { dst := some 74, op := Op.extract (Operand.tmp 66) 0, type := 29, pos := "law.go:49", after := #[{ on := 7, ground := Ground.data }], guard := none }) (v := ?_) rfl (by kernel_rfl) (by kernel_rfl) (by kernel_rfl) (fun _ _ _ h => h) (Or.inl ⟨by rfl, ?_⟩) hHeld ?_
      rotate_left
      · intro W_ hSw_
        obtain ⟨q, rfl⟩ := hSw_
        first | (go_simp; done) | (go_simp; with_reducible rfl)
      rotate_left
      try simp only [Act.put, List.setIfInBounds_toArray, List.set_cons_zero, List.set_cons_succ]
      refine wpAnyH_take (i := 9) (oi := { dst := some 75, op := Op.extract (Operand.tmp 66) 1, type := 3, pos := "law.go:49", after := #[{ on := 7, ground := Ground.data }, { on := 11, ground := Ground.gcOnly Departure.lateStores }], guard := none }) (v := ?_) rfl (by kernel_rfl) (by kernel_rfl) (by kernel_rfl) (fun _ _ _ h => h) (Or.inl ⟨by rfl, ?_⟩) hHeld ?_
      rotate_left
      · intro W_ hSw_
        obtain ⟨q, rfl⟩ := hSw_
        first | (go_simp; done) | (go_simp; with_reducible rfl)
      rotate_left
      try simp only [Act.put, List.setIfInBounds_toArray, List.set_cons_zero, List.set_cons_succ]
      refine wpAnyH_ready (rs := [10]) (by kernel_rfl) (by simp) ?_
      refine AllReadyH.cons (o := { dst := some 6, op := Op.alloc 29, type := 0, pos := "law.go:49", after := #[], guard := none }) rfl (fun K hK => ?_) AllReadyH.nil
      have M2 := Nx.of_alloc C1.out.1 C1.out.2.1 C1.out.2.2
      obtain ⟨X2, hX2⟩ : ∃ X2, X1.alloc (.cells #[.int .i64 0, .int .i64 0, .slice none 0 0] 29) = X2 := ⟨_, rfl⟩
      rw [hX2] at M2
      have M2_ : Hid (Nx V X2 a ra rk X1.heap.size lr.1) := M2
      clear M2
      go_simp
      clear hHeld
      refine hK.out _ _ ⟨⟨_, M2_.out.bl⟩, rfl⟩ (fun hHeld => ?_)
      clear hK K
      try simp only [Act.put, List.setIfInBounds_toArray, List.set_cons_zero, List.set_cons_succ]
      clear hX2
      refine wpAnyH_ready (rs := [11]) (by kernel_rfl) (by simp) ?_
      refine AllReadyH.cons (o := { dst := none, op := Op.store 29 (Operand.tmp 6) (Operand.tmp 74), type := 0, pos := "law.go:49", after := #[{ on := 10, ground := Ground.data }, { on := 8, ground := Ground.data }, { on := 6, ground := Ground.chain }, { on := 0, ground := Ground.phase }, { on := 1, ground := Ground.phase }, { on := 2, ground := Ground.phase }, { on := 3, ground := Ground.phase }, { on := 4, ground := Ground.phase }, { on := 5, ground := Ground.phase }, { on := 6, ground := Ground.phase }, { on := 7, ground := Ground.phase }, { on := 8, ground := Ground.phase }, { on := 9, ground := Ground.textOnly Departure.lateStores }, { on := 10, ground := Ground.phase }], guard := none }) rfl (fun K hK => ?_) AllReadyH.nil
      obtain ⟨X3, s3, r3, t3, f3, b3⟩ := M2_.out.store c
      have E3 : Hid (RvAt X3 X1.heap.size 29 (c.rs ra lr.1.length rk) ∧ SlAt X3 ra lr.1.length rk lr.1 ∧ (∀ x, ra = some x → a = some x ∨ V.heap.size ≤ x.block) ∧ Below V.heap.size V X3) := ⟨r3, t3, f3, b3⟩
      clear r3 t3 f3 b3
      go_simp
      clear hHeld
      refine hK.out _ _ ⟨⟨_, E3.out.2.2.2⟩, rfl⟩ (fun hHeld => ?_)
      clear hK K
      try simp only [Act.put, List.setIfInBounds_toArray, List.set_cons_zero, List.set_cons_succ]
      clear s3
      refine wpAnyH_ready (rs := [12]) (by kernel_rfl) (by simp) ?_
      refine AllReadyH.cons (o := { dst := some 7, op := Op.assign (Operand.tmp 75), type := 3, pos := "law.go:49", after := #[{ on := 9, ground := Ground.data }, { on := 11, ground := Ground.chain }, { on := 0, ground := Ground.phase }, { on := 1, ground := Ground.phase }, { on := 2, ground := Ground.phase }, { on := 3, ground := Ground.phase }, { on := 4, ground := Ground.phase }, { on := 5, ground := Ground.phase }, { on := 6, ground := Ground.phase }, { on := 7, ground := Ground.phase }, { on := 8, ground := Ground.phase }, { on := 9, ground := Ground.phase }, { on := 10, ground := Ground.phase }, { on := 11, ground := Ground.phase }], guard := none }) rfl (fun K hK => ?_) AllReadyH.nil
      go_simp
      clear hHeld
      refine hK.out _ _ ⟨⟨_, E3.out.2.2.2⟩, rfl⟩ (fun hHeld => ?_)
      clear hK K
      try simp only [Act.put, List.setIfInBounds_toArray, List.set_cons_zero, List.set_cons_succ]
      refine wpAnyH_done (by kernel_rfl) ?_ _
      refine NoPanic.normal ?_
      clear hHeld
      go_wp2_with fail
      go_meet
      exact ⟨_, _, _, rfl, rfl, E3.out.1, E3.out.2.1, E3.out.2.2.1, E3.out.2.2.2⟩
    · skip
      obtain ⟨X1, hX1⟩ : ∃ X1, X0.alloc (.cells #[.int .i64 0, .int .i64 0, .slice none 0 0] 29) = X1 := ⟨_, rfl⟩
      have bb : Below X0.heap.size X0 X1 := by rw [← hX1]; exact (Below.refl _ _).alloc (Nat.le_refl _) _
      have N1 : Hid (RvAt X1 X0.heap.size 29 #[.int .i64 0, .int .i64 0, .slice none 0 0] ∧ V.heap.size ≤ X0.heap.size ∧ Below V.heap.size V X1) := ⟨by rw [← hX1]; exact RvAt.new _ _ _, (B0.out).size, below_over B0.out bb⟩
      clear bb
      go_simp
      clear hHeld
      refine hK.out _ _ ⟨⟨_, N1.out.2.2⟩, rfl⟩ (fun hHeld => ?_)
      clear hK K
      try simp only [Act.put, List.setIfInBounds_toArray, List.set_cons_zero, List.set_cons_succ]
      clear hX1
      refine wpAnyH_ready (rs := [6]) (by kernel_rfl) (by simp) ?_
      refine AllReadyH.cons (o := { dst := some 73, op := Op.call { callee := Callee.value (Operand.func 25), args := #[Operand.tmp 70, Operand.tmp 72], argTypes := #[29, 3] }, type := 66, pos := "law.go:49", after := #[{ on := 3, ground := Ground.data }, { on := 5, ground := Ground.data }], guard := none }) rfl (fun K hK => ?_) AllReadyH.nil
      go_simp
      refine (rage_any c a l.length k l o.tick _ (G.out.sl.below N1.out.2.2) hl.out.1 hl.out.2.2.1 hl.out.2.2.2).mono ?_
      rintro _ X2 ⟨⟨v, rfl, ra, rk, rfl, rs, rn⟩, bb⟩
      rw [hlr] at rs ⊢
      have M2 : Hid (Nx V X2 a ra rk X0.heap.size lr.1) := Nx.of_call N1.out.1 N1.out.2.1 N1.out.2.2 rs rn bb G.out.sl
      clear bb rs rn
      clear hHeld
      refine hK.out _ _ ⟨⟨_, M2.out.bl⟩, rfl⟩ (fun hHeld => ?_)
      clear hK K
      try simp only [Act.put, List.setIfInBounds_toArray, List.set_cons_zero, List.set_cons_succ]
      refine wpAnyH_take (i := 7) (oi := { dst := some 66, op := Op.move (Operand.tmp 73), type := 66, pos := "law.go:49", after := #[{ on := 6, ground := Ground.data }], guard := none }) (v := ?_) rfl (by kernel_rfl) (by kernel_rfl) (by kernel_rfl) (fun _ _ _ h => h) (Or.inl ⟨by rfl, ?_⟩) hHeld ?_
      rotate_left
      · intro W_ hSw_
        obtain ⟨q, rfl⟩ := hSw_
        first | (go_simp; done) | (go_simp; with_reducible rfl)
      rotate_left
      try simp only [Act.put, List.setIfInBounds_toArray, List.set_cons_zero, List.set_cons_succ]
      refine wpAnyH_take (i := 8) (oi := { dst := some 74, op := Op.extract (Operand.tmp 66) 0, type := 29, pos := "law.go:49", after := #[{ on := 7, ground := Ground.data }], guard := none }) (v := ?_) rfl (by kernel_rfl) (by kernel_rfl) (by kernel_rfl) (fun _ _ _ h => h) (Or.inl ⟨by rfl, ?_⟩) hHeld ?_
      rotate_left
      · intro W_ hSw_
        obtain ⟨q, rfl⟩ := hSw_
        first | (go_simp; done) | (go_simp; with_reducible rfl)
      rotate_left
      try simp only [Act.put, List.setIfInBounds_toArray, List.set_cons_zero, List.set_cons_succ]
      refine wpAnyH_take (i := 9) (oi := { dst := some 75, op := Op.extract (Operand.tmp 66) 1, type := 3, pos := "law.go:49", after := #[{ on := 7, ground := Ground.data }, { on := 11, ground := Ground.gcOnly Departure.lateStores }], guard := none }) (v := ?_) rfl (by kernel_rfl) (by kernel_rfl) (by kernel_rfl) (fun _ _ _ h => h) (Or.inl ⟨by rfl, ?_⟩) hHeld ?_
      rotate_left
      · intro W_ hSw_
        obtain ⟨q, rfl⟩ := hSw_
        first | (go_simp; done) | (go_simp; with_reducible rfl)
      rotate_left
      try simp only [Act.put, List.setIfInBounds_toArray, List.set_cons_zero, List.set_cons_succ]
      refine wpAnyH_ready (rs := [11]) (by kernel_rfl) (by simp) ?_
      refine AllReadyH.cons (o := { dst := none, op := Op.store 29 (Operand.tmp 6) (Operand.tmp 74), type := 0, pos := "law.go:49", after := #[{ on := 10, ground := Ground.data }, { on := 8, ground := Ground.data }, { on := 6, ground := Ground.chain }, { on := 0, ground := Ground.phase }, { on := 1, ground := Ground.phase }, { on := 2, ground := Ground.phase }, { on := 3, ground := Ground.phase }, { on := 4, ground := Ground.phase }, { on := 5, ground := Ground.phase }, { on := 6, ground := Ground.phase }, { on := 7, ground := Ground.phase }, { on := 8, ground := Ground.phase }, { on := 9, ground := Ground.textOnly Departure.lateStores }, { on := 10, ground := Ground.phase }], guard := none }) rfl (fun K hK => ?_) AllReadyH.nil
      obtain ⟨X3, s3, r3, t3, f3, b3⟩ := M2.out.store c
      have E3 : Hid (RvAt X3 X0.heap.size 29 (c.rs ra lr.1.length rk) ∧ SlAt X3 ra lr.1.length rk lr.1 ∧ (∀ x, ra = some x → a = some x ∨ V.heap.size ≤ x.block) ∧ Below V.heap.size V X3) := ⟨r3, t3, f3, b3⟩
      clear r3 t3 f3 b3
      go_simp
      clear hHeld
      refine hK.out _ _ ⟨⟨_, E3.out.2.2.2⟩, rfl⟩ (fun hHeld => ?_)
      clear hK K
      try simp only [Act.put, List.setIfInBounds_toArray, List.set_cons_zero, List.set_cons_succ]
      clear s3
      refine wpAnyH_ready (rs := [12]) (by kernel_rfl) (by simp) ?_
      refine AllReadyH.cons (o := { dst := some 7, op := Op.assign (Operand.tmp 75), type := 3, pos := "law.go:49", after := #[{ on := 9, ground := Ground.data }, { on := 11, ground := Ground.chain }, { on := 0, ground := Ground.phase }, { on := 1, ground := Ground.phase }, { on := 2, ground := Ground.phase }, { on := 3, ground := Ground.phase }, { on := 4, ground := Ground.phase }, { on := 5, ground := Ground.phase }, { on := 6, ground := Ground.phase }, { on := 7, ground := Ground.phase }, { on := 8, ground := Ground.phase }, { on := 9, ground := Ground.phase }, { on := 10, ground := Ground.phase }, { on := 11, ground := Ground.phase }], guard := none }) rfl (fun K hK => ?_) AllReadyH.nil
      go_simp
      clear hHeld
      refine hK.out _ _ ⟨⟨_, E3.out.2.2.2⟩, rfl⟩ (fun hHeld => ?_)
      clear hK K
      try simp only [Act.put, List.setIfInBounds_toArray, List.set_cons_zero, List.set_cons_succ]
      refine wpAnyH_done (by kernel_rfl) ?_ _
      refine NoPanic.normal ?_
      clear hHeld
      go_wp2_with fail
      go_meet
      exact ⟨_, _, _, rfl, rfl, E3.out.1, E3.out.2.1, E3.out.2.2.1, E3.out.2.2.2⟩
  case rest =>
    obtain ⟨nb, ra, rk, rfl, rfl, e1, e2, e3, e4⟩ := hcut
    obtain ⟨Z, hZ⟩ : ∃ Z, wc = Z := ⟨_, rfl⟩
    rw [hZ] at e1 e2 e4 ⊢
    clear hZ
    obtain ⟨Y, sY, tY⟩ := G.out.ref e2 e3 e4
    have lZ := e1.ld rtR (Cf.rsize _ _ _ _)
    have GY : Hid (St w Y q p b c lr.1 lr.1 ra rk) := tY
    clear tY e1 e2 e3 e4 dq
    go_wp2
    go_ret
    exact ⟨rfl, p, b, ra, rk, by rw [hE.out]; exact GY.out⟩
set_option maxHeartbeats 8000000 in
theorem step_gone (w X : World) (q p b : Nat) (c : Cf) (l : List En) (a : Option Addr) (k : Nat) (o : Oq) (h : St w X q p b c l l a k) (ho : o.wf) (hr : o.act.tmod 8 = 6) :
    Calls Try.prog 11 #[.pointer (some ⟨q, 0, none⟩), .agg o.cs] X fun r X' => r = .returned (.bool true) ∧ ∃ p' b' a' k', St w X' q p' b' c (stepS c l o) (stepS c l o) a' k' := by
  obtain ⟨W, hW⟩ : ∃ W, X.alloc (.cells o.cs 40) = W := ⟨_, rfl⟩
  have bW : Below X.heap.size X W := by rw [← hW]; exact (Below.refl _ _).alloc (Nat.le_refl _) _
  have rv : RvAt W X.heap.size 40 o.cs := by rw [← hW]; exact RvAt.new _ _ _
  have c0 := rv.cell 0 (.int .u8 o.act) rfl
  have f0 := fun z : Later W => ((h.below bW).bo.below z.below).c0
  have g1 := fun z : Later W => (rv.below z.below).cell 1 (.int .i64 o.isid) rfl
  have g2 := fun z : Later W => (rv.below z.below).cell 2 (.int .i64 o.other) rfl
  have g15 := fun z : Later W => (rv.below z.below).cell 15 (.int .i64 o.tick) rfl
  have gc := fun z : Later W => (rv.below z.below).ocmac
  have gb := fun z : Later W => (rv.below z.below).obmac
  have H : Hid (St w X q p b c l l a k ∧ o.wf ∧ St w W q p b c l l a k ∧ RvAt W X.heap.size 40 o.cs) := ⟨h, ho, h.below bW, rv⟩
  clear h ho bW rv
  go_enter Try.func11, Try.ntmps11
  obtain ⟨lr, hlr⟩ : ∃ lr, remS l (goneSh o.b) = lr := ⟨_, rfl⟩
  have hE : Hid (stepS c l o = lr.1) := show _ = _ by
    unfold stepS
    rw [← hlr]
    simp [hr]
  go_wp2_with fail
  refine wp_region_later_tail 6 (by kernel_rfl) (by kernel_rfl) ?_
  simp only [List.take_succ_cons, List.take_zero]
  repeat (go_big_quiet_step (first | exact rfl))
  refine wpQuiet_nil ?_
  intro u
  simp only [List.drop_succ_cons, List.drop_zero]
  have HU : Hid (St w u.val q p b c l l a k ∧ RvAt u.val X.heap.size 40 o.cs) := ⟨H.out.2.2.1.below u.below, H.out.2.2.2.below u.below⟩
  go_wp2_with fail
  refine (gone_any p b c l o.b _ HU.out.1.db).mono ?_
  rintro _ V ⟨rfl, dV, gV⟩
  rw [hlr] at dV ⊢
  have G : Hid (St w V q p b c lr.1 l a k) := HU.out.1.code dV gV
  have rvV : RvAt V X.heap.size 40 o.cs := RvAt.keptBut HU.out.2 gV (fun e => by have := Option.some.inj e; have := H.out.1.lt; omega)
  have dq := fun z : Later V => (G.out.bo.below z.below).ld
  have d1 := fun z : Later V => (rvV.below z.below).cell 1 (.int .i64 o.isid) rfl
  have d2 := fun z : Later V => (rvV.below z.below).cell 2 (.int .i64 o.other) rfl
  have d15 := fun z : Later V => (rvV.below z.below).cell 15 (.int .i64 o.tick) rfl
  have dc := fun z : Later V => (rvV.below z.below).ocmac
  have db := fun z : Later V => (rvV.below z.below).obmac
  have hl : Hid (Wfs l ∧ Srt l ∧ l.length ≤ 256 ∧ c.wf) := ⟨H.out.1.db.map.2.1, H.out.1.db.map.1, by have := H.out.1.db.len; have := H.out.1.db.wf.room; omega, H.out.1.db.wf⟩
  clear dV gV rvV HU f0 g1 g2 g15 gc gb
  go_upto_region 18 with fail
  go_cut [12, 13] from 124 to 133 (fun vn vm wx => ∃ nb ra rk, vn = .pointer (some ⟨nb, 0, none⟩) ∧ vm = .int .i64 lr.2 ∧ RvAt wx nb 29 (c.rs ra lr.1.length rk) ∧ SlAt wx ra lr.1.length rk lr.1 ∧ (∀ x, ra = some x → a = some x ∨ V.heap.size ≤ x.block) ∧ Below V.heap.size V wx)
  case first =>
    obtain ⟨X0, hX0⟩ : ∃ X0, V.drew = X0 := ⟨_, rfl⟩
    have B0 : Hid (Below V.heap.size V X0) := by rw [← hX0]; exact (Below.refl _ _).drew
    refine wp_region_noPanic ?_
    refine wp_region_held_drew (S := fun w' => ∃ x : Later V, w' = x.val) (by kernel_rfl) ⟨⟨_, (Below.refl _ _).drew⟩, rfl⟩ (fun hHeld => ?_)
    rw [hX0] at hHeld ⊢
    clear hX0
    refine wpAnyH_take (i := 0) (oi := { dst := some 125, op := Op.move (Operand.tmp 0), type := 33, pos := "law.go:59", after := #[], guard := none }) (v := ?_) rfl (by kernel_rfl) (by kernel_rfl) (by kernel_rfl) (fun _ _ _ h => h) (Or.inl ⟨by rfl, ?_⟩) hHeld ?_
    rotate_left
    · intro W_ hSw_
      obtain ⟨q, rfl⟩ := hSw_
      first | (go_simp; done) | (go_simp; with_reducible rfl)
    rotate_left
    try simp only [Act.put, List.setIfInBounds_toArray, List.set_cons_zero, List.set_cons_succ]
    refine wpAnyH_take (i := 1) (oi := { dst := some 126, op := Op.nilCheck (Operand.tmp 125), type := 0, pos := "law.go:59", after := #[{ on := 0, ground := Ground.data }], guard := none }) (v := ?_) rfl (by kernel_rfl) (by kernel_rfl) (by kernel_rfl) (fun _ _ _ h => h) (Or.inl ⟨by rfl, ?_⟩) hHeld ?_
    rotate_left
    · intro W_ hSw_
      obtain ⟨q, rfl⟩ := hSw_
      first | (go_simp; done) | (go_simp; with_reducible rfl)
    rotate_left
    try simp only [Act.put, List.setIfInBounds_toArray, List.set_cons_zero, List.set_cons_succ]
    refine wpAnyH_take (i := 2) (oi := { dst := some 127, op := Op.fieldAddr 35 (Operand.tmp 126) 1, type := 0, pos := "law.go:59", after := #[{ on := 1, ground := Ground.data }], guard := none }) (v := ?_) rfl (by kernel_rfl) (by kernel_rfl) (by kernel_rfl) (fun _ _ _ h => h) (Or.inl ⟨by rfl, ?_⟩) hHeld ?_
    rotate_left
    · intro W_ hSw_
      obtain ⟨q, rfl⟩ := hSw_
      first | (go_simp; done) | (go_simp; with_reducible rfl)
    rotate_left
    try simp only [Act.put, List.setIfInBounds_toArray, List.set_cons_zero, List.set_cons_succ]
    refine wpAnyH_take (i := 3) (oi := { dst := some 128, op := Op.load 29 (Operand.tmp 127), type := 29, pos := "law.go:59", after := #[{ on := 2, ground := Ground.data }], guard := none }) (v := ?_) rfl (by kernel_rfl) (by kernel_rfl) (by kernel_rfl) (fun _ _ _ h => h) (Or.inl ⟨by rfl, ?_⟩) hHeld ?_
    rotate_left
    · intro W_ hSw_
      obtain ⟨q, rfl⟩ := hSw_
      first | (go_simp; done) | (go_simp; with_reducible rfl)
    rotate_left
    try simp only [Act.put, List.setIfInBounds_toArray, List.set_cons_zero, List.set_cons_succ]
    refine wpAnyH_take (i := 4) (oi := { dst := some 129, op := Op.fieldAddr 40 (Operand.tmp 3) 4, type := 0, pos := "law.go:59", after := #[], guard := none }) (v := ?_) rfl (by kernel_rfl) (by kernel_rfl) (by kernel_rfl) (fun _ _ _ h => h) (Or.inl ⟨by rfl, ?_⟩) hHeld ?_
    rotate_left
    · intro W_ hSw_
      obtain ⟨q, rfl⟩ := hSw_
      first | (go_simp; done) | (go_simp; with_reducible rfl)
    rotate_left
    try simp only [Act.put, List.setIfInBounds_toArray, List.set_cons_zero, List.set_cons_succ]
    refine wpAnyH_take (i := 5) (oi := { dst := some 130, op := Op.load 38 (Operand.tmp 129), type := 38, pos := "law.go:59", after := #[{ on := 4, ground := Ground.data }], guard := none }) (v := ?_) rfl (by kernel_rfl) (by kernel_rfl) (by kernel_rfl) (fun _ _ _ h => h) (Or.inl ⟨by rfl, ?_⟩) hHeld ?_
    rotate_left
    · intro W_ hSw_
      obtain ⟨q, rfl⟩ := hSw_
      first | (go_simp; done) | (go_simp; with_reducible rfl)
    rotate_left
    try simp only [Act.put, List.setIfInBounds_toArray, List.set_cons_zero, List.set_cons_succ]
    refine wpAnyH_ready (rs := [6, 10]) (by kernel_rfl) (by simp) ?_
    refine AllReadyH.cons (o := { dst := some 131, op := Op.call { callee := Callee.value (Operand.func 27), args := #[Operand.tmp 128, Operand.tmp 130], argTypes := #[29, 38] }, type := 66, pos := "law.go:59", after := #[{ on := 3, ground := Ground.data }, { on := 5, ground := Ground.data }], guard := none }) rfl (fun K hK => ?_) (AllReadyH.cons (o := { dst := some 12, op := Op.alloc 29, type := 0, pos := "law.go:59", after := #[], guard := none }) rfl (fun K hK => ?_) AllReadyH.nil)
    · skip
      go_simp
      refine (rgone_any c a l.length k l o.b _ (G.out.sl.below B0.out) hl.out.1 hl.out.2.2.1 hl.out.2.2.2).mono ?_
      rintro _ X1 ⟨⟨v, rfl, ra, rk, rfl, rs, rn⟩, bb⟩
      rw [hlr] at rs ⊢
      have C1 : Hid (SlAt X1 ra lr.1.length rk lr.1 ∧ (∀ x, ra = some x → a = some x ∨ V.heap.size ≤ x.block) ∧ Below V.heap.size V X1) := ⟨rs, fun x hx => (rn x hx).imp id (fun h => Nat.le_trans (B0.out).size h), below_over B0.out bb⟩
      clear bb rs rn
      clear hHeld
      refine hK.out _ _ ⟨⟨_, C1.out.2.2⟩, rfl⟩ (fun hHeld => ?_)
      clear hK K
      try simp only [Act.put, List.setIfInBounds_toArray, List.set_cons_zero, List.set_cons_succ]
      refine wpAnyH_take (i := 7) (oi := { dst := some 124, op := Op.move (Operand.tmp 131), type := 66, pos := "law.go:59", after := #[{ on := 6, ground := Ground.data }], guard := none }) (v := ?_) rfl (by kernel_rfl) (by kernel_rfl) (by kernel_rfl) (fun _ _ _ h => h) (Or.inl ⟨by rfl, ?_⟩) hHeld ?_
      rotate_left
      · intro W_ hSw_
        obtain ⟨q, rfl⟩ := hSw_
        first | (go_simp; done) | (go_simp; with_reducible rfl)
      rotate_left
      try simp only [Act.put, List.setIfInBounds_toArray, List.set_cons_zero, List.set_cons_succ]
      refine wpAnyH_take (i := 8) (oi := { dst := some 132, op := Op.extract (Operand.tmp 124) 0, type := 29, pos := "law.go:59", after := #[{ on := 7, ground := Ground.data }], guard := none }) (v := ?_) rfl (by kernel_rfl) (by kernel_rfl) (by kernel_rfl) (fun _ _ _ h => h) (Or.inl ⟨by rfl, ?_⟩) hHeld ?_
      rotate_left
      · intro W_ hSw_
        obtain ⟨q, rfl⟩ := hSw_
        first | (go_simp; done) | (go_simp; with_reducible rfl)
      rotate_left
      try simp only [Act.put, List.setIfInBounds_toArray, List.set_cons_zero, List.set_cons_succ]
      refine wpAnyH_take (i := 9) (oi := { dst := some 133, op := Op.extract (Operand.tmp 124) 1, type := 3, pos := "law.go:59", after := #[{ on := 7, ground := Ground.data }, { on := 11, ground := Ground.gcOnly Departure.lateStores }], guard := none }) (v := ?_) rfl (by kernel_rfl) (by kernel_rfl) (by kernel_rfl) (fun _ _ _ h => h) (Or.inl ⟨by rfl, ?_⟩) hHeld ?_
      rotate_left
      · intro W_ hSw_
        obtain ⟨q, rfl⟩ := hSw_
        first | (go_simp; done) | (go_simp; with_reducible rfl)
      rotate_left
      try simp only [Act.put, List.setIfInBounds_toArray, List.set_cons_zero, List.set_cons_succ]
      refine wpAnyH_ready (rs := [10]) (by kernel_rfl) (by simp) ?_
      refine AllReadyH.cons (o := { dst := some 12, op := Op.alloc 29, type := 0, pos := "law.go:59", after := #[], guard := none }) rfl (fun K hK => ?_) AllReadyH.nil
      have M2 := Nx.of_alloc C1.out.1 C1.out.2.1 C1.out.2.2
      obtain ⟨X2, hX2⟩ : ∃ X2, X1.alloc (.cells #[.int .i64 0, .int .i64 0, .slice none 0 0] 29) = X2 := ⟨_, rfl⟩
      rw [hX2] at M2
      have M2_ : Hid (Nx V X2 a ra rk X1.heap.size lr.1) := M2
      clear M2
      go_simp
      clear hHeld
      refine hK.out _ _ ⟨⟨_, M2_.out.bl⟩, rfl⟩ (fun hHeld => ?_)
      clear hK K
      try simp only [Act.put, List.setIfInBounds_toArray, List.set_cons_zero, List.set_cons_succ]
      clear hX2
      refine wpAnyH_ready (rs := [11]) (by kernel_rfl) (by simp) ?_
      refine AllReadyH.cons (o := { dst := none, op := Op.store 29 (Operand.tmp 12) (Operand.tmp 132), type := 0, pos := "law.go:59", after := #[{ on := 10, ground := Ground.data }, { on := 8, ground := Ground.data }, { on := 6, ground := Ground.chain }, { on := 0, ground := Ground.phase }, { on := 1, ground := Ground.phase }, { on := 2, ground := Ground.phase }, { on := 3, ground := Ground.phase }, { on := 4, ground := Ground.phase }, { on := 5, ground := Ground.phase }, { on := 6, ground := Ground.phase }, { on := 7, ground := Ground.phase }, { on := 8, ground := Ground.phase }, { on := 9, ground := Ground.textOnly Departure.lateStores }, { on := 10, ground := Ground.phase }], guard := none }) rfl (fun K hK => ?_) AllReadyH.nil
      obtain ⟨X3, s3, r3, t3, f3, b3⟩ := M2_.out.store c
      have E3 : Hid (RvAt X3 X1.heap.size 29 (c.rs ra lr.1.length rk) ∧ SlAt X3 ra lr.1.length rk lr.1 ∧ (∀ x, ra = some x → a = some x ∨ V.heap.size ≤ x.block) ∧ Below V.heap.size V X3) := ⟨r3, t3, f3, b3⟩
      clear r3 t3 f3 b3
      go_simp
      clear hHeld
      refine hK.out _ _ ⟨⟨_, E3.out.2.2.2⟩, rfl⟩ (fun hHeld => ?_)
      clear hK K
      try simp only [Act.put, List.setIfInBounds_toArray, List.set_cons_zero, List.set_cons_succ]
      clear s3
      refine wpAnyH_ready (rs := [12]) (by kernel_rfl) (by simp) ?_
      refine AllReadyH.cons (o := { dst := some 13, op := Op.assign (Operand.tmp 133), type := 3, pos := "law.go:59", after := #[{ on := 9, ground := Ground.data }, { on := 11, ground := Ground.chain }, { on := 0, ground := Ground.phase }, { on := 1, ground := Ground.phase }, { on := 2, ground := Ground.phase }, { on := 3, ground := Ground.phase }, { on := 4, ground := Ground.phase }, { on := 5, ground := Ground.phase }, { on := 6, ground := Ground.phase }, { on := 7, ground := Ground.phase }, { on := 8, ground := Ground.phase }, { on := 9, ground := Ground.phase }, { on := 10, ground := Ground.phase }, { on := 11, ground := Ground.phase }], guard := none }) rfl (fun K hK => ?_) AllReadyH.nil
      go_simp
      clear hHeld
      refine hK.out _ _ ⟨⟨_, E3.out.2.2.2⟩, rfl⟩ (fun hHeld => ?_)
      clear hK K
      try simp only [Act.put, List.setIfInBounds_toArray, List.set_cons_zero, List.set_cons_succ]
      refine wpAnyH_done (by kernel_rfl) ?_ _
      refine NoPanic.normal ?_
      clear hHeld
      go_wp2_with fail
      go_meet
      exact ⟨_, _, _, rfl, rfl, E3.out.1, E3.out.2.1, E3.out.2.2.1, E3.out.2.2.2⟩
    · skip
      obtain ⟨X1, hX1⟩ : ∃ X1, X0.alloc (.cells #[.int .i64 0, .int .i64 0, .slice none 0 0] 29) = X1 := ⟨_, rfl⟩
      have bb : Below X0.heap.size X0 X1 := by rw [← hX1]; exact (Below.refl _ _).alloc (Nat.le_refl _) _
      have N1 : Hid (RvAt X1 X0.heap.size 29 #[.int .i64 0, .int .i64 0, .slice none 0 0] ∧ V.heap.size ≤ X0.heap.size ∧ Below V.heap.size V X1) := ⟨by rw [← hX1]; exact RvAt.new _ _ _, (B0.out).size, below_over B0.out bb⟩
      clear bb
      go_simp
      clear hHeld
      refine hK.out _ _ ⟨⟨_, N1.out.2.2⟩, rfl⟩ (fun hHeld => ?_)
      clear hK K
      try simp only [Act.put, List.setIfInBounds_toArray, List.set_cons_zero, List.set_cons_succ]
      clear hX1
      refine wpAnyH_ready (rs := [6]) (by kernel_rfl) (by simp) ?_
      refine AllReadyH.cons (o := { dst := some 131, op := Op.call { callee := Callee.value (Operand.func 27), args := #[Operand.tmp 128, Operand.tmp 130], argTypes := #[29, 38] }, type := 66, pos := "law.go:59", after := #[{ on := 3, ground := Ground.data }, { on := 5, ground := Ground.data }], guard := none }) rfl (fun K hK => ?_) AllReadyH.nil
      go_simp
      refine (rgone_any c a l.length k l o.b _ (G.out.sl.below N1.out.2.2) hl.out.1 hl.out.2.2.1 hl.out.2.2.2).mono ?_
      rintro _ X2 ⟨⟨v, rfl, ra, rk, rfl, rs, rn⟩, bb⟩
      rw [hlr] at rs ⊢
      have M2 : Hid (Nx V X2 a ra rk X0.heap.size lr.1) := Nx.of_call N1.out.1 N1.out.2.1 N1.out.2.2 rs rn bb G.out.sl
      clear bb rs rn
      clear hHeld
      refine hK.out _ _ ⟨⟨_, M2.out.bl⟩, rfl⟩ (fun hHeld => ?_)
      clear hK K
      try simp only [Act.put, List.setIfInBounds_toArray, List.set_cons_zero, List.set_cons_succ]
      refine wpAnyH_take (i := 7) (oi := { dst := some 124, op := Op.move (Operand.tmp 131), type := 66, pos := "law.go:59", after := #[{ on := 6, ground := Ground.data }], guard := none }) (v := ?_) rfl (by kernel_rfl) (by kernel_rfl) (by kernel_rfl) (fun _ _ _ h => h) (Or.inl ⟨by rfl, ?_⟩) hHeld ?_
      rotate_left
      · intro W_ hSw_
        obtain ⟨q, rfl⟩ := hSw_
        first | (go_simp; done) | (go_simp; with_reducible rfl)
      rotate_left
      try simp only [Act.put, List.setIfInBounds_toArray, List.set_cons_zero, List.set_cons_succ]
      refine wpAnyH_take (i := 8) (oi := { dst := some 132, op := Op.extract (Operand.tmp 124) 0, type := 29, pos := "law.go:59", after := #[{ on := 7, ground := Ground.data }], guard := none }) (v := ?_) rfl (by kernel_rfl) (by kernel_rfl) (by kernel_rfl) (fun _ _ _ h => h) (Or.inl ⟨by rfl, ?_⟩) hHeld ?_
      rotate_left
      · intro W_ hSw_
        obtain ⟨q, rfl⟩ := hSw_
        first | (go_simp; done) | (go_simp; with_reducible rfl)
      rotate_left
      try simp only [Act.put, List.setIfInBounds_toArray, List.set_cons_zero, List.set_cons_succ]
      refine wpAnyH_take (i := 9) (oi := { dst := some 133, op := Op.extract (Operand.tmp 124) 1, type := 3, pos := "law.go:59", after := #[{ on := 7, ground := Ground.data }, { on := 11, ground := Ground.gcOnly Departure.lateStores }], guard := none }) (v := ?_) rfl (by kernel_rfl) (by kernel_rfl) (by kernel_rfl) (fun _ _ _ h => h) (Or.inl ⟨by rfl, ?_⟩) hHeld ?_
      rotate_left
      · intro W_ hSw_
        obtain ⟨q, rfl⟩ := hSw_
        first | (go_simp; done) | (go_simp; with_reducible rfl)
      rotate_left
      try simp only [Act.put, List.setIfInBounds_toArray, List.set_cons_zero, List.set_cons_succ]
      refine wpAnyH_ready (rs := [11]) (by kernel_rfl) (by simp) ?_
      refine AllReadyH.cons (o := { dst := none, op := Op.store 29 (Operand.tmp 12) (Operand.tmp 132), type := 0, pos := "law.go:59", after := #[{ on := 10, ground := Ground.data }, { on := 8, ground := Ground.data }, { on := 6, ground := Ground.chain }, { on := 0, ground := Ground.phase }, { on := 1, ground := Ground.phase }, { on := 2, ground := Ground.phase }, { on := 3, ground := Ground.phase }, { on := 4, ground := Ground.phase }, { on := 5, ground := Ground.phase }, { on := 6, ground := Ground.phase }, { on := 7, ground := Ground.phase }, { on := 8, ground := Ground.phase }, { on := 9, ground := Ground.textOnly Departure.lateStores }, { on := 10, ground := Ground.phase }], guard := none }) rfl (fun K hK => ?_) AllReadyH.nil
      obtain ⟨X3, s3, r3, t3, f3, b3⟩ := M2.out.store c
      have E3 : Hid (RvAt X3 X0.heap.size 29 (c.rs ra lr.1.length rk) ∧ SlAt X3 ra lr.1.length rk lr.1 ∧ (∀ x, ra = some x → a = some x ∨ V.heap.size ≤ x.block) ∧ Below V.heap.size V X3) := ⟨r3, t3, f3, b3⟩
      clear r3 t3 f3 b3
      go_simp
      clear hHeld
      refine hK.out _ _ ⟨⟨_, E3.out.2.2.2⟩, rfl⟩ (fun hHeld => ?_)
      clear hK K
      try simp only [Act.put, List.setIfInBounds_toArray, List.set_cons_zero, List.set_cons_succ]
      clear s3
      refine wpAnyH_ready (rs := [12]) (by kernel_rfl) (by simp) ?_
      refine AllReadyH.cons (o := { dst := some 13, op := Op.assign (Operand.tmp 133), type := 3, pos := "law.go:59", after := #[{ on := 9, ground := Ground.data }, { on := 11, ground := Ground.chain }, { on := 0, ground := Ground.phase }, { on := 1, ground := Ground.phase }, { on := 2, ground := Ground.phase }, { on := 3, ground := Ground.phase }, { on := 4, ground := Ground.phase }, { on := 5, ground := Ground.phase }, { on := 6, ground := Ground.phase }, { on := 7, ground := Ground.phase }, { on := 8, ground := Ground.phase }, { on := 9, ground := Ground.phase }, { on := 10, ground := Ground.phase }, { on := 11, ground := Ground.phase }], guard := none }) rfl (fun K hK => ?_) AllReadyH.nil
      go_simp
      clear hHeld
      refine hK.out _ _ ⟨⟨_, E3.out.2.2.2⟩, rfl⟩ (fun hHeld => ?_)
      clear hK K
      try simp only [Act.put, List.setIfInBounds_toArray, List.set_cons_zero, List.set_cons_succ]
      refine wpAnyH_done (by kernel_rfl) ?_ _
      refine NoPanic.normal ?_
      clear hHeld
      go_wp2_with fail
      go_meet
      exact ⟨_, _, _, rfl, rfl, E3.out.1, E3.out.2.1, E3.out.2.2.1, E3.out.2.2.2⟩
  case rest =>
    obtain ⟨nb, ra, rk, rfl, rfl, e1, e2, e3, e4⟩ := hcut
    obtain ⟨Z, hZ⟩ : ∃ Z, wc = Z := ⟨_, rfl⟩
    rw [hZ] at e1 e2 e4 ⊢
    clear hZ
    obtain ⟨Y, sY, tY⟩ := G.out.ref e2 e3 e4
    have lZ := e1.ld rtR (Cf.rsize _ _ _ _)
    have GY : Hid (St w Y q p b c lr.1 lr.1 ra rk) := tY
    clear tY e1 e2 e3 e4 dq
    go_wp2
    go_ret
    exact ⟨rfl, p, b, ra, rk, by rw [hE.out]; exact GY.out⟩
end Go.Proofs.Ytoelpbajaadfeaa
