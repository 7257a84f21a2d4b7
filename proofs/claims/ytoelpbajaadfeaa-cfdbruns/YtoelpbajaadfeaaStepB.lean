/-
  A call on both: Flush, and a fork.
-/
import Derived.Test.YtoelpbajaadfeaaBoth
namespace Go.Proofs.Ytoelpbajaadfeaa
set_option linter.unusedVariables false
set_option maxRecDepth 4000
set_option linter.unusedSimpArgs false
open Go.RowKit

attribute [local go_sem ↓] ldK stK ldM stM ldP stP ldE stE apE ldR stR ldO stO
set_option maxHeartbeats 8000000 in
theorem step_flush (w X : World) (q p b : Nat) (c : Cf) (l : List En) (a : Option Addr) (k : Nat) (o : Oq) (h : St w X q p b c l l a k) (ho : o.wf) (hr : o.act.tmod 8 = 5) :
    Calls Try.prog 11 #[.pointer (some ⟨q, 0, none⟩), .agg o.cs] X fun r X' => r = .returned (.bool true) ∧ ∃ p' b' a' k', St w X' q p' b' c (stepS c l o) (stepS c l o) a' k' := by
  obtain ⟨W, hW⟩ : ∃ W, X.alloc (.cells o.cs 40) = W := ⟨_, rfl⟩
  have bW : Below X.heap.size X W := by rw [← hW]; exact (Below.refl _ _).alloc (Nat.le_refl _) _
  have rv : RvAt W X.heap.size 40 o.cs := by rw [← hW]; exact RvAt.new _ _ _
  have c0 := rv.cell 0 (.int .u8 o.act) rfl
  have f0 := fun z : Later W => ((h.below bW).bo.below z.below).c0
  have g1 := fun z : Later W => (rv.below z.below).cell 1 (.int .i64 o.isid) rfl
  have g2 := fun z : Later W => (rv.below z.below).cell 2 (.int .i64 o.other) rfl
  have g15 := fun z : Later W => (rv.below z.below).cell 15 (.int .i64 o.tick) rfl
  have gc := fun z : Later W => (rv.below z.below).ocmac
  have gb := fun z : Later W => (rv.below z.below).obmac
  have H : Hid (St w X q p b c l l a k ∧ o.wf ∧ St w W q p b c l l a k ∧ RvAt W X.heap.size 40 o.cs) := ⟨h, ho, h.below bW, rv⟩
  clear h ho bW rv
  go_enter Try.func11, Try.ntmps11
  obtain ⟨lr, hlr⟩ : ∃ lr, remS l (flushSh [o.isid, o.other]) = lr := ⟨_, rfl⟩
  have hE : Hid (stepS c l o = lr.1) := show _ = _ by
    unfold stepS
    rw [← hlr]
    simp [hr]
  clear f0 g1 g2 g15 gc gb
  have hlt := H.out.1.lt
  have hnb := H.out.1.nb
  have f0 := fun z : LaterB W b => BoAt.c0 (RvAt.keptBut H.out.2.2.1.bo z.gr (fun e => hnb (Option.some.inj e)))
  have g1 := fun z : LaterB W b => (RvAt.keptBut H.out.2.2.2 z.gr (fun e => by have := Option.some.inj e; omega)).cell 1 (.int .i64 o.isid) rfl
  have g2 := fun z : LaterB W b => (RvAt.keptBut H.out.2.2.2 z.gr (fun e => by have := Option.some.inj e; omega)).cell 2 (.int .i64 o.other) rfl
  obtain ⟨X0, hX0⟩ : ∃ X0, W.drew = X0 := ⟨_, rfl⟩
  have b0 : Below W.heap.size W X0 := by rw [← hX0]; exact (Below.refl _ _).drew
  obtain ⟨X1, hX1⟩ : ∃ X1, X0.alloc (.cells #[.int .i64 o.isid, .int .i64 o.other] 3) = X1 := ⟨_, rfl⟩
  have b1 : Below X0.heap.size X0 X1 := by rw [← hX1]; exact (Below.refl _ _).alloc (Nat.le_refl _) _
  have b01 := below_over b0 b1
  have IU : Hid (IsAt X1 X0.heap.size [o.isid, o.other] ∧ X0.heap.size < X1.heap.size) := by rw [← hX1]; exact ⟨isat_new _ _ _ _ rfl, by simp⟩
  have HU : Hid (St w X1 q p b c l l a k ∧ RvAt X1 X.heap.size 40 o.cs ∧ W.grownBy X0 (some b) ∧ W.grownBy X1 (some b) ∧ b < X0.heap.size) := ⟨H.out.2.2.1.below b01, H.out.2.2.2.below b01, grown_of_below b0 _, grown_of_below b01 _, by have := H.out.2.2.1.lt; have := b0.size; omega⟩
  clear b0 b1 b01
  go_wp2_with fail
  refine wp_region_noPanic ?_
  refine wp_region_held_drew (S := fun w' => ∃ x : LaterB W b, w' = x.val) (by kernel_rfl) ⟨⟨_, grown_of_below (Below.refl _ _).drew _⟩, rfl⟩ (fun hHeld => ?_)
  rw [hX0] at hHeld ⊢
  clear hX0
  refine wpAnyH_take (i := 0) (oi := { dst := some 85, op := Op.move (Operand.tmp 0), type := 33, pos := "law.go:53", after := #[], guard := none }) (v := ?_) rfl (by kernel_rfl) (by kernel_rfl) (by kernel_rfl) (fun _ _ _ h => h) (Or.inl ⟨by rfl, ?_⟩) hHeld ?_
  rotate_left
  · intro W_ hSw_
    obtain ⟨q, rfl⟩ := hSw_
    first | (go_simp; done) | (go_simp; with_reducible rfl)
  rotate_left
  try simp only [Act.put, List.setIfInBounds_toArray, List.set_cons_zero, List.set_cons_succ]
  refine wpAnyH_take (i := 1) (oi := { dst := some 86, op := Op.nilCheck (Operand.tmp 85), type := 0, pos := "law.go:53", after := #[{ on := 0, ground := Ground.data }], guard := none }) (v := ?_) rfl (by kernel_rfl) (by kernel_rfl) (by kernel_rfl) (fun _ _ _ h => h) (Or.inl ⟨by rfl, ?_⟩) hHeld ?_
  rotate_left
  · intro W_ hSw_
    obtain ⟨q, rfl⟩ := hSw_
    first | (go_simp; done) | (go_simp; with_reducible rfl)
  rotate_left
  try simp only [Act.put, List.setIfInBounds_toArray, List.set_cons_zero, List.set_cons_succ]
  refine wpAnyH_take (i := 2) (oi := { dst := some 87, op := Op.fieldAddr 35 (Operand.tmp 86) 0, type := 0, pos := "law.go:53", after := #[{ on := 1, ground := Ground.data }], guard := none }) (v := ?_) rfl (by kernel_rfl) (by kernel_rfl) (by kernel_rfl) (fun _ _ _ h => h) (Or.inl ⟨by rfl, ?_⟩) hHeld ?_
  rotate_left
  · intro W_ hSw_
    obtain ⟨q, rfl⟩ := hSw_
    first | (go_simp; done) | (go_simp; with_reducible rfl)
  rotate_left
  try simp only [Act.put, List.setIfInBounds_toArray, List.set_cons_zero, List.set_cons_succ]
  refine wpAnyH_take (i := 3) (oi := { dst := some 88, op := Op.load 23 (Operand.tmp 87), type := 23, pos := "law.go:53", after := #[{ on := 2, ground := Ground.data }], guard := none }) (v := ?_) rfl (by kernel_rfl) (by kernel_rfl) (by kernel_rfl) (fun _ _ _ h => h) (Or.inl ⟨by rfl, ?_⟩) hHeld ?_
  rotate_left
  · intro W_ hSw_
    obtain ⟨q, rfl⟩ := hSw_
    first | (go_simp; done) | (go_simp; with_reducible rfl)
  rotate_left
  try simp only [Act.put, List.setIfInBounds_toArray, List.set_cons_zero, List.set_cons_succ]
  refine wpAnyH_take (i := 4) (oi := { dst := some 89, op := Op.fieldAddr 40 (Operand.tmp 3) 1, type := 0, pos := "law.go:53", after := #[], guard := none }) (v := ?_) rfl (by kernel_rfl) (by kernel_rfl) (by kernel_rfl) (fun _ _ _ h => h) (Or.inl ⟨by rfl, ?_⟩) hHeld ?_
  rotate_left
  · intro W_ hSw_
    obtain ⟨q, rfl⟩ := hSw_
    first | (go_simp; done) | (go_simp; with_reducible rfl)
  rotate_left
  try simp only [Act.put, List.setIfInBounds_toArray, List.set_cons_zero, List.set_cons_succ]
  refine wpAnyH_take (i := 5) (oi := { dst := some 90, op := Op.load 3 (Operand.tmp 89), type := 3, pos := "law.go:53", after := #[{ on := 4, ground := Ground.data }], guard := none }) (v := ?_) rfl (by kernel_rfl) (by kernel_rfl) (by kernel_rfl) (fun _ _ _ h => h) (Or.inl ⟨by rfl, ?_⟩) hHeld ?_
  rotate_left
  · intro W_ hSw_
    obtain ⟨q, rfl⟩ := hSw_
    first | (go_simp; done) | (go_simp; with_reducible rfl)
  rotate_left
  try simp only [Act.put, List.setIfInBounds_toArray, List.set_cons_zero, List.set_cons_succ]
  refine wpAnyH_take (i := 6) (oi := { dst := some 91, op := Op.fieldAddr 40 (Operand.tmp 3) 2, type := 0, pos := "law.go:53", after := #[], guard := none }) (v := ?_) rfl (by kernel_rfl) (by kernel_rfl) (by kernel_rfl) (fun _ _ _ h => h) (Or.inl ⟨by rfl, ?_⟩) hHeld ?_
  rotate_left
  · intro W_ hSw_
    obtain ⟨q, rfl⟩ := hSw_
    first | (go_simp; done) | (go_simp; with_reducible rfl)
  rotate_left
  try simp only [Act.put, List.setIfInBounds_toArray, List.set_cons_zero, List.set_cons_succ]
  refine wpAnyH_take (i := 7) (oi := { dst := some 92, op := Op.load 3 (Operand.tmp 91), type := 3, pos := "law.go:53", after := #[{ on := 6, ground := Ground.data }], guard := none }) (v := ?_) rfl (by kernel_rfl) (by kernel_rfl) (by kernel_rfl) (fun _ _ _ h => h) (Or.inl ⟨by rfl, ?_⟩) hHeld ?_
  rotate_left
  · intro W_ hSw_
    obtain ⟨q, rfl⟩ := hSw_
    first | (go_simp; done) | (go_simp; with_reducible rfl)
  rotate_left
  try simp only [Act.put, List.setIfInBounds_toArray, List.set_cons_zero, List.set_cons_succ]
  refine wpAnyH_ready (rs := [8]) (by kernel_rfl) (by simp) ?_
  refine AllReadyH.cons (o := { dst := some 93, op := Op.buildSlice 43 2 #[(0, Operand.tmp 90), (1, Operand.tmp 92)], type := 43, pos := "law.go:53", after := #[{ on := 5, ground := Ground.data }, { on := 7, ground := Ground.data }], guard := none }) rfl (fun K hK => ?_) AllReadyH.nil
  go_simp
  clear hHeld
  refine hK.out _ _ ⟨⟨_, HU.out.2.2.2.1⟩, rfl⟩ (fun hHeld => ?_)
  clear hK K
  try simp only [Act.put, List.setIfInBounds_toArray, List.set_cons_zero, List.set_cons_succ]
  refine wpAnyH_ready (rs := [9]) (by kernel_rfl) (by simp) ?_
  refine AllReadyH.cons (o := { dst := some 94, op := Op.call { callee := Callee.value (Operand.func 18), args := #[Operand.tmp 88, Operand.tmp 93], argTypes := #[23, 43] }, type := 3, pos := "law.go:53", after := #[{ on := 3, ground := Ground.data }, { on := 8, ground := Ground.data }], guard := none }) rfl (fun K hK => ?_) AllReadyH.nil
  go_simp
  refine (flush_any p b c l X0.heap.size 2 2 [o.isid, o.other] _ HU.out.1.db IU.out.1 IU.out.2 (by have := HU.out.2.2.2.2; omega) rfl (by omega) (by omega)).mono ?_
  rintro _ V ⟨rfl, dV, gV⟩
  rw [hlr] at dV ⊢
  have G : Hid (St w V q p b c lr.1 l a k) := HU.out.1.code dV gV
  have rvV : RvAt V X.heap.size 40 o.cs := RvAt.keptBut HU.out.2.1 gV (fun e => by have := Option.some.inj e; omega)
  have GV : Hid (W.grownBy V (some b)) := HU.out.2.2.2.1.andThen gV (fun j e => .inr e)
  clear dV gV
  clear hHeld
  refine hK.out _ _ ⟨⟨_, GV.out⟩, rfl⟩ (fun hHeld => ?_)
  clear hK K
  try simp only [Act.put, List.setIfInBounds_toArray, List.set_cons_zero, List.set_cons_succ]
  refine wpAnyH_ready (rs := [10]) (by kernel_rfl) (by simp) ?_
  refine AllReadyH.cons (o := { dst := some 8, op := Op.assign (Operand.tmp 94), type := 3, pos := "law.go:53", after := #[{ on := 9, ground := Ground.data }, { on := 9, ground := Ground.chain }, { on := 0, ground := Ground.phase }, { on := 1, ground := Ground.phase }, { on := 2, ground := Ground.phase }, { on := 3, ground := Ground.phase }, { on := 4, ground := Ground.phase }, { on := 5, ground := Ground.phase }, { on := 6, ground := Ground.phase }, { on := 7, ground := Ground.phase }, { on := 8, ground := Ground.phase }, { on := 9, ground := Ground.phase }], guard := none }) rfl (fun K hK => ?_) AllReadyH.nil
  go_simp
  clear hHeld
  refine hK.out _ _ ⟨⟨_, GV.out⟩, rfl⟩ (fun hHeld => ?_)
  clear hK K
  try simp only [Act.put, List.setIfInBounds_toArray, List.set_cons_zero, List.set_cons_succ]
  refine wpAnyH_done (by kernel_rfl) ?_ _
  refine NoPanic.normal ?_
  clear hHeld
  have dq := fun z : Later V => (G.out.bo.below z.below).ld
  have d1 := fun z : Later V => (rvV.below z.below).cell 1 (.int .i64 o.isid) rfl
  have d2 := fun z : Later V => (rvV.below z.below).cell 2 (.int .i64 o.other) rfl
  have hl : Hid (Wfs l ∧ Srt l ∧ l.length ≤ 256 ∧ c.wf) := ⟨H.out.1.db.map.2.1, H.out.1.db.map.1, by have := H.out.1.db.len; have := H.out.1.db.wf.room; omega, H.out.1.db.wf⟩
  clear rvV HU f0 g1 g2 hX1 IU GV
  go_upto_region 13 with fail
  go_cut [9, 10] from 95 to 107 (fun vn vm wx => ∃ nb ra rk, vn = .pointer (some ⟨nb, 0, none⟩) ∧ vm = .int .i64 lr.2 ∧ RvAt wx nb 29 (c.rs ra lr.1.length rk) ∧ SlAt wx ra lr.1.length rk lr.1 ∧ (∀ x, ra = some x → a = some x ∨ V.heap.size ≤ x.block) ∧ Below V.heap.size V wx)
  case first =>
    obtain ⟨X0, hX0⟩ : ∃ X0, V.drew = X0 := ⟨_, rfl⟩
    have B0 : Hid (Below V.heap.size V X0) := by rw [← hX0]; exact (Below.refl _ _).drew
    refine wp_region_noPanic ?_
    refine wp_region_held_drew (S := fun w' => ∃ x : Later V, w' = x.val) (by kernel_rfl) ⟨⟨_, (Below.refl _ _).drew⟩, rfl⟩ (fun hHeld => ?_)
    rw [hX0] at hHeld ⊢
    clear hX0
    refine wpAnyH_take (i := 0) (oi := { dst := some 96, op := Op.move (Operand.tmp 0), type := 33, pos := "law.go:54", after := #[], guard := none }) (v := ?_) rfl (by kernel_rfl) (by kernel_rfl) (by kernel_rfl) (fun _ _ _ h => h) (Or.inl ⟨by rfl, ?_⟩) hHeld ?_
    rotate_left
    · intro W_ hSw_
      obtain ⟨q, rfl⟩ := hSw_
      first | (go_simp; done) | (go_simp; with_reducible rfl)
    rotate_left
    try simp only [Act.put, List.setIfInBounds_toArray, List.set_cons_zero, List.set_cons_succ]
    refine wpAnyH_take (i := 1) (oi := { dst := some 97, op := Op.nilCheck (Operand.tmp 96), type := 0, pos := "law.go:54", after := #[{ on := 0, ground := Ground.data }], guard := none }) (v := ?_) rfl (by kernel_rfl) (by kernel_rfl) (by kernel_rfl) (fun _ _ _ h => h) (Or.inl ⟨by rfl, ?_⟩) hHeld ?_
    rotate_left
    · intro W_ hSw_
      obtain ⟨q, rfl⟩ := hSw_
      first | (go_simp; done) | (go_simp; with_reducible rfl)
    rotate_left
    try simp only [Act.put, List.setIfInBounds_toArray, List.set_cons_zero, List.set_cons_succ]
    refine wpAnyH_take (i := 2) (oi := { dst := some 98, op := Op.fieldAddr 35 (Operand.tmp 97) 1, type := 0, pos := "law.go:54", after := #[{ on := 1, ground := Ground.data }], guard := none }) (v := ?_) rfl (by kernel_rfl) (by kernel_rfl) (by kernel_rfl) (fun _ _ _ h => h) (Or.inl ⟨by rfl, ?_⟩) hHeld ?_
    rotate_left
    · intro W_ hSw_
      obtain ⟨q, rfl⟩ := hSw_
      first | (go_simp; done) | (go_simp; with_reducible rfl)
    rotate_left
    try simp only [Act.put, List.setIfInBounds_toArray, List.set_cons_zero, List.set_cons_succ]
    refine wpAnyH_take (i := 3) (oi := { dst := some 99, op := Op.load 29 (Operand.tmp 98), type := 29, pos := "law.go:54", after := #[{ on := 2, ground := Ground.data }], guard := none }) (v := ?_) rfl (by kernel_rfl) (by kernel_rfl) (by kernel_rfl) (fun _ _ _ h => h) (Or.inl ⟨by rfl, ?_⟩) hHeld ?_
    rotate_left
    · intro W_ hSw_
      obtain ⟨q, rfl⟩ := hSw_
      first | (go_simp; done) | (go_simp; with_reducible rfl)
    rotate_left
    try simp only [Act.put, List.setIfInBounds_toArray, List.set_cons_zero, List.set_cons_succ]
    refine wpAnyH_take (i := 4) (oi := { dst := some 100, op := Op.fieldAddr 40 (Operand.tmp 3) 1, type := 0, pos := "law.go:54", after := #[], guard := none }) (v := ?_) rfl (by kernel_rfl) (by kernel_rfl) (by kernel_rfl) (fun _ _ _ h => h) (Or.inl ⟨by rfl, ?_⟩) hHeld ?_
    rotate_left
    · intro W_ hSw_
      obtain ⟨q, rfl⟩ := hSw_
      first | (go_simp; done) | (go_simp; with_reducible rfl)
    rotate_left
    try simp only [Act.put, List.setIfInBounds_toArray, List.set_cons_zero, List.set_cons_succ]
    refine wpAnyH_take (i := 5) (oi := { dst := some 101, op := Op.load 3 (Operand.tmp 100), type := 3, pos := "law.go:54", after := #[{ on := 4, ground := Ground.data }], guard := none }) (v := ?_) rfl (by kernel_rfl) (by kernel_rfl) (by kernel_rfl) (fun _ _ _ h => h) (Or.inl ⟨by rfl, ?_⟩) hHeld ?_
    rotate_left
    · intro W_ hSw_
      obtain ⟨q, rfl⟩ := hSw_
      first | (go_simp; done) | (go_simp; with_reducible rfl)
    rotate_left
    try simp only [Act.put, List.setIfInBounds_toArray, List.set_cons_zero, List.set_cons_succ]
    refine wpAnyH_take (i := 6) (oi := { dst := some 102, op := Op.fieldAddr 40 (Operand.tmp 3) 2, type := 0, pos := "law.go:54", after := #[], guard := none }) (v := ?_) rfl (by kernel_rfl) (by kernel_rfl) (by kernel_rfl) (fun _ _ _ h => h) (Or.inl ⟨by rfl, ?_⟩) hHeld ?_
    rotate_left
    · intro W_ hSw_
      obtain ⟨q, rfl⟩ := hSw_
      first | (go_simp; done) | (go_simp; with_reducible rfl)
    rotate_left
    try simp only [Act.put, List.setIfInBounds_toArray, List.set_cons_zero, List.set_cons_succ]
    refine wpAnyH_take (i := 7) (oi := { dst := some 103, op := Op.load 3 (Operand.tmp 102), type := 3, pos := "law.go:54", after := #[{ on := 6, ground := Ground.data }], guard := none }) (v := ?_) rfl (by kernel_rfl) (by kernel_rfl) (by kernel_rfl) (fun _ _ _ h => h) (Or.inl ⟨by rfl, ?_⟩) hHeld ?_
    rotate_left
    · intro W_ hSw_
      obtain ⟨q, rfl⟩ := hSw_
      first | (go_simp; done) | (go_simp; with_reducible rfl)
    rotate_left
    try simp only [Act.put, List.setIfInBounds_toArray, List.set_cons_zero, List.set_cons_succ]
    refine wpAnyH_ready (rs := [8, 13]) (by kernel_rfl) (by simp) ?_
    refine AllReadyH.cons (o := { dst := some 104, op := Op.buildSlice 43 2 #[(0, Operand.tmp 101), (1, Operand.tmp 103)], type := 43, pos := "law.go:54", after := #[{ on := 5, ground := Ground.data }, { on := 7, ground := Ground.data }], guard := none }) rfl (fun K hK => ?_) (AllReadyH.cons (o := { dst := some 9, op := Op.alloc 29, type := 0, pos := "law.go:54", after := #[], guard := none }) rfl (fun K hK => ?_) AllReadyH.nil)
    · skip
      obtain ⟨X1, hX1⟩ : ∃ X1, X0.alloc (.cells #[.int .i64 o.isid, .int .i64 o.other] 3) = X1 := ⟨_, rfl⟩
      have bb : Below X0.heap.size X0 X1 := by rw [← hX1]; exact (Below.refl _ _).alloc (Nat.le_refl _) _
      have I1 : Hid (IsAt X1 X0.heap.size [o.isid, o.other] ∧ X0.heap.size < X1.heap.size) := by rw [← hX1]; exact ⟨isat_new _ _ _ _ rfl, by simp⟩
      have B1 : Hid (Below V.heap.size V X1) := below_over B0.out bb
      clear bb
      go_simp
      clear hHeld
      refine hK.out _ _ ⟨⟨_, B1.out⟩, rfl⟩ (fun hHeld => ?_)
      clear hK K
      try simp only [Act.put, List.setIfInBounds_toArray, List.set_cons_zero, List.set_cons_succ]
      clear hX1
      refine wpAnyH_ready (rs := [9, 13]) (by kernel_rfl) (by simp) ?_
      refine AllReadyH.cons (o := { dst := some 105, op := Op.call { callee := Callee.value (Operand.func 26), args := #[Operand.tmp 99, Operand.tmp 104], argTypes := #[29, 43] }, type := 66, pos := "law.go:54", after := #[{ on := 3, ground := Ground.data }, { on := 8, ground := Ground.data }], guard := none }) rfl (fun K hK => ?_) (AllReadyH.cons (o := { dst := some 9, op := Op.alloc 29, type := 0, pos := "law.go:54", after := #[], guard := none }) rfl (fun K hK => ?_) AllReadyH.nil)
      · skip
        go_simp
        refine (rflush_any c a l.length k l X0.heap.size 2 2 [o.isid, o.other] _ (G.out.sl.below B1.out) hl.out.1 hl.out.2.2.1 hl.out.2.2.2 I1.out.1 I1.out.2 rfl (by omega)).mono ?_
        rintro _ X2 ⟨⟨v, rfl, ra, rk, rfl, rs, rn⟩, bb⟩
        rw [hlr] at rs ⊢
        have C2 : Hid (SlAt X2 ra lr.1.length rk lr.1 ∧ (∀ x, ra = some x → a = some x ∨ V.heap.size ≤ x.block) ∧ Below V.heap.size V X2) := ⟨rs, fun x hx => (rn x hx).imp id (fun h => Nat.le_trans (B1.out).size h), below_over B1.out bb⟩
        clear bb rs rn
        clear hHeld
        refine hK.out _ _ ⟨⟨_, C2.out.2.2⟩, rfl⟩ (fun hHeld => ?_)
        clear hK K
        try simp only [Act.put, List.setIfInBounds_toArray, List.set_cons_zero, List.set_cons_succ]
        refine wpAnyH_take (i := 10) (oi := { dst := some 95, op := Op.move (Operand.tmp 105), type := 66, pos := "law.go:54", after := #[{ on := 9, ground := Ground.data }], guard := none }) (v := ?_) rfl (by kernel_rfl) (by kernel_rfl) (by kernel_rfl) (fun _ _ _ h => h) (Or.inl ⟨by rfl, ?_⟩) hHeld ?_
        rotate_left
        · intro W_ hSw_
          obtain ⟨q, rfl⟩ := hSw_
          first | (go_simp; done) | (go_simp; with_reducible rfl)
        rotate_left
        try simp only [Act.put, List.setIfInBounds_toArray, List.set_cons_zero, List.set_cons_succ]
        refine wpAnyH_take (i := 11) (oi := { dst := some 106, op := Op.extract (Operand.tmp 95) 0, type := 29, pos := "law.go:54", after := #[{ on := 10, ground := Ground.data }], guard := none }) (v := ?_) rfl (by kernel_rfl) (by kernel_rfl) (by kernel_rfl) (fun _ _ _ h => h) (Or.inl ⟨by rfl, ?_⟩) hHeld ?_
        rotate_left
        · intro W_ hSw_
          obtain ⟨q, rfl⟩ := hSw_
          first | (go_simp; done) | (go_simp; with_reducible rfl)
        rotate_left
        try simp only [Act.put, List.setIfInBounds_toArray, List.set_cons_zero, List.set_cons_succ]
        refine wpAnyH_take (i := 12) (oi := { dst := some 107, op := Op.extract (Operand.tmp 95) 1, type := 3, pos := "law.go:54", after := #[{ on := 10, ground := Ground.data }, { on := 14, ground := Ground.gcOnly Departure.lateStores }], guard := none }) (v := ?_) rfl (by kernel_rfl) (by kernel_rfl) (by kernel_rfl) (fun _ _ _ h => h) (Or.inl ⟨by rfl, ?_⟩) hHeld ?_
        rotate_left
        · intro W_ hSw_
          obtain ⟨q, rfl⟩ := hSw_
          first | (go_simp; done) | (go_simp; with_reducible rfl)
        rotate_left
        try simp only [Act.put, List.setIfInBounds_toArray, List.set_cons_zero, List.set_cons_succ]
        refine wpAnyH_ready (rs := [13]) (by kernel_rfl) (by simp) ?_
        refine AllReadyH.cons (o := { dst := some 9, op := Op.alloc 29, type := 0, pos := "law.go:54", after := #[], guard := none }) rfl (fun K hK => ?_) AllReadyH.nil
        have M3 := Nx.of_alloc C2.out.1 C2.out.2.1 C2.out.2.2
        obtain ⟨X3, hX3⟩ : ∃ X3, X2.alloc (.cells #[.int .i64 0, .int .i64 0, .slice none 0 0] 29) = X3 := ⟨_, rfl⟩
        rw [hX3] at M3
        have M3_ : Hid (Nx V X3 a ra rk X2.heap.size lr.1) := M3
        clear M3
        go_simp
        clear hHeld
        refine hK.out _ _ ⟨⟨_, M3_.out.bl⟩, rfl⟩ (fun hHeld => ?_)
        clear hK K
        try simp only [Act.put, List.setIfInBounds_toArray, List.set_cons_zero, List.set_cons_succ]
        clear hX3
        refine wpAnyH_ready (rs := [14]) (by kernel_rfl) (by simp) ?_
        refine AllReadyH.cons (o := { dst := none, op := Op.store 29 (Operand.tmp 9) (Operand.tmp 106), type := 0, pos := "law.go:54", after := #[{ on := 13, ground := Ground.data }, { on := 11, ground := Ground.data }, { on := 9, ground := Ground.chain }, { on := 0, ground := Ground.phase }, { on := 1, ground := Ground.phase }, { on := 2, ground := Ground.phase }, { on := 3, ground := Ground.phase }, { on := 4, ground := Ground.phase }, { on := 5, ground := Ground.phase }, { on := 6, ground := Ground.phase }, { on := 7, ground := Ground.phase }, { on := 8, ground := Ground.phase }, { on := 9, ground := Ground.phase }, { on := 10, ground := Ground.phase }, { on := 11, ground := Ground.phase }, { on := 12, ground := Ground.textOnly Departure.lateStores }, { on := 13, ground := Ground.phase }], guard := none }) rfl (fun K hK => ?_) AllReadyH.nil
        obtain ⟨X4, s4, r4, t4, f4, b4⟩ := M3_.out.store c
        have E4 : Hid (RvAt X4 X2.heap.size 29 (c.rs ra lr.1.length rk) ∧ SlAt X4 ra lr.1.length rk lr.1 ∧ (∀ x, ra = some x → a = some x ∨ V.heap.size ≤ x.block) ∧ Below V.heap.size V X4) := ⟨r4, t4, f4, b4⟩
        clear r4 t4 f4 b4
        go_simp
        clear hHeld
        refine hK.out _ _ ⟨⟨_, E4.out.2.2.2⟩, rfl⟩ (fun hHeld => ?_)
        clear hK K
        try simp only [Act.put, List.setIfInBounds_toArray, List.set_cons_zero, List.set_cons_succ]
        clear s4
        refine wpAnyH_ready (rs := [15]) (by kernel_rfl) (by simp) ?_
        refine AllReadyH.cons (o := { dst := some 10, op := Op.assign (Operand.tmp 107), type := 3, pos := "law.go:54", after := #[{ on := 12, ground := Ground.data }, { on := 14, ground := Ground.chain }, { on := 0, ground := Ground.phase }, { on := 1, ground := Ground.phase }, { on := 2, ground := Ground.phase }, { on := 3, ground := Ground.phase }, { on := 4, ground := Ground.phase }, { on := 5, ground := Ground.phase }, { on := 6, ground := Ground.phase }, { on := 7, ground := Ground.phase }, { on := 8, ground := Ground.phase }, { on := 9, ground := Ground.phase }, { on := 10, ground := Ground.phase }, { on := 11, ground := Ground.phase }, { on := 12, ground := Ground.phase }, { on := 13, ground := Ground.phase }, { on := 14, ground := Ground.phase }], guard := none }) rfl (fun K hK => ?_) AllReadyH.nil
        go_simp
        clear hHeld
        refine hK.out _ _ ⟨⟨_, E4.out.2.2.2⟩, rfl⟩ (fun hHeld => ?_)
        clear hK K
        try simp only [Act.put, List.setIfInBounds_toArray, List.set_cons_zero, List.set_cons_succ]
        refine wpAnyH_done (by kernel_rfl) ?_ _
        refine NoPanic.normal ?_
        clear hHeld
        go_wp2_with fail
        go_meet
        exact ⟨_, _, _, rfl, rfl, E4.out.1, E4.out.2.1, E4.out.2.2.1, E4.out.2.2.2⟩
      · skip
        obtain ⟨X2, hX2⟩ : ∃ X2, X1.alloc (.cells #[.int .i64 0, .int .i64 0, .slice none 0 0] 29) = X2 := ⟨_, rfl⟩
        have bb : Below X1.heap.size X1 X2 := by rw [← hX2]; exact (Below.refl _ _).alloc (Nat.le_refl _) _
        have N2 : Hid (RvAt X2 X1.heap.size 29 #[.int .i64 0, .int .i64 0, .slice none 0 0] ∧ V.heap.size ≤ X1.heap.size ∧ Below V.heap.size V X2) := ⟨by rw [← hX2]; exact RvAt.new _ _ _, (B1.out).size, below_over B1.out bb⟩
        have I2 : Hid (IsAt X2 X0.heap.size [o.isid, o.other] ∧ X0.heap.size < X2.heap.size) := ⟨fun i v hv => (bb.cell (p := ⟨X0.heap.size, i, none⟩) I1.out.2).trans (I1.out.1 i v hv), Nat.lt_of_lt_of_le I1.out.2 bb.size⟩
        clear bb
        go_simp
        clear hHeld
        refine hK.out _ _ ⟨⟨_, N2.out.2.2⟩, rfl⟩ (fun hHeld => ?_)
        clear hK K
        try simp only [Act.put, List.setIfInBounds_toArray, List.set_cons_zero, List.set_cons_succ]
        clear hX2
        refine wpAnyH_ready (rs := [9]) (by kernel_rfl) (by simp) ?_
        refine AllReadyH.cons (o := { dst := some 105, op := Op.call { callee := Callee.value (Operand.func 26), args := #[Operand.tmp 99, Operand.tmp 104], argTypes := #[29, 43] }, type := 66, pos := "law.go:54", after := #[{ on := 3, ground := Ground.data }, { on := 8, ground := Ground.data }], guard := none }) rfl (fun K hK => ?_) AllReadyH.nil
        go_simp
        refine (rflush_any c a l.length k l X0.heap.size 2 2 [o.isid, o.other] _ (G.out.sl.below N2.out.2.2) hl.out.1 hl.out.2.2.1 hl.out.2.2.2 I2.out.1 I2.out.2 rfl (by omega)).mono ?_
        rintro _ X3 ⟨⟨v, rfl, ra, rk, rfl, rs, rn⟩, bb⟩
        rw [hlr] at rs ⊢
        have M3 : Hid (Nx V X3 a ra rk X1.heap.size lr.1) := Nx.of_call N2.out.1 N2.out.2.1 N2.out.2.2 rs rn bb G.out.sl
        clear bb rs rn
        clear hHeld
        refine hK.out _ _ ⟨⟨_, M3.out.bl⟩, rfl⟩ (fun hHeld => ?_)
        clear hK K
        try simp only [Act.put, List.setIfInBounds_toArray, List.set_cons_zero, List.set_cons_succ]
        refine wpAnyH_take (i := 10) (oi := { dst := some 95, op := Op.move (Operand.tmp 105), type := 66, pos := "law.go:54", after := #[{ on := 9, ground := Ground.data }], guard := none }) (v := ?_) rfl (by kernel_rfl) (by kernel_rfl) (by kernel_rfl) (fun _ _ _ h => h) (Or.inl ⟨by rfl, ?_⟩) hHeld ?_
        rotate_left
        · intro W_ hSw_
          obtain ⟨q, rfl⟩ := hSw_
          first | (go_simp; done) | (go_simp; with_reducible rfl)
        rotate_left
        try simp only [Act.put, List.setIfInBounds_toArray, List.set_cons_zero, List.set_cons_succ]
        refine wpAnyH_take (i := 11) (oi := { dst := some 106, op := Op.extract (Operand.tmp 95) 0, type := 29, pos := "law.go:54", after := #[{ on := 10, ground := Ground.data }], guard := none }) (v := ?_) rfl (by kernel_rfl) (by kernel_rfl) (by kernel_rfl) (fun _ _ _ h => h) (Or.inl ⟨by rfl, ?_⟩) hHeld ?_
        rotate_left
        · intro W_ hSw_
          obtain ⟨q, rfl⟩ := hSw_
          first | (go_simp; done) | (go_simp; with_reducible rfl)
        rotate_left
        try simp only [Act.put, List.setIfInBounds_toArray, List.set_cons_zero, List.set_cons_succ]
        refine wpAnyH_take (i := 12) (oi := { dst := some 107, op := Op.extract (Operand.tmp 95) 1, type := 3, pos := "law.go:54", after := #[{ on := 10, ground := Ground.data }, { on := 14, ground := Ground.gcOnly Departure.lateStores }], guard := none }) (v := ?_) rfl (by kernel_rfl) (by kernel_rfl) (by kernel_rfl) (fun _ _ _ h => h) (Or.inl ⟨by rfl, ?_⟩) hHeld ?_
        rotate_left
        · intro W_ hSw_
          obtain ⟨q, rfl⟩ := hSw_
          first | (go_simp; done) | (go_simp; with_reducible rfl)
        rotate_left
        try simp only [Act.put, List.setIfInBounds_toArray, List.set_cons_zero, List.set_cons_succ]
        refine wpAnyH_ready (rs := [14]) (by kernel_rfl) (by simp) ?_
        refine AllReadyH.cons (o := { dst := none, op := Op.store 29 (Operand.tmp 9) (Operand.tmp 106), type := 0, pos := "law.go:54", after := #[{ on := 13, ground := Ground.data }, { on := 11, ground := Ground.data }, { on := 9, ground := Ground.chain }, { on := 0, ground := Ground.phase }, { on := 1, ground := Ground.phase }, { on := 2, ground := Ground.phase }, { on := 3, ground := Ground.phase }, { on := 4, ground := Ground.phase }, { on := 5, ground := Ground.phase }, { on := 6, ground := Ground.phase }, { on := 7, ground := Ground.phase }, { on := 8, ground := Ground.phase }, { on := 9, ground := Ground.phase }, { on := 10, ground := Ground.phase }, { on := 11, ground := Ground.phase }, { on := 12, ground := Ground.textOnly Departure.lateStores }, { on := 13, ground := Ground.phase }], guard := none }) rfl (fun K hK => ?_) AllReadyH.nil
        obtain ⟨X4, s4, r4, t4, f4, b4⟩ := M3.out.store c
        have E4 : Hid (RvAt X4 X1.heap.size 29 (c.rs ra lr.1.length rk) ∧ SlAt X4 ra lr.1.length rk lr.1 ∧ (∀ x, ra = some x → a = some x ∨ V.heap.size ≤ x.block) ∧ Below V.heap.size V X4) := ⟨r4, t4, f4, b4⟩
        clear r4 t4 f4 b4
        go_simp
        clear hHeld
        refine hK.out _ _ ⟨⟨_, E4.out.2.2.2⟩, rfl⟩ (fun hHeld => ?_)
        clear hK K
        try simp only [Act.put, List.setIfInBounds_toArray, List.set_cons_zero, List.set_cons_succ]
        clear s4
        refine wpAnyH_ready (rs := [15]) (by kernel_rfl) (by simp) ?_
        refine AllReadyH.cons (o := { dst := some 10, op := Op.assign (Operand.tmp 107), type := 3, pos := "law.go:54", after := #[{ on := 12, ground := Ground.data }, { on := 14, ground := Ground.chain }, { on := 0, ground := Ground.phase }, { on := 1, ground := Ground.phase }, { on := 2, ground := Ground.phase }, { on := 3, ground := Ground.phase }, { on := 4, ground := Ground.phase }, { on := 5, ground := Ground.phase }, { on := 6, ground := Ground.phase }, { on := 7, ground := Ground.phase }, { on := 8, ground := Ground.phase }, { on := 9, ground := Ground.phase }, { on := 10, ground := Ground.phase }, { on := 11, ground := Ground.phase }, { on := 12, ground := Ground.phase }, { on := 13, ground := Ground.phase }, { on := 14, ground := Ground.phase }], guard := none }) rfl (fun K hK => ?_) AllReadyH.nil
        go_simp
        clear hHeld
        refine hK.out _ _ ⟨⟨_, E4.out.2.2.2⟩, rfl⟩ (fun hHeld => ?_)
        clear hK K
        try simp only [Act.put, List.setIfInBounds_toArray, List.set_cons_zero, List.set_cons_succ]
        refine wpAnyH_done (by kernel_rfl) ?_ _
        refine NoPanic.normal ?_
        clear hHeld
        go_wp2_with fail
        go_meet
        exact ⟨_, _, _, rfl, rfl, E4.out.1, E4.out.2.1, E4.out.2.2.1, E4.out.2.2.2⟩
    · skip
      obtain ⟨X1, hX1⟩ : ∃ X1, X0.alloc (.cells #[.int .i64 0, .int .i64 0, .slice none 0 0] 29) = X1 := ⟨_, rfl⟩
      have bb : Below X0.heap.size X0 X1 := by rw [← hX1]; exact (Below.refl _ _).alloc (Nat.le_refl _) _
      have N1 : Hid (RvAt X1 X0.heap.size 29 #[.int .i64 0, .int .i64 0, .slice none 0 0] ∧ V.heap.size ≤ X0.heap.size ∧ Below V.heap.size V X1) := ⟨by rw [← hX1]; exact RvAt.new _ _ _, (B0.out).size, below_over B0.out bb⟩
      clear bb
      go_simp
      clear hHeld
      refine hK.out _ _ ⟨⟨_, N1.out.2.2⟩, rfl⟩ (fun hHeld => ?_)
      clear hK K
      try simp only [Act.put, List.setIfInBounds_toArray, List.set_cons_zero, List.set_cons_succ]
      clear hX1
      refine wpAnyH_ready (rs := [8]) (by kernel_rfl) (by simp) ?_
      refine AllReadyH.cons (o := { dst := some 104, op := Op.buildSlice 43 2 #[(0, Operand.tmp 101), (1, Operand.tmp 103)], type := 43, pos := "law.go:54", after := #[{ on := 5, ground := Ground.data }, { on := 7, ground := Ground.data }], guard := none }) rfl (fun K hK => ?_) AllReadyH.nil
      obtain ⟨X2, hX2⟩ : ∃ X2, X1.alloc (.cells #[.int .i64 o.isid, .int .i64 o.other] 3) = X2 := ⟨_, rfl⟩
      have bb : Below X1.heap.size X1 X2 := by rw [← hX2]; exact (Below.refl _ _).alloc (Nat.le_refl _) _
      have I2 : Hid (IsAt X2 X1.heap.size [o.isid, o.other] ∧ X1.heap.size < X2.heap.size) := by rw [← hX2]; exact ⟨isat_new _ _ _ _ rfl, by simp⟩
      have N2 : Hid (RvAt X2 X0.heap.size 29 #[.int .i64 0, .int .i64 0, .slice none 0 0] ∧ V.heap.size ≤ X0.heap.size ∧ Below V.heap.size V X2) := ⟨N1.out.1.below bb, N1.out.2.1, below_over N1.out.2.2 bb⟩
      clear bb
      go_simp
      clear hHeld
      refine hK.out _ _ ⟨⟨_, N2.out.2.2⟩, rfl⟩ (fun hHeld => ?_)
      clear hK K
      try simp only [Act.put, List.setIfInBounds_toArray, List.set_cons_zero, List.set_cons_succ]
      clear hX2
      refine wpAnyH_ready (rs := [9]) (by kernel_rfl) (by simp) ?_
      refine AllReadyH.cons (o := { dst := some 105, op := Op.call { callee := Callee.value (Operand.func 26), args := #[Operand.tmp 99, Operand.tmp 104], argTypes := #[29, 43] }, type := 66, pos := "law.go:54", after := #[{ on := 3, ground := Ground.data }, { on := 8, ground := Ground.data }], guard := none }) rfl (fun K hK => ?_) AllReadyH.nil
      go_simp
      refine (rflush_any c a l.length k l X1.heap.size 2 2 [o.isid, o.other] _ (G.out.sl.below N2.out.2.2) hl.out.1 hl.out.2.2.1 hl.out.2.2.2 I2.out.1 I2.out.2 rfl (by omega)).mono ?_
      rintro _ X3 ⟨⟨v, rfl, ra, rk, rfl, rs, rn⟩, bb⟩
      rw [hlr] at rs ⊢
      have M3 : Hid (Nx V X3 a ra rk X0.heap.size lr.1) := Nx.of_call N2.out.1 N2.out.2.1 N2.out.2.2 rs rn bb G.out.sl
      clear bb rs rn
      clear hHeld
      refine hK.out _ _ ⟨⟨_, M3.out.bl⟩, rfl⟩ (fun hHeld => ?_)
      clear hK K
      try simp only [Act.put, List.setIfInBounds_toArray, List.set_cons_zero, List.set_cons_succ]
      refine wpAnyH_take (i := 10) (oi := { dst := some 95, op := Op.move (Operand.tmp 105), type := 66, pos := "law.go:54", after := #[{ on := 9, ground := Ground.data }], guard := none }) (v := ?_) rfl (by kernel_rfl) (by kernel_rfl) (by kernel_rfl) (fun _ _ _ h => h) (Or.inl ⟨by rfl, ?_⟩) hHeld ?_
      rotate_left
      · intro W_ hSw_
        obtain ⟨q, rfl⟩ := hSw_
        first | (go_simp; done) | (go_simp; with_reducible rfl)
      rotate_left
      try simp only [Act.put, List.setIfInBounds_toArray, List.set_cons_zero, List.set_cons_succ]
      refine wpAnyH_take (i := 11) (oi := { dst := some 106, op := Op.extract (Operand.tmp 95) 0, type := 29, pos := "law.go:54", after := #[{ on := 10, ground := Ground.data }], guard := none }) (v := ?_) rfl (by kernel_rfl) (by kernel_rfl) (by kernel_rfl) (fun _ _ _ h => h) (Or.inl ⟨by rfl, ?_⟩) hHeld ?_
      rotate_left
      · intro W_ hSw_
        obtain ⟨q, rfl⟩ := hSw_
        first | (go_simp; done) | (go_simp; with_reducible rfl)
      rotate_left
      try simp only [Act.put, List.setIfInBounds_toArray, List.set_cons_zero, List.set_cons_succ]
      refine wpAnyH_take (i := 12) (oi := { dst := some 107, op := Op.extract (Operand.tmp 95) 1, type := 3, pos := "law.go:54", after := #[{ on := 10, ground := Ground.data }, { on := 14, ground := Ground.gcOnly Departure.lateStores }], guard := none }) (v := ?_) rfl (by kernel_rfl) (by kernel_rfl) (by kernel_rfl) (fun _ _ _ h => h) (Or.inl ⟨by rfl, ?_⟩) hHeld ?_
      rotate_left
      · intro W_ hSw_
        obtain ⟨q, rfl⟩ := hSw_
        first | (go_simp; done) | (go_simp; with_reducible rfl)
      rotate_left
      try simp only [Act.put, List.setIfInBounds_toArray, List.set_cons_zero, List.set_cons_succ]
      refine wpAnyH_ready (rs := [14]) (by kernel_rfl) (by simp) ?_
      refine AllReadyH.cons (o := { dst := none, op := Op.store 29 (Operand.tmp 9) (Operand.tmp 106), type := 0, pos := "law.go:54", after := #[{ on := 13, ground := Ground.data }, { on := 11, ground := Ground.data }, { on := 9, ground := Ground.chain }, { on := 0, ground := Ground.phase }, { on := 1, ground := Ground.phase }, { on := 2, ground := Ground.phase }, { on := 3, ground := Ground.phase }, { on := 4, ground := Ground.phase }, { on := 5, ground := Ground.phase }, { on := 6, ground := Ground.phase }, { on := 7, ground := Ground.phase }, { on := 8, ground := Ground.phase }, { on := 9, ground := Ground.phase }, { on := 10, ground := Ground.phase }, { on := 11, ground := Ground.phase }, { on := 12, ground := Ground.textOnly Departure.lateStores }, { on := 13, ground := Ground.phase }], guard := none }) rfl (fun K hK => ?_) AllReadyH.nil
      obtain ⟨X4, s4, r4, t4, f4, b4⟩ := M3.out.store c
      have E4 : Hid (RvAt X4 X0.heap.size 29 (c.rs ra lr.1.length rk) ∧ SlAt X4 ra lr.1.length rk lr.1 ∧ (∀ x, ra = some x → a = some x ∨ V.heap.size ≤ x.block) ∧ Below V.heap.size V X4) := ⟨r4, t4, f4, b4⟩
      clear r4 t4 f4 b4
      go_simp
      clear hHeld
      refine hK.out _ _ ⟨⟨_, E4.out.2.2.2⟩, rfl⟩ (fun hHeld => ?_)
      clear hK K
      try simp only [Act.put, List.setIfInBounds_toArray, List.set_cons_zero, List.set_cons_succ]
      clear s4
      refine wpAnyH_ready (rs := [15]) (by kernel_rfl) (by simp) ?_
      refine AllReadyH.cons (o := { dst := some 10, op := Op.assign (Operand.tmp 107), type := 3, pos := "law.go:54", after := #[{ on := 12, ground := Ground.data }, { on := 14, ground := Ground.chain }, { on := 0, ground := Ground.phase }, { on := 1, ground := Ground.phase }, { on := 2, ground := Ground.phase }, { on := 3, ground := Ground.phase }, { on := 4, ground := Ground.phase }, { on := 5, ground := Ground.phase }, { on := 6, ground := Ground.phase }, { on := 7, ground := Ground.phase }, { on := 8, ground := Ground.phase }, { on := 9, ground := Ground.phase }, { on := 10, ground := Ground.phase }, { on := 11, ground := Ground.phase }, { on := 12, ground := Ground.phase }, { on := 13, ground := Ground.phase }, { on := 14, ground := Ground.phase }], guard := none }) rfl (fun K hK => ?_) AllReadyH.nil
      go_simp
      clear hHeld
      refine hK.out _ _ ⟨⟨_, E4.out.2.2.2⟩, rfl⟩ (fun hHeld => ?_)
      clear hK K
      try simp only [Act.put, List.setIfInBounds_toArray, List.set_cons_zero, List.set_cons_succ]
      refine wpAnyH_done (by kernel_rfl) ?_ _
      refine NoPanic.normal ?_
      clear hHeld
      go_wp2_with fail
      go_meet
      exact ⟨_, _, _, rfl, rfl, E4.out.1, E4.out.2.1, E4.out.2.2.1, E4.out.2.2.2⟩
  case rest =>
    obtain ⟨nb, ra, rk, rfl, rfl, e1, e2, e3, e4⟩ := hcut
    obtain ⟨Z, hZ⟩ : ∃ Z, wc = Z := ⟨_, rfl⟩
    rw [hZ] at e1 e2 e4 ⊢
    clear hZ
    obtain ⟨Y, sY, tY⟩ := G.out.ref e2 e3 e4
    have lZ := e1.ld rtR (Cf.rsize _ _ _ _)
    have GY : Hid (St w Y q p b c lr.1 lr.1 ra rk) := tY
    clear tY e1 e2 e3 e4 dq
    go_wp2
    go_ret
    exact ⟨rfl, p, b, ra, rk, by rw [hE.out]; exact GY.out⟩
set_option maxHeartbeats 8000000 in
theorem step_fork (w X : World) (q p b : Nat) (c : Cf) (l : List En) (a : Option Addr) (k : Nat) (o : Oq) (h : St w X q p b c l l a k) (ho : o.wf) (hr : o.act.tmod 8 = 7) :
    Calls Try.prog 11 #[.pointer (some ⟨q, 0, none⟩), .agg o.cs] X fun r X' => r = .returned (.bool true) ∧ ∃ p' b' a' k', St w X' q p' b' c (stepS c l o) (stepS c l o) a' k' := by
  obtain ⟨W, hW⟩ : ∃ W, X.alloc (.cells o.cs 40) = W := ⟨_, rfl⟩
  have bW : Below X.heap.size X W := by rw [← hW]; exact (Below.refl _ _).alloc (Nat.le_refl _) _
  have rv : RvAt W X.heap.size 40 o.cs := by rw [← hW]; exact RvAt.new _ _ _
  have c0 := rv.cell 0 (.int .u8 o.act) rfl
  have f0 := fun z : Later W => ((h.below bW).bo.below z.below).c0
  have g1 := fun z : Later W => (rv.below z.below).cell 1 (.int .i64 o.isid) rfl
  have g2 := fun z : Later W => (rv.below z.below).cell 2 (.int .i64 o.other) rfl
  have g15 := fun z : Later W => (rv.below z.below).cell 15 (.int .i64 o.tick) rfl
  have gc := fun z : Later W => (rv.below z.below).ocmac
  have gb := fun z : Later W => (rv.below z.below).obmac
  have H : Hid (St w X q p b c l l a k ∧ o.wf ∧ St w W q p b c l l a k ∧ RvAt W X.heap.size 40 o.cs) := ⟨h, ho, h.below bW, rv⟩
  clear h ho bW rv
  go_enter Try.func11, Try.ntmps11
  have c00 := H.out.2.2.1.bo.c0
  have hE : Hid (stepS c l o = l) := show _ = _ by
    unfold stepS
    simp [hr]
  go_wp2_with fail
  refine (fork_any p b c l _ H.out.2.2.1.db).mono ?_
  rintro _ V ⟨p', b', rfl, dV, bV, hp', hb'⟩
  have G : Hid (St w V q p b c l l a k ∧ Db V p' b' c l ∧ W.heap.size ≤ p' ∧ W.heap.size ≤ b' ∧ RvAt V X.heap.size 40 o.cs) := ⟨H.out.2.2.1.below bV, dV, hp', hb', H.out.2.2.2.below bV⟩
  have hlt := H.out.2.2.1.lt
  have hXW := H.out.2.2.2.lt
  clear bV dV hp' hb' f0 g1 g2 g15 gc gb c00 c0 hW
  have hVs := G.out.1.lt
  have hnb := G.out.1.nb
  have f0 := fun z : LaterB V b => BoAt.c0 (RvAt.keptBut G.out.1.bo z.gr (fun e => hnb (Option.some.inj e)))
  have g1 := fun z : LaterB V b => (RvAt.keptBut G.out.2.2.2.2 z.gr (fun e => by have := Option.some.inj e; have := H.out.1.lt; omega)).cell 1 (.int .i64 o.isid) rfl
  obtain ⟨X0, hX0⟩ : ∃ X0, V.drew = X0 := ⟨_, rfl⟩
  have b0 : Below V.heap.size V X0 := by rw [← hX0]; exact (Below.refl _ _).drew
  obtain ⟨U1, hU1⟩ : ∃ U1, X0.alloc (.cells #[.int .i64 o.isid] 3) = U1 := ⟨_, rfl⟩
  have b1 : Below X0.heap.size X0 U1 := by rw [← hU1]; exact (Below.refl _ _).alloc (Nat.le_refl _) _
  have b01 := below_over b0 b1
  have IU : Hid (IsAt U1 X0.heap.size [o.isid] ∧ X0.heap.size < U1.heap.size) := by rw [← hU1]; exact ⟨isat_new _ _ _ _ rfl, by simp⟩
  have GU : Hid (St w U1 q p b c l l a k ∧ Db U1 p' b' c l ∧ RvAt U1 X.heap.size 40 o.cs ∧ V.grownBy U1 (some b) ∧ b < X0.heap.size) := ⟨G.out.1.below b01, G.out.2.1.below b01, G.out.2.2.2.2.below b01, grown_of_below b01 _, by have := b0.size; omega⟩
  clear b0 b1 b01
  go_wp2_with fail
  refine wp_region_noPanic ?_
  refine wp_region_held_drew (S := fun w' => ∃ x : LaterB V b, w' = x.val) (by kernel_rfl) ⟨⟨_, grown_of_below (Below.refl _ _).drew _⟩, rfl⟩ (fun hHeld => ?_)
  rw [hX0] at hHeld ⊢
  clear hX0
  refine wpAnyH_take (i := 0) (oi := { dst := some 150, op := Op.move (Operand.tmp 0), type := 33, pos := "law.go:67", after := #[], guard := none }) (v := ?_) rfl (by kernel_rfl) (by kernel_rfl) (by kernel_rfl) (fun _ _ _ h => h) (Or.inl ⟨by rfl, ?_⟩) hHeld ?_
  rotate_left
  · intro W_ hSw_
    obtain ⟨q, rfl⟩ := hSw_
    first | (go_simp; done) | (go_simp; with_reducible rfl)
  rotate_left
  try simp only [Act.put, List.setIfInBounds_toArray, List.set_cons_zero, List.set_cons_succ]
  refine wpAnyH_take (i := 1) (oi := { dst := some 151, op := Op.nilCheck (Operand.tmp 150), type := 0, pos := "law.go:67", after := #[{ on := 0, ground := Ground.data }], guard := none }) (v := ?_) rfl (by kernel_rfl) (by kernel_rfl) (by kernel_rfl) (fun _ _ _ h => h) (Or.inl ⟨by rfl, ?_⟩) hHeld ?_
  rotate_left
  · intro W_ hSw_
    obtain ⟨q, rfl⟩ := hSw_
    first | (go_simp; done) | (go_simp; with_reducible rfl)
  rotate_left
  try simp only [Act.put, List.setIfInBounds_toArray, List.set_cons_zero, List.set_cons_succ]
  refine wpAnyH_take (i := 2) (oi := { dst := some 152, op := Op.fieldAddr 35 (Operand.tmp 151) 0, type := 0, pos := "law.go:67", after := #[{ on := 1, ground := Ground.data }], guard := none }) (v := ?_) rfl (by kernel_rfl) (by kernel_rfl) (by kernel_rfl) (fun _ _ _ h => h) (Or.inl ⟨by rfl, ?_⟩) hHeld ?_
  rotate_left
  · intro W_ hSw_
    obtain ⟨q, rfl⟩ := hSw_
    first | (go_simp; done) | (go_simp; with_reducible rfl)
  rotate_left
  try simp only [Act.put, List.setIfInBounds_toArray, List.set_cons_zero, List.set_cons_succ]
  refine wpAnyH_take (i := 3) (oi := { dst := some 153, op := Op.load 23 (Operand.tmp 152), type := 23, pos := "law.go:67", after := #[{ on := 2, ground := Ground.data }], guard := none }) (v := ?_) rfl (by kernel_rfl) (by kernel_rfl) (by kernel_rfl) (fun _ _ _ h => h) (Or.inl ⟨by rfl, ?_⟩) hHeld ?_
  rotate_left
  · intro W_ hSw_
    obtain ⟨q, rfl⟩ := hSw_
    first | (go_simp; done) | (go_simp; with_reducible rfl)
  rotate_left
  try simp only [Act.put, List.setIfInBounds_toArray, List.set_cons_zero, List.set_cons_succ]
  refine wpAnyH_take (i := 4) (oi := { dst := some 154, op := Op.fieldAddr 40 (Operand.tmp 3) 1, type := 0, pos := "law.go:67", after := #[], guard := none }) (v := ?_) rfl (by kernel_rfl) (by kernel_rfl) (by kernel_rfl) (fun _ _ _ h => h) (Or.inl ⟨by rfl, ?_⟩) hHeld ?_
  rotate_left
  · intro W_ hSw_
    obtain ⟨q, rfl⟩ := hSw_
    first | (go_simp; done) | (go_simp; with_reducible rfl)
  rotate_left
  try simp only [Act.put, List.setIfInBounds_toArray, List.set_cons_zero, List.set_cons_succ]
  refine wpAnyH_take (i := 5) (oi := { dst := some 155, op := Op.load 3 (Operand.tmp 154), type := 3, pos := "law.go:67", after := #[{ on := 4, ground := Ground.data }], guard := none }) (v := ?_) rfl (by kernel_rfl) (by kernel_rfl) (by kernel_rfl) (fun _ _ _ h => h) (Or.inl ⟨by rfl, ?_⟩) hHeld ?_
  rotate_left
  · intro W_ hSw_
    obtain ⟨q, rfl⟩ := hSw_
    first | (go_simp; done) | (go_simp; with_reducible rfl)
  rotate_left
  try simp only [Act.put, List.setIfInBounds_toArray, List.set_cons_zero, List.set_cons_succ]
  refine wpAnyH_ready (rs := [6]) (by kernel_rfl) (by simp) ?_
  refine AllReadyH.cons (o := { dst := some 156, op := Op.buildSlice 43 1 #[(0, Operand.tmp 155)], type := 43, pos := "law.go:67", after := #[{ on := 5, ground := Ground.data }], guard := none }) rfl (fun K hK => ?_) AllReadyH.nil
  go_simp
  clear hHeld
  refine hK.out _ _ ⟨⟨_, GU.out.2.2.2.1⟩, rfl⟩ (fun hHeld => ?_)
  clear hK K
  try simp only [Act.put, List.setIfInBounds_toArray, List.set_cons_zero, List.set_cons_succ]
  refine wpAnyH_ready (rs := [7]) (by kernel_rfl) (by simp) ?_
  refine AllReadyH.cons (o := { dst := some 157, op := Op.call { callee := Callee.value (Operand.func 18), args := #[Operand.tmp 153, Operand.tmp 156], argTypes := #[23, 43] }, type := 3, pos := "law.go:67", after := #[{ on := 3, ground := Ground.data }, { on := 6, ground := Ground.data }], guard := none }) rfl (fun K hK => ?_) AllReadyH.nil
  go_simp
  refine (flush_any p b c l X0.heap.size 1 1 [o.isid] _ GU.out.1.db IU.out.1 IU.out.2 (by have := GU.out.2.2.2.2; omega) rfl (by omega) (by omega)).mono ?_
  rintro _ F ⟨rfl, dF, gF⟩
  have HP := G.out.2.2
  have GF : Hid (St w F q p b c (remS l (flushSh [o.isid])).1 l a k ∧ Db F p' b' c l ∧ RvAt F X.heap.size 40 o.cs ∧ V.grownBy F (some b)) := ⟨GU.out.1.code dF gF, GU.out.2.1.kept gF (fun e => by have := Option.some.inj e; omega) (fun e => by have := Option.some.inj e; omega), RvAt.keptBut GU.out.2.2.1 gF (fun e => by have := Option.some.inj e; have := H.out.1.lt; omega), GU.out.2.2.2.1.andThen gF (fun j e => .inr e)⟩
  clear dF gF
  clear hHeld
  refine hK.out _ _ ⟨⟨_, GF.out.2.2.2⟩, rfl⟩ (fun hHeld => ?_)
  clear hK K
  try simp only [Act.put, List.setIfInBounds_toArray, List.set_cons_zero, List.set_cons_succ]
  refine wpAnyH_done (by kernel_rfl) ?_ _
  refine NoPanic.normal ?_
  clear hHeld
  clear hU1 GU f0 g1
  have f0 := fun z : Later F => (GF.out.1.bo.below z.below).c0
  have g1 := fun z : Later F => (GF.out.2.2.1.below z.below).cell 1 (.int .i64 o.isid) rfl
  have CS1 : Hid (∀ z : Later F, Calls Try.prog 14 #[.int .i64 1] z.val fun r w' => r = .returned (.agg (stA 1).cs) ∧ Below z.val.heap.size z.val w') := fun z => station_any 1 _ (by omega)
  have CS2 : Hid (∀ z : Later F, Calls Try.prog 14 #[.int .i64 2] z.val fun r w' => r = .returned (.agg (stA 2).cs) ∧ Below z.val.heap.size z.val w') := fun z => station_any 2 _ (by omega)
  go_wp2_with fail
  refine wp_region_later_tail 8 (by kernel_rfl) (by kernel_rfl) ?_
  simp only [List.take_succ_cons, List.take_zero]
  repeat (go_big_quiet_step (first | exact rfl | (go_at_call 14; with_reducible exact Calls.later_of (CS1.out _)) | (go_at_call 14; with_reducible exact Calls.later_of (CS2.out _))))
  refine wpQuiet_nil ?_
  intro y
  simp only [List.drop_succ_cons, List.drop_zero]
  have GY : Hid (St w y.val q p b c (remS l (flushSh [o.isid])).1 l a k ∧ Db y.val p' b' c l) := ⟨GF.out.1.below y.below, GF.out.2.1.below y.below⟩
  clear f0 g1 GF CS1 CS2
  go_wp2_with fail
  refine (learn_any p b c (remS l (flushSh [o.isid])).1 ⟨kyOf o.isid (stA 1), stA 2, 0⟩ _ GY.out.1.db (kyOf_wf H.out.2.1.isid (stA_wf (by omega))) (stA_wf (by omega))).mono ?_
  rintro _ L ⟨rfl, dL, gL⟩
  have GL : Hid (St w L q p b c (learnS c (remS l (flushSh [o.isid])).1 ⟨kyOf o.isid (stA 1), stA 2, 0⟩).1 l a k ∧ Db L p' b' c l) :=
    ⟨GY.out.1.code dL gL, GY.out.2.kept gL (fun e => by have := Option.some.inj e; omega) (fun e => by have := Option.some.inj e; omega)⟩
  clear dL gL GY
  obtain ⟨sp, gp⟩ := GL.out.1.bo.setp (p' := p')
  have fz := GL.out.1.bo.fz 0
  have cc := GL.out.1.bo.c0
  obtain ⟨Z, hZ⟩ : ∃ Z, L.setCell ⟨q, 0, none⟩ (.pointer (some ⟨p', 0, none⟩)) = Z := ⟨_, rfl⟩
  rw [hZ] at sp gp
  have hql := H.out.2.2.1.lt
  have hws := H.out.2.2.1.bel.size
  have GZ : Hid (St w Z q p' b' c l l a k) :=
    ⟨GL.out.2.kept gp (fun e => by have := Option.some.inj e; omega) (fun e => by have := Option.some.inj e; omega), sp, GL.out.1.sl.keptBut gp (fun x hx e => (GL.out.1.blk x hx).2 (Option.some.inj e)), fun x hx => ⟨by have := H.out.2.2.1.sl.blk x hx; omega, (GL.out.1.blk x hx).2⟩, by omega, by omega, by omega, GL.out.1.lq, GL.out.1.bel.trans (below_of_grown gp GL.out.1.bel.size (fun j e => by cases e; exact GL.out.1.lq))⟩
  clear sp gp GL
  go_wp2
  go_ret
  exact ⟨rfl, p', b', a, k, by rw [hE.out]; exact GZ.out⟩
end Go.Proofs.Ytoelpbajaadfeaa
