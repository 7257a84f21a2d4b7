/-
  Whether a base and the definition's stand alike: the walk.
-/
import Derived.Test.YtoelpbajaadfeaaBoth
namespace Go.Proofs.Ytoelpbajaadfeaa
set_option linter.unusedVariables false
set_option maxRecDepth 4000
set_option linter.unusedSimpArgs false
open Go.RowKit

attribute [local go_sem ↓] ldK stK ldM stM ldP stP ldE stE apE ldR stR ldO stO
set_option maxHeartbeats 8000000 in
theorem bsame_any (w X : World) (q p b : Nat) (c : Cf) (l : List En) (a : Option Addr) (k : Nat) (o : Oq) (h : St w X q p b c l l a k) (ho : o.wf) :
    Calls Try.prog 12 #[.pointer (some ⟨q, 0, none⟩), .agg o.cs] X fun r X' => r = .returned (.bool true) ∧ St w X' q p b c l l a k := by
  obtain ⟨W, hW⟩ : ∃ W, X.alloc (.cells o.cs 40) = W := ⟨_, rfl⟩
  have bW : Below X.heap.size X W := by rw [← hW]; exact (Below.refl _ _).alloc (Nat.le_refl _) _
  have rv : RvAt W X.heap.size 40 o.cs := by rw [← hW]; exact RvAt.new _ _ _
  have f0 := fun z : Later W => ((h.below bW).bo.below z.below).c0
  have g1 := fun z : Later W => (rv.below z.below).cell 1 (.int .i64 o.isid) rfl
  have gc := fun z : Later W => (rv.below z.below).ocmac
  have H : Hid (St w X q p b c l l a k ∧ o.wf ∧ St w W q p b c l l a k ∧ RvAt W X.heap.size 40 o.cs ∧ Below X.heap.size X W) := ⟨h, ho, h.below bW, rv, bW⟩
  clear h ho bW rv
  go_enter Try.func12, Try.ntmps12
  go_upto_region 1 with fail
  go_cut [5, 6] from 9 to 20 (fun vn vm wx => ∃ nb, vn = .pointer (some ⟨nb, 0, none⟩) ∧ vm = .bool (look l o.k.rk).isSome ∧ RvAt wx nb 38 (plA l o.k.rk).cs ∧ Below W.heap.size W wx)
  case first =>
    obtain ⟨X0, hX0⟩ : ∃ X0, W.drew = X0 := ⟨_, rfl⟩
    have B0 : Hid (Below W.heap.size W X0) := by rw [← hX0]; exact (Below.refl _ _).drew
    refine wp_region_noPanic ?_
    refine wp_region_held_drew (S := fun w' => ∃ x : Later W, w' = x.val) (by kernel_rfl) ⟨⟨_, (Below.refl _ _).drew⟩, rfl⟩ (fun hHeld => ?_)
    rw [hX0] at hHeld ⊢
    clear hX0
    refine wpAnyH_take (i := 0) (oi := { dst := some 10, op := Op.move (Operand.tmp 0), type := 33, pos := "law.go:81", after := #[], guard := none }) (v := ?_) rfl (by kernel_rfl) (by kernel_rfl) (by kernel_rfl) (fun _ _ _ h => h) (Or.inl ⟨by rfl, ?_⟩) hHeld ?_
    rotate_left
    · intro W_ hSw_
      obtain ⟨q, rfl⟩ := hSw_
      first | (go_simp; done) | (go_simp; with_reducible rfl)
    rotate_left
    try simp only [Act.put, List.setIfInBounds_toArray, List.set_cons_zero, List.set_cons_succ]
    refine wpAnyH_take (i := 1) (oi := { dst := some 11, op := Op.nilCheck (Operand.tmp 10), type := 0, pos := "law.go:81", after := #[{ on := 0, ground := Ground.data }], guard := none }) (v := ?_) rfl (by kernel_rfl) (by kernel_rfl) (by kernel_rfl) (fun _ _ _ h => h) (Or.inl ⟨by rfl, ?_⟩) hHeld ?_
    rotate_left
    · intro W_ hSw_
      obtain ⟨q, rfl⟩ := hSw_
      first | (go_simp; done) | (go_simp; with_reducible rfl)
    rotate_left
    try simp only [Act.put, List.setIfInBounds_toArray, List.set_cons_zero, List.set_cons_succ]
    refine wpAnyH_take (i := 2) (oi := { dst := some 12, op := Op.fieldAddr 35 (Operand.tmp 11) 0, type := 0, pos := "law.go:81", after := #[{ on := 1, ground := Ground.data }], guard := none }) (v := ?_) rfl (by kernel_rfl) (by kernel_rfl) (by kernel_rfl) (fun _ _ _ h => h) (Or.inl ⟨by rfl, ?_⟩) hHeld ?_
    rotate_left
    · intro W_ hSw_
      obtain ⟨q, rfl⟩ := hSw_
      first | (go_simp; done) | (go_simp; with_reducible rfl)
    rotate_left
    try simp only [Act.put, List.setIfInBounds_toArray, List.set_cons_zero, List.set_cons_succ]
    refine wpAnyH_take (i := 3) (oi := { dst := some 13, op := Op.load 23 (Operand.tmp 12), type := 23, pos := "law.go:81", after := #[{ on := 2, ground := Ground.data }], guard := none }) (v := ?_) rfl (by kernel_rfl) (by kernel_rfl) (by kernel_rfl) (fun _ _ _ h => h) (Or.inl ⟨by rfl, ?_⟩) hHeld ?_
    rotate_left
    · intro W_ hSw_
      obtain ⟨q, rfl⟩ := hSw_
      first | (go_simp; done) | (go_simp; with_reducible rfl)
    rotate_left
    try simp only [Act.put, List.setIfInBounds_toArray, List.set_cons_zero, List.set_cons_succ]
    refine wpAnyH_take (i := 4) (oi := { dst := some 14, op := Op.fieldAddr 40 (Operand.tmp 3) 1, type := 0, pos := "law.go:81", after := #[], guard := none }) (v := ?_) rfl (by kernel_rfl) (by kernel_rfl) (by kernel_rfl) (fun _ _ _ h => h) (Or.inl ⟨by rfl, ?_⟩) hHeld ?_
    rotate_left
    · intro W_ hSw_
      obtain ⟨q, rfl⟩ := hSw_
      first | (go_simp; done) | (go_simp; with_reducible rfl)
    rotate_left
    try simp only [Act.put, List.setIfInBounds_toArray, List.set_cons_zero, List.set_cons_succ]
    refine wpAnyH_take (i := 5) (oi := { dst := some 15, op := Op.load 3 (Operand.tmp 14), type := 3, pos := "law.go:81", after := #[{ on := 4, ground := Ground.data }], guard := none }) (v := ?_) rfl (by kernel_rfl) (by kernel_rfl) (by kernel_rfl) (fun _ _ _ h => h) (Or.inl ⟨by rfl, ?_⟩) hHeld ?_
    rotate_left
    · intro W_ hSw_
      obtain ⟨q, rfl⟩ := hSw_
      first | (go_simp; done) | (go_simp; with_reducible rfl)
    rotate_left
    try simp only [Act.put, List.setIfInBounds_toArray, List.set_cons_zero, List.set_cons_succ]
    refine wpAnyH_take (i := 6) (oi := { dst := some 16, op := Op.fieldAddr 40 (Operand.tmp 3) 3, type := 0, pos := "law.go:81", after := #[], guard := none }) (v := ?_) rfl (by kernel_rfl) (by kernel_rfl) (by kernel_rfl) (fun _ _ _ h => h) (Or.inl ⟨by rfl, ?_⟩) hHeld ?_
    rotate_left
    · intro W_ hSw_
      obtain ⟨q, rfl⟩ := hSw_
      first | (go_simp; done) | (go_simp; with_reducible rfl)
    rotate_left
    try simp only [Act.put, List.setIfInBounds_toArray, List.set_cons_zero, List.set_cons_succ]
    refine wpAnyH_take (i := 7) (oi := { dst := some 17, op := Op.load 38 (Operand.tmp 16), type := 38, pos := "law.go:81", after := #[{ on := 6, ground := Ground.data }], guard := none }) (v := ?_) rfl (by kernel_rfl) (by kernel_rfl) (by kernel_rfl) (fun _ _ _ h => h) (Or.inl ⟨by rfl, ?_⟩) hHeld ?_
    rotate_left
    · intro W_ hSw_
      obtain ⟨q, rfl⟩ := hSw_
      first | (go_simp; done) | (go_simp; with_reducible rfl)
    rotate_left
    try simp only [Act.put, List.setIfInBounds_toArray, List.set_cons_zero, List.set_cons_succ]
    refine wpAnyH_ready (rs := [8, 12]) (by kernel_rfl) (by simp) ?_
    refine AllReadyH.cons (o := { dst := some 18, op := Op.call { callee := Callee.value (Operand.func 16), args := #[Operand.tmp 13, Operand.tmp 15, Operand.tmp 17], argTypes := #[23, 3, 38] }, type := 47, pos := "law.go:81", after := #[{ on := 3, ground := Ground.data }, { on := 5, ground := Ground.data }, { on := 7, ground := Ground.data }], guard := none }) rfl (fun K hK => ?_) (AllReadyH.cons (o := { dst := some 5, op := Op.alloc 38, type := 0, pos := "law.go:81", after := #[], guard := none }) rfl (fun K hK => ?_) AllReadyH.nil)
    · skip
      go_simp
      refine (find_any p b c l o.k _ (H.out.2.2.1.db.below B0.out) H.out.2.1.k).mono ?_
      rintro _ X1 ⟨rfl, bb⟩
      have B1 : Hid (Below W.heap.size W X1) := below_over B0.out bb
      clear bb
      clear hHeld
      refine hK.out _ _ ⟨⟨_, B1.out⟩, rfl⟩ (fun hHeld => ?_)
      clear hK K
      try simp only [Act.put, List.setIfInBounds_toArray, List.set_cons_zero, List.set_cons_succ]
      refine wpAnyH_take (i := 9) (oi := { dst := some 9, op := Op.move (Operand.tmp 18), type := 47, pos := "law.go:81", after := #[{ on := 8, ground := Ground.data }], guard := none }) (v := ?_) rfl (by kernel_rfl) (by kernel_rfl) (by kernel_rfl) (fun _ _ _ h => h) (Or.inl ⟨by rfl, ?_⟩) hHeld ?_
      rotate_left
      · intro W_ hSw_
        obtain ⟨q, rfl⟩ := hSw_
        first | (go_simp; done) | (go_simp; with_reducible rfl)
      rotate_left
      try simp only [Act.put, List.setIfInBounds_toArray, List.set_cons_zero, List.set_cons_succ]
      refine wpAnyH_take (i := 10) (oi := { dst := some 19, op := Op.extract (Operand.tmp 9) 0, type := 38, pos := "law.go:81", after := #[{ on := 9, ground := Ground.data }], guard := none }) (v := ?_) rfl (by kernel_rfl) (by kernel_rfl) (by kernel_rfl) (fun _ _ _ h => h) (Or.inl ⟨by rfl, ?_⟩) hHeld ?_
      rotate_left
      · intro W_ hSw_
        obtain ⟨q, rfl⟩ := hSw_
        first | (go_simp; done) | (go_simp; with_reducible rfl)
      rotate_left
      try simp only [Act.put, List.setIfInBounds_toArray, List.set_cons_zero, List.set_cons_succ]
      refine wpAnyH_take (i := 11) (oi := { dst := some 20, op := Op.extract (Operand.tmp 9) 1, type := 4, pos := "law.go:81", after := #[{ on := 9, ground := Ground.data }, { on := 13, ground := Ground.gcOnly Departure.lateStores }], guard := none }) (v := ?_) rfl (by kernel_rfl) (by kernel_rfl) (by kernel_rfl) (fun _ _ _ h => h) (Or.inl ⟨by rfl, ?_⟩) hHeld ?_
      rotate_left
      · intro W_ hSw_
        obtain ⟨q, rfl⟩ := hSw_
        first | (go_simp; done) | (go_simp; with_reducible rfl)
      rotate_left
      try simp only [Act.put, List.setIfInBounds_toArray, List.set_cons_zero, List.set_cons_succ]
      refine wpAnyH_ready (rs := [12]) (by kernel_rfl) (by simp) ?_
      refine AllReadyH.cons (o := { dst := some 5, op := Op.alloc 38, type := 0, pos := "law.go:81", after := #[], guard := none }) rfl (fun K hK => ?_) AllReadyH.nil
      obtain ⟨X2, hX2⟩ : ∃ X2, X1.alloc (.cells #[.int .u8 0, .int .u8 0, .int .u8 0, .int .u8 0, .int .u8 0, .int .u8 0] 38) = X2 := ⟨_, rfl⟩
      have N2 : Hid (RvAt X2 X1.heap.size 38 #[.int .u8 0, .int .u8 0, .int .u8 0, .int .u8 0, .int .u8 0, .int .u8 0] ∧ W.heap.size ≤ X1.heap.size ∧ Below W.heap.size W X2) := by rw [← hX2]; exact ⟨RvAt.new _ _ _, (B1.out).size, (B1.out).alloc (B1.out).size _⟩
      go_simp
      clear hHeld
      refine hK.out _ _ ⟨⟨_, N2.out.2.2⟩, rfl⟩ (fun hHeld => ?_)
      clear hK K
      try simp only [Act.put, List.setIfInBounds_toArray, List.set_cons_zero, List.set_cons_succ]
      clear hX2
      refine wpAnyH_ready (rs := [13]) (by kernel_rfl) (by simp) ?_
      refine AllReadyH.cons (o := { dst := none, op := Op.store 38 (Operand.tmp 5) (Operand.tmp 19), type := 0, pos := "law.go:81", after := #[{ on := 12, ground := Ground.data }, { on := 10, ground := Ground.data }, { on := 8, ground := Ground.chain }, { on := 0, ground := Ground.phase }, { on := 1, ground := Ground.phase }, { on := 2, ground := Ground.phase }, { on := 3, ground := Ground.phase }, { on := 4, ground := Ground.phase }, { on := 5, ground := Ground.phase }, { on := 6, ground := Ground.phase }, { on := 7, ground := Ground.phase }, { on := 8, ground := Ground.phase }, { on := 9, ground := Ground.phase }, { on := 10, ground := Ground.phase }, { on := 11, ground := Ground.textOnly Departure.lateStores }, { on := 12, ground := Ground.phase }], guard := none }) rfl (fun K hK => ?_) AllReadyH.nil
      obtain ⟨X3, s3, r3, g3, z3⟩ := N2.out.1.put rtM rfl (Ad.size (plA l o.k.rk)) (Ad.one _)
      have E3 : Hid (RvAt X3 X1.heap.size 38 (plA l o.k.rk).cs ∧ Below W.heap.size W X3) := ⟨r3, N2.out.2.2.trans (below_of_grown g3 N2.out.2.2.size (fun j e => by cases e; exact N2.out.2.1))⟩
      clear r3 g3 z3
      go_simp
      clear hHeld
      refine hK.out _ _ ⟨⟨_, E3.out.2⟩, rfl⟩ (fun hHeld => ?_)
      clear hK K
      try simp only [Act.put, List.setIfInBounds_toArray, List.set_cons_zero, List.set_cons_succ]
      clear s3
      refine wpAnyH_ready (rs := [14]) (by kernel_rfl) (by simp) ?_
      refine AllReadyH.cons (o := { dst := some 6, op := Op.assign (Operand.tmp 20), type := 4, pos := "law.go:81", after := #[{ on := 11, ground := Ground.data }, { on := 13, ground := Ground.chain }, { on := 0, ground := Ground.phase }, { on := 1, ground := Ground.phase }, { on := 2, ground := Ground.phase }, { on := 3, ground := Ground.phase }, { on := 4, ground := Ground.phase }, { on := 5, ground := Ground.phase }, { on := 6, ground := Ground.phase }, { on := 7, ground := Ground.phase }, { on := 8, ground := Ground.phase }, { on := 9, ground := Ground.phase }, { on := 10, ground := Ground.phase }, { on := 11, ground := Ground.phase }, { on := 12, ground := Ground.phase }, { on := 13, ground := Ground.phase }], guard := none }) rfl (fun K hK => ?_) AllReadyH.nil
      go_simp
      clear hHeld
      refine hK.out _ _ ⟨⟨_, E3.out.2⟩, rfl⟩ (fun hHeld => ?_)
      clear hK K
      try simp only [Act.put, List.setIfInBounds_toArray, List.set_cons_zero, List.set_cons_succ]
      refine wpAnyH_done (by kernel_rfl) ?_ _
      refine NoPanic.normal ?_
      clear hHeld
      go_wp2_with fail
      go_meet
      exact ⟨_, rfl, rfl, E3.out.1, E3.out.2⟩
    · skip
      obtain ⟨X1, hX1⟩ : ∃ X1, X0.alloc (.cells #[.int .u8 0, .int .u8 0, .int .u8 0, .int .u8 0, .int .u8 0, .int .u8 0] 38) = X1 := ⟨_, rfl⟩
      have N1 : Hid (RvAt X1 X0.heap.size 38 #[.int .u8 0, .int .u8 0, .int .u8 0, .int .u8 0, .int .u8 0, .int .u8 0] ∧ W.heap.size ≤ X0.heap.size ∧ Below W.heap.size W X1) := by rw [← hX1]; exact ⟨RvAt.new _ _ _, (B0.out).size, (B0.out).alloc (B0.out).size _⟩
      go_simp
      clear hHeld
      refine hK.out _ _ ⟨⟨_, N1.out.2.2⟩, rfl⟩ (fun hHeld => ?_)
      clear hK K
      try simp only [Act.put, List.setIfInBounds_toArray, List.set_cons_zero, List.set_cons_succ]
      clear hX1
      refine wpAnyH_ready (rs := [8]) (by kernel_rfl) (by simp) ?_
      refine AllReadyH.cons (o := { dst := some 18, op := Op.call { callee := Callee.value (Operand.func 16), args := #[Operand.tmp 13, Operand.tmp 15, Operand.tmp 17], argTypes := #[23, 3, 38] }, type := 47, pos := "law.go:81", after := #[{ on := 3, ground := Ground.data }, { on := 5, ground := Ground.data }, { on := 7, ground := Ground.data }], guard := none }) rfl (fun K hK => ?_) AllReadyH.nil
      go_simp
      refine (find_any p b c l o.k _ (H.out.2.2.1.db.below N1.out.2.2) H.out.2.1.k).mono ?_
      rintro _ X2 ⟨rfl, bb⟩
      have N2 : Hid (RvAt X2 X0.heap.size 38 #[.int .u8 0, .int .u8 0, .int .u8 0, .int .u8 0, .int .u8 0, .int .u8 0] ∧ W.heap.size ≤ X0.heap.size ∧ Below W.heap.size W X2) := ⟨N1.out.1.below bb, N1.out.2.1, below_over N1.out.2.2 bb⟩
      clear bb
      clear hHeld
      refine hK.out _ _ ⟨⟨_, N2.out.2.2⟩, rfl⟩ (fun hHeld => ?_)
      clear hK K
      try simp only [Act.put, List.setIfInBounds_toArray, List.set_cons_zero, List.set_cons_succ]
      refine wpAnyH_take (i := 9) (oi := { dst := some 9, op := Op.move (Operand.tmp 18), type := 47, pos := "law.go:81", after := #[{ on := 8, ground := Ground.data }], guard := none }) (v := ?_) rfl (by kernel_rfl) (by kernel_rfl) (by kernel_rfl) (fun _ _ _ h => h) (Or.inl ⟨by rfl, ?_⟩) hHeld ?_
      rotate_left
      · intro W_ hSw_
        obtain ⟨q, rfl⟩ := hSw_
        first | (go_simp; done) | (go_simp; with_reducible rfl)
      rotate_left
      try simp only [Act.put, List.setIfInBounds_toArray, List.set_cons_zero, List.set_cons_succ]
      refine wpAnyH_take (i := 10) (oi := { dst := some 19, op := Op.extract (Operand.tmp 9) 0, type := 38, pos := "law.go:81", after := #[{ on := 9, ground := Ground.data }], guard := none }) (v := ?_) rfl (by kernel_rfl) (by kernel_rfl) (by kernel_rfl) (fun _ _ _ h => h) (Or.inl ⟨by rfl, ?_⟩) hHeld ?_
      rotate_left
      · intro W_ hSw_
        obtain ⟨q, rfl⟩ := hSw_
        first | (go_simp; done) | (go_simp; with_reducible rfl)
      rotate_left
      try simp only [Act.put, List.setIfInBounds_toArray, List.set_cons_zero, List.set_cons_succ]
      refine wpAnyH_take (i := 11) (oi := { dst := some 20, op := Op.extract (Operand.tmp 9) 1, type := 4, pos := "law.go:81", after := #[{ on := 9, ground := Ground.data }, { on := 13, ground := Ground.gcOnly Departure.lateStores }], guard := none }) (v := ?_) rfl (by kernel_rfl) (by kernel_rfl) (by kernel_rfl) (fun _ _ _ h => h) (Or.inl ⟨by rfl, ?_⟩) hHeld ?_
      rotate_left
      · intro W_ hSw_
        obtain ⟨q, rfl⟩ := hSw_
        first | (go_simp; done) | (go_simp; with_reducible rfl)
      rotate_left
      try simp only [Act.put, List.setIfInBounds_toArray, List.set_cons_zero, List.set_cons_succ]
      refine wpAnyH_ready (rs := [13]) (by kernel_rfl) (by simp) ?_
      refine AllReadyH.cons (o := { dst := none, op := Op.store 38 (Operand.tmp 5) (Operand.tmp 19), type := 0, pos := "law.go:81", after := #[{ on := 12, ground := Ground.data }, { on := 10, ground := Ground.data }, { on := 8, ground := Ground.chain }, { on := 0, ground := Ground.phase }, { on := 1, ground := Ground.phase }, { on := 2, ground := Ground.phase }, { on := 3, ground := Ground.phase }, { on := 4, ground := Ground.phase }, { on := 5, ground := Ground.phase }, { on := 6, ground := Ground.phase }, { on := 7, ground := Ground.phase }, { on := 8, ground := Ground.phase }, { on := 9, ground := Ground.phase }, { on := 10, ground := Ground.phase }, { on := 11, ground := Ground.textOnly Departure.lateStores }, { on := 12, ground := Ground.phase }], guard := none }) rfl (fun K hK => ?_) AllReadyH.nil
      obtain ⟨X3, s3, r3, g3, z3⟩ := N2.out.1.put rtM rfl (Ad.size (plA l o.k.rk)) (Ad.one _)
      have E3 : Hid (RvAt X3 X0.heap.size 38 (plA l o.k.rk).cs ∧ Below W.heap.size W X3) := ⟨r3, N2.out.2.2.trans (below_of_grown g3 N2.out.2.2.size (fun j e => by cases e; exact N2.out.2.1))⟩
      clear r3 g3 z3
      go_simp
      clear hHeld
      refine hK.out _ _ ⟨⟨_, E3.out.2⟩, rfl⟩ (fun hHeld => ?_)
      clear hK K
      try simp only [Act.put, List.setIfInBounds_toArray, List.set_cons_zero, List.set_cons_succ]
      clear s3
      refine wpAnyH_ready (rs := [14]) (by kernel_rfl) (by simp) ?_
      refine AllReadyH.cons (o := { dst := some 6, op := Op.assign (Operand.tmp 20), type := 4, pos := "law.go:81", after := #[{ on := 11, ground := Ground.data }, { on := 13, ground := Ground.chain }, { on := 0, ground := Ground.phase }, { on := 1, ground := Ground.phase }, { on := 2, ground := Ground.phase }, { on := 3, ground := Ground.phase }, { on := 4, ground := Ground.phase }, { on := 5, ground := Ground.phase }, { on := 6, ground := Ground.phase }, { on := 7, ground := Ground.phase }, { on := 8, ground := Ground.phase }, { on := 9, ground := Ground.phase }, { on := 10, ground := Ground.phase }, { on := 11, ground := Ground.phase }, { on := 12, ground := Ground.phase }, { on := 13, ground := Ground.phase }], guard := none }) rfl (fun K hK => ?_) AllReadyH.nil
      go_simp
      clear hHeld
      refine hK.out _ _ ⟨⟨_, E3.out.2⟩, rfl⟩ (fun hHeld => ?_)
      clear hK K
      try simp only [Act.put, List.setIfInBounds_toArray, List.set_cons_zero, List.set_cons_succ]
      refine wpAnyH_done (by kernel_rfl) ?_ _
      refine NoPanic.normal ?_
      clear hHeld
      go_wp2_with fail
      go_meet
      exact ⟨_, rfl, rfl, E3.out.1, E3.out.2⟩
  case rest =>
    obtain ⟨n1, rfl, rfl, e1, e2⟩ := hcut
    obtain ⟨V, hV⟩ : ∃ V, wc = V := ⟨_, rfl⟩
    rw [hV] at e1 e2 ⊢
    clear hV
    have BV : Hid (Below W.heap.size W V) := e2
    have GV : Hid (St w V q p b c l l a k ∧ RvAt V X.heap.size 40 o.cs ∧ RvAt V n1 38 (plA l o.k.rk).cs) := ⟨H.out.2.2.1.below e2, H.out.2.2.2.1.below e2, e1⟩
    clear e1 e2 f0 g1 gc
    have fr := fun z : Later V => (GV.out.1.bo.below z.below).ld
    have g1 := fun z : Later V => (GV.out.2.1.below z.below).cell 1 (.int .i64 o.isid) rfl
    have gc := fun z : Later V => (GV.out.2.1.below z.below).ocmac
    go_upto_region 2 with fail
    go_cut [7, 8] from 21 to 32 (fun vn vm wx => ∃ nb, vn = .pointer (some ⟨nb, 0, none⟩) ∧ vm = .bool (look l o.k.rk).isSome ∧ RvAt wx nb 38 (plA l o.k.rk).cs ∧ Below V.heap.size V wx)
    case first =>
      obtain ⟨X0, hX0⟩ : ∃ X0, V.drew = X0 := ⟨_, rfl⟩
      have B0 : Hid (Below V.heap.size V X0) := by rw [← hX0]; exact (Below.refl _ _).drew
      refine wp_region_noPanic ?_
      refine wp_region_held_drew (S := fun w' => ∃ x : Later V, w' = x.val) (by kernel_rfl) ⟨⟨_, (Below.refl _ _).drew⟩, rfl⟩ (fun hHeld => ?_)
      rw [hX0] at hHeld ⊢
      clear hX0
      refine wpAnyH_take (i := 0) (oi := { dst := some 22, op := Op.move (Operand.tmp 0), type := 33, pos := "law.go:82", after := #[], guard := none }) (v := ?_) rfl (by kernel_rfl) (by kernel_rfl) (by kernel_rfl) (fun _ _ _ h => h) (Or.inl ⟨by rfl, ?_⟩) hHeld ?_
      rotate_left
      · intro W_ hSw_
        obtain ⟨q, rfl⟩ := hSw_
        first | (go_simp; done) | (go_simp; with_reducible rfl)
      rotate_left
      try simp only [Act.put, List.setIfInBounds_toArray, List.set_cons_zero, List.set_cons_succ]
      refine wpAnyH_take (i := 1) (oi := { dst := some 23, op := Op.nilCheck (Operand.tmp 22), type := 0, pos := "law.go:82", after := #[{ on := 0, ground := Ground.data }], guard := none }) (v := ?_) rfl (by kernel_rfl) (by kernel_rfl) (by kernel_rfl) (fun _ _ _ h => h) (Or.inl ⟨by rfl, ?_⟩) hHeld ?_
      rotate_left
      · intro W_ hSw_
        obtain ⟨q, rfl⟩ := hSw_
        first | (go_simp; done) | (go_simp; with_reducible rfl)
      rotate_left
      try simp only [Act.put, List.setIfInBounds_toArray, List.set_cons_zero, List.set_cons_succ]
      refine wpAnyH_take (i := 2) (oi := { dst := some 24, op := Op.fieldAddr 35 (Operand.tmp 23) 1, type := 0, pos := "law.go:82", after := #[{ on := 1, ground := Ground.data }], guard := none }) (v := ?_) rfl (by kernel_rfl) (by kernel_rfl) (by kernel_rfl) (fun _ _ _ h => h) (Or.inl ⟨by rfl, ?_⟩) hHeld ?_
      rotate_left
      · intro W_ hSw_
        obtain ⟨q, rfl⟩ := hSw_
        first | (go_simp; done) | (go_simp; with_reducible rfl)
      rotate_left
      try simp only [Act.put, List.setIfInBounds_toArray, List.set_cons_zero, List.set_cons_succ]
      refine wpAnyH_take (i := 3) (oi := { dst := some 25, op := Op.load 29 (Operand.tmp 24), type := 29, pos := "law.go:82", after := #[{ on := 2, ground := Ground.data }], guard := none }) (v := ?_) rfl (by kernel_rfl) (by kernel_rfl) (by kernel_rfl) (fun _ _ _ h => h) (Or.inl ⟨by rfl, ?_⟩) hHeld ?_
      rotate_left
      · intro W_ hSw_
        obtain ⟨q, rfl⟩ := hSw_
        first | (go_simp; done) | (go_simp; with_reducible rfl)
      rotate_left
      try simp only [Act.put, List.setIfInBounds_toArray, List.set_cons_zero, List.set_cons_succ]
      refine wpAnyH_take (i := 4) (oi := { dst := some 26, op := Op.fieldAddr 40 (Operand.tmp 3) 1, type := 0, pos := "law.go:82", after := #[], guard := none }) (v := ?_) rfl (by kernel_rfl) (by kernel_rfl) (by kernel_rfl) (fun _ _ _ h => h) (Or.inl ⟨by rfl, ?_⟩) hHeld ?_
      rotate_left
      · intro W_ hSw_
        obtain ⟨q, rfl⟩ := hSw_
        first | (go_simp; done) | (go_simp; with_reducible rfl)
      rotate_left
      try simp only [Act.put, List.setIfInBounds_toArray, List.set_cons_zero, List.set_cons_succ]
      refine wpAnyH_take (i := 5) (oi := { dst := some 27, op := Op.load 3 (Operand.tmp 26), type := 3, pos := "law.go:82", after := #[{ on := 4, ground := Ground.data }], guard := none }) (v := ?_) rfl (by kernel_rfl) (by kernel_rfl) (by kernel_rfl) (fun _ _ _ h => h) (Or.inl ⟨by rfl, ?_⟩) hHeld ?_
      rotate_left
      · intro W_ hSw_
        obtain ⟨q, rfl⟩ := hSw_
        first | (go_simp; done) | (go_simp; with_reducible rfl)
      rotate_left
      try simp only [Act.put, List.setIfInBounds_toArray, List.set_cons_zero, List.set_cons_succ]
      refine wpAnyH_take (i := 6) (oi := { dst := some 28, op := Op.fieldAddr 40 (Operand.tmp 3) 3, type := 0, pos := "law.go:82", after := #[], guard := none }) (v := ?_) rfl (by kernel_rfl) (by kernel_rfl) (by kernel_rfl) (fun _ _ _ h => h) (Or.inl ⟨by rfl, ?_⟩) hHeld ?_
      rotate_left
      · intro W_ hSw_
        obtain ⟨q, rfl⟩ := hSw_
        first | (go_simp; done) | (go_simp; with_reducible rfl)
      rotate_left
      try simp only [Act.put, List.setIfInBounds_toArray, List.set_cons_zero, List.set_cons_succ]
      refine wpAnyH_take (i := 7) (oi := { dst := some 29, op := Op.load 38 (Operand.tmp 28), type := 38, pos := "law.go:82", after := #[{ on := 6, ground := Ground.data }], guard := none }) (v := ?_) rfl (by kernel_rfl) (by kernel_rfl) (by kernel_rfl) (fun _ _ _ h => h) (Or.inl ⟨by rfl, ?_⟩) hHeld ?_
      rotate_left
      · intro W_ hSw_
        obtain ⟨q, rfl⟩ := hSw_
        first | (go_simp; done) | (go_simp; with_reducible rfl)
      rotate_left
      try simp only [Act.put, List.setIfInBounds_toArray, List.set_cons_zero, List.set_cons_succ]
      refine wpAnyH_ready (rs := [8, 12]) (by kernel_rfl) (by simp) ?_
      refine AllReadyH.cons (o := { dst := some 30, op := Op.call { callee := Callee.value (Operand.func 29), args := #[Operand.tmp 25, Operand.tmp 27, Operand.tmp 29], argTypes := #[29, 3, 38] }, type := 47, pos := "law.go:82", after := #[{ on := 3, ground := Ground.data }, { on := 5, ground := Ground.data }, { on := 7, ground := Ground.data }], guard := none }) rfl (fun K hK => ?_) (AllReadyH.cons (o := { dst := some 7, op := Op.alloc 38, type := 0, pos := "law.go:82", after := #[], guard := none }) rfl (fun K hK => ?_) AllReadyH.nil)
      · skip
        go_simp
        refine (rfind_any c a l.length k l o.k _ (GV.out.1.sl.below B0.out) H.out.1.db.map.2.1 H.out.2.1.k (by have := H.out.1.db.len; have := H.out.1.db.wf.room; omega)).mono ?_
        rintro _ X1 ⟨rfl, bb⟩
        have B1 : Hid (Below V.heap.size V X1) := below_over B0.out bb
        clear bb
        clear hHeld
        refine hK.out _ _ ⟨⟨_, B1.out⟩, rfl⟩ (fun hHeld => ?_)
        clear hK K
        try simp only [Act.put, List.setIfInBounds_toArray, List.set_cons_zero, List.set_cons_succ]
        refine wpAnyH_take (i := 9) (oi := { dst := some 21, op := Op.move (Operand.tmp 30), type := 47, pos := "law.go:82", after := #[{ on := 8, ground := Ground.data }], guard := none }) (v := ?_) rfl (by kernel_rfl) (by kernel_rfl) (by kernel_rfl) (fun _ _ _ h => h) (Or.inl ⟨by rfl, ?_⟩) hHeld ?_
        rotate_left
        · intro W_ hSw_
          obtain ⟨q, rfl⟩ := hSw_
          first | (go_simp; done) | (go_simp; with_reducible rfl)
        rotate_left
        try simp only [Act.put, List.setIfInBounds_toArray, List.set_cons_zero, List.set_cons_succ]
        refine wpAnyH_take (i := 10) (oi := { dst := some 31, op := Op.extract (Operand.tmp 21) 0, type := 38, pos := "law.go:82", after := #[{ on := 9, ground := Ground.data }], guard := none }) (v := ?_) rfl (by kernel_rfl) (by kernel_rfl) (by kernel_rfl) (fun _ _ _ h => h) (Or.inl ⟨by rfl, ?_⟩) hHeld ?_
        rotate_left
        · intro W_ hSw_
          obtain ⟨q, rfl⟩ := hSw_
          first | (go_simp; done) | (go_simp; with_reducible rfl)
        rotate_left
        try simp only [Act.put, List.setIfInBounds_toArray, List.set_cons_zero, List.set_cons_succ]
        refine wpAnyH_take (i := 11) (oi := { dst := some 32, op := Op.extract (Operand.tmp 21) 1, type := 4, pos := "law.go:82", after := #[{ on := 9, ground := Ground.data }, { on := 13, ground := Ground.gcOnly Departure.lateStores }], guard := none }) (v := ?_) rfl (by kernel_rfl) (by kernel_rfl) (by kernel_rfl) (fun _ _ _ h => h) (Or.inl ⟨by rfl, ?_⟩) hHeld ?_
        rotate_left
        · intro W_ hSw_
          obtain ⟨q, rfl⟩ := hSw_
          first | (go_simp; done) | (go_simp; with_reducible rfl)
        rotate_left
        try simp only [Act.put, List.setIfInBounds_toArray, List.set_cons_zero, List.set_cons_succ]
        refine wpAnyH_ready (rs := [12]) (by kernel_rfl) (by simp) ?_
        refine AllReadyH.cons (o := { dst := some 7, op := Op.alloc 38, type := 0, pos := "law.go:82", after := #[], guard := none }) rfl (fun K hK => ?_) AllReadyH.nil
        obtain ⟨X2, hX2⟩ : ∃ X2, X1.alloc (.cells #[.int .u8 0, .int .u8 0, .int .u8 0, .int .u8 0, .int .u8 0, .int .u8 0] 38) = X2 := ⟨_, rfl⟩
        have N2 : Hid (RvAt X2 X1.heap.size 38 #[.int .u8 0, .int .u8 0, .int .u8 0, .int .u8 0, .int .u8 0, .int .u8 0] ∧ V.heap.size ≤ X1.heap.size ∧ Below V.heap.size V X2) := by rw [← hX2]; exact ⟨RvAt.new _ _ _, (B1.out).size, (B1.out).alloc (B1.out).size _⟩
        go_simp
        clear hHeld
        refine hK.out _ _ ⟨⟨_, N2.out.2.2⟩, rfl⟩ (fun hHeld => ?_)
        clear hK K
        try simp only [Act.put, List.setIfInBounds_toArray, List.set_cons_zero, List.set_cons_succ]
        clear hX2
        refine wpAnyH_ready (rs := [13]) (by kernel_rfl) (by simp) ?_
        refine AllReadyH.cons (o := { dst := none, op := Op.store 38 (Operand.tmp 7) (Operand.tmp 31), type := 0, pos := "law.go:82", after := #[{ on := 12, ground := Ground.data }, { on := 10, ground := Ground.data }, { on := 8, ground := Ground.chain }, { on := 0, ground := Ground.phase }, { on := 1, ground := Ground.phase }, { on := 2, ground := Ground.phase }, { on := 3, ground := Ground.phase }, { on := 4, ground := Ground.phase }, { on := 5, ground := Ground.phase }, { on := 6, ground := Ground.phase }, { on := 7, ground := Ground.phase }, { on := 8, ground := Ground.phase }, { on := 9, ground := Ground.phase }, { on := 10, ground := Ground.phase }, { on := 11, ground := Ground.textOnly Departure.lateStores }, { on := 12, ground := Ground.phase }], guard := none }) rfl (fun K hK => ?_) AllReadyH.nil
        obtain ⟨X3, s3, r3, g3, z3⟩ := N2.out.1.put rtM rfl (Ad.size (plA l o.k.rk)) (Ad.one _)
        have E3 : Hid (RvAt X3 X1.heap.size 38 (plA l o.k.rk).cs ∧ Below V.heap.size V X3) := ⟨r3, N2.out.2.2.trans (below_of_grown g3 N2.out.2.2.size (fun j e => by cases e; exact N2.out.2.1))⟩
        clear r3 g3 z3
        go_simp
        clear hHeld
        refine hK.out _ _ ⟨⟨_, E3.out.2⟩, rfl⟩ (fun hHeld => ?_)
        clear hK K
        try simp only [Act.put, List.setIfInBounds_toArray, List.set_cons_zero, List.set_cons_succ]
        clear s3
        refine wpAnyH_ready (rs := [14]) (by kernel_rfl) (by simp) ?_
        refine AllReadyH.cons (o := { dst := some 8, op := Op.assign (Operand.tmp 32), type := 4, pos := "law.go:82", after := #[{ on := 11, ground := Ground.data }, { on := 13, ground := Ground.chain }, { on := 0, ground := Ground.phase }, { on := 1, ground := Ground.phase }, { on := 2, ground := Ground.phase }, { on := 3, ground := Ground.phase }, { on := 4, ground := Ground.phase }, { on := 5, ground := Ground.phase }, { on := 6, ground := Ground.phase }, { on := 7, ground := Ground.phase }, { on := 8, ground := Ground.phase }, { on := 9, ground := Ground.phase }, { on := 10, ground := Ground.phase }, { on := 11, ground := Ground.phase }, { on := 12, ground := Ground.phase }, { on := 13, ground := Ground.phase }], guard := none }) rfl (fun K hK => ?_) AllReadyH.nil
        go_simp
        clear hHeld
        refine hK.out _ _ ⟨⟨_, E3.out.2⟩, rfl⟩ (fun hHeld => ?_)
        clear hK K
        try simp only [Act.put, List.setIfInBounds_toArray, List.set_cons_zero, List.set_cons_succ]
        refine wpAnyH_done (by kernel_rfl) ?_ _
        refine NoPanic.normal ?_
        clear hHeld
        go_wp2_with fail
        go_meet
        exact ⟨_, rfl, rfl, E3.out.1, E3.out.2⟩
      · skip
        obtain ⟨X1, hX1⟩ : ∃ X1, X0.alloc (.cells #[.int .u8 0, .int .u8 0, .int .u8 0, .int .u8 0, .int .u8 0, .int .u8 0] 38) = X1 := ⟨_, rfl⟩
        have N1 : Hid (RvAt X1 X0.heap.size 38 #[.int .u8 0, .int .u8 0, .int .u8 0, .int .u8 0, .int .u8 0, .int .u8 0] ∧ V.heap.size ≤ X0.heap.size ∧ Below V.heap.size V X1) := by rw [← hX1]; exact ⟨RvAt.new _ _ _, (B0.out).size, (B0.out).alloc (B0.out).size _⟩
        go_simp
        clear hHeld
        refine hK.out _ _ ⟨⟨_, N1.out.2.2⟩, rfl⟩ (fun hHeld => ?_)
        clear hK K
        try simp only [Act.put, List.setIfInBounds_toArray, List.set_cons_zero, List.set_cons_succ]
        clear hX1
        refine wpAnyH_ready (rs := [8]) (by kernel_rfl) (by simp) ?_
        refine AllReadyH.cons (o := { dst := some 30, op := Op.call { callee := Callee.value (Operand.func 29), args := #[Operand.tmp 25, Operand.tmp 27, Operand.tmp 29], argTypes := #[29, 3, 38] }, type := 47, pos := "law.go:82", after := #[{ on := 3, ground := Ground.data }, { on := 5, ground := Ground.data }, { on := 7, ground := Ground.data }], guard := none }) rfl (fun K hK => ?_) AllReadyH.nil
        go_simp
        refine (rfind_any c a l.length k l o.k _ (GV.out.1.sl.below N1.out.2.2) H.out.1.db.map.2.1 H.out.2.1.k (by have := H.out.1.db.len; have := H.out.1.db.wf.room; omega)).mono ?_
        rintro _ X2 ⟨rfl, bb⟩
        have N2 : Hid (RvAt X2 X0.heap.size 38 #[.int .u8 0, .int .u8 0, .int .u8 0, .int .u8 0, .int .u8 0, .int .u8 0] ∧ V.heap.size ≤ X0.heap.size ∧ Below V.heap.size V X2) := ⟨N1.out.1.below bb, N1.out.2.1, below_over N1.out.2.2 bb⟩
        clear bb
        clear hHeld
        refine hK.out _ _ ⟨⟨_, N2.out.2.2⟩, rfl⟩ (fun hHeld => ?_)
        clear hK K
        try simp only [Act.put, List.setIfInBounds_toArray, List.set_cons_zero, List.set_cons_succ]
        refine wpAnyH_take (i := 9) (oi := { dst := some 21, op := Op.move (Operand.tmp 30), type := 47, pos := "law.go:82", after := #[{ on := 8, ground := Ground.data }], guard := none }) (v := ?_) rfl (by kernel_rfl) (by kernel_rfl) (by kernel_rfl) (fun _ _ _ h => h) (Or.inl ⟨by rfl, ?_⟩) hHeld ?_
        rotate_left
        · intro W_ hSw_
          obtain ⟨q, rfl⟩ := hSw_
          first | (go_simp; done) | (go_simp; with_reducible rfl)
        rotate_left
        try simp only [Act.put, List.setIfInBounds_toArray, List.set_cons_zero, List.set_cons_succ]
        refine wpAnyH_take (i := 10) (oi := { dst := some 31, op := Op.extract (Operand.tmp 21) 0, type := 38, pos := "law.go:82", after := #[{ on := 9, ground := Ground.data }], guard := none }) (v := ?_) rfl (by kernel_rfl) (by kernel_rfl) (by kernel_rfl) (fun _ _ _ h => h) (Or.inl ⟨by rfl, ?_⟩) hHeld ?_
        rotate_left
        · intro W_ hSw_
          obtain ⟨q, rfl⟩ := hSw_
          first | (go_simp; done) | (go_simp; with_reducible rfl)
        rotate_left
        try simp only [Act.put, List.setIfInBounds_toArray, List.set_cons_zero, List.set_cons_succ]
        refine wpAnyH_take (i := 11) (oi := { dst := some 32, op := Op.extract (Operand.tmp 21) 1, type := 4, pos := "law.go:82", after := #[{ on := 9, ground := Ground.data }, { on := 13, ground := Ground.gcOnly Departure.lateStores }], guard := none }) (v := ?_) rfl (by kernel_rfl) (by kernel_rfl) (by kernel_rfl) (fun _ _ _ h => h) (Or.inl ⟨by rfl, ?_⟩) hHeld ?_
        rotate_left
        · intro W_ hSw_
          obtain ⟨q, rfl⟩ := hSw_
          first | (go_simp; done) | (go_simp; with_reducible rfl)
        rotate_left
        try simp only [Act.put, List.setIfInBounds_toArray, List.set_cons_zero, List.set_cons_succ]
        refine wpAnyH_ready (rs := [13]) (by kernel_rfl) (by simp) ?_
        refine AllReadyH.cons (o := { dst := none, op := Op.store 38 (Operand.tmp 7) (Operand.tmp 31), type := 0, pos := "law.go:82", after := #[{ on := 12, ground := Ground.data }, { on := 10, ground := Ground.data }, { on := 8, ground := Ground.chain }, { on := 0, ground := Ground.phase }, { on := 1, ground := Ground.phase }, { on := 2, ground := Ground.phase }, { on := 3, ground := Ground.phase }, { on := 4, ground := Ground.phase }, { on := 5, ground := Ground.phase }, { on := 6, ground := Ground.phase }, { on := 7, ground := Ground.phase }, { on := 8, ground := Ground.phase }, { on := 9, ground := Ground.phase }, { on := 10, ground := Ground.phase }, { on := 11, ground := Ground.textOnly Departure.lateStores }, { on := 12, ground := Ground.phase }], guard := none }) rfl (fun K hK => ?_) AllReadyH.nil
        obtain ⟨X3, s3, r3, g3, z3⟩ := N2.out.1.put rtM rfl (Ad.size (plA l o.k.rk)) (Ad.one _)
        have E3 : Hid (RvAt X3 X0.heap.size 38 (plA l o.k.rk).cs ∧ Below V.heap.size V X3) := ⟨r3, N2.out.2.2.trans (below_of_grown g3 N2.out.2.2.size (fun j e => by cases e; exact N2.out.2.1))⟩
        clear r3 g3 z3
        go_simp
        clear hHeld
        refine hK.out _ _ ⟨⟨_, E3.out.2⟩, rfl⟩ (fun hHeld => ?_)
        clear hK K
        try simp only [Act.put, List.setIfInBounds_toArray, List.set_cons_zero, List.set_cons_succ]
        clear s3
        refine wpAnyH_ready (rs := [14]) (by kernel_rfl) (by simp) ?_
        refine AllReadyH.cons (o := { dst := some 8, op := Op.assign (Operand.tmp 32), type := 4, pos := "law.go:82", after := #[{ on := 11, ground := Ground.data }, { on := 13, ground := Ground.chain }, { on := 0, ground := Ground.phase }, { on := 1, ground := Ground.phase }, { on := 2, ground := Ground.phase }, { on := 3, ground := Ground.phase }, { on := 4, ground := Ground.phase }, { on := 5, ground := Ground.phase }, { on := 6, ground := Ground.phase }, { on := 7, ground := Ground.phase }, { on := 8, ground := Ground.phase }, { on := 9, ground := Ground.phase }, { on := 10, ground := Ground.phase }, { on := 11, ground := Ground.phase }, { on := 12, ground := Ground.phase }, { on := 13, ground := Ground.phase }], guard := none }) rfl (fun K hK => ?_) AllReadyH.nil
        go_simp
        clear hHeld
        refine hK.out _ _ ⟨⟨_, E3.out.2⟩, rfl⟩ (fun hHeld => ?_)
        clear hK K
        try simp only [Act.put, List.setIfInBounds_toArray, List.set_cons_zero, List.set_cons_succ]
        refine wpAnyH_done (by kernel_rfl) ?_ _
        refine NoPanic.normal ?_
        clear hHeld
        go_wp2_with fail
        go_meet
        exact ⟨_, rfl, rfl, E3.out.1, E3.out.2⟩
    case rest =>
      obtain ⟨n2, rfl, rfl, e1, e2⟩ := hcut
      obtain ⟨V2, hV2⟩ : ∃ V2, wc = V2 := ⟨_, rfl⟩
      rw [hV2] at e1 e2 ⊢
      clear hV2
      have BV2 : Hid (Below V.heap.size V V2) := e2
      have G : Hid (St w V2 q p b c l l a k ∧ RvAt V2 X.heap.size 40 o.cs ∧ l.length ≤ 1000) := ⟨GV.out.1.below e2, GV.out.2.1.below e2, by have := H.out.1.db.len; have := H.out.1.db.wf.room; omega⟩
      have m1 := fun z : Later V2 => ((GV.out.2.2.below e2).below z.below).ld rtM (Ad.size _)
      have m2 := fun z : Later V2 => (e1.below z.below).ld rtM (Ad.size _)
      have ee := eqA (plA l o.k.rk) (plA l o.k.rk)
      simp only [decide_true] at ee
      have f0 := fun z : Later V2 => (G.out.1.bo.below z.below).c0
      have f3 := fun z : Later V2 => (G.out.1.bo.below z.below).c3
      have fr := fun z : Later V2 => (G.out.1.bo.below z.below).ld
      have fb := fun z : Later V2 => (G.out.2.1.below z.below).obmac
      clear e1 e2 GV
      go_wp2_with fail
      obtain ⟨X0, hX0⟩ : ∃ X0, V2.drew = X0 := ⟨_, rfl⟩
      have B0 : Hid (Below V2.heap.size V2 X0) := by rw [← hX0]; exact (Below.refl _ _).drew
      refine wp_region_noPanic ?_
      refine wp_region_held_drew (S := fun w' => ∃ x : Later V2, w' = x.val) (by kernel_rfl) ⟨⟨_, (Below.refl _ _).drew⟩, rfl⟩ (fun hHeld => ?_)
      rw [hX0] at hHeld ⊢
      clear hX0
      refine wpAnyH_take (i := 0) (oi := { dst := some 33, op := Op.load 38 (Operand.tmp 5), type := 38, pos := "law.go:83", after := #[], guard := none }) (v := ?_) rfl (by kernel_rfl) (by kernel_rfl) (by kernel_rfl) (fun _ _ _ h => h) (Or.inl ⟨by rfl, ?_⟩) hHeld ?_
      rotate_left
      · intro W_ hSw_
        obtain ⟨q, rfl⟩ := hSw_
        first | (go_simp; done) | (go_simp; with_reducible rfl)
      rotate_left
      try simp only [Act.put, List.setIfInBounds_toArray, List.set_cons_zero, List.set_cons_succ]
      refine wpAnyH_take (i := 1) (oi := { dst := some 34, op := Op.load 38 (Operand.tmp 7), type := 38, pos := "law.go:83", after := #[], guard := none }) (v := ?_) rfl (by kernel_rfl) (by kernel_rfl) (by kernel_rfl) (fun _ _ _ h => h) (Or.inl ⟨by rfl, ?_⟩) hHeld ?_
      rotate_left
      · intro W_ hSw_
        obtain ⟨q, rfl⟩ := hSw_
        first | (go_simp; done) | (go_simp; with_reducible rfl)
      rotate_left
      try simp only [Act.put, List.setIfInBounds_toArray, List.set_cons_zero, List.set_cons_succ]
      refine wpAnyH_take (i := 2) (oi := { dst := some 35, op := Op.binOp BinOp.eql 38 (Operand.tmp 33) (Operand.tmp 34) 38, type := 4, pos := "law.go:83", after := #[{ on := 0, ground := Ground.data }, { on := 1, ground := Ground.data }], guard := none }) (v := ?_) rfl (by kernel_rfl) (by kernel_rfl) (by kernel_rfl) (fun _ _ _ h => h) (Or.inl ⟨by rfl, ?_⟩) hHeld ?_
      rotate_left
      · intro W_ hSw_
        obtain ⟨q, rfl⟩ := hSw_
        first | (go_simp; done) | (go_simp; with_reducible rfl)
      rotate_left
      try simp only [Act.put, List.setIfInBounds_toArray, List.set_cons_zero, List.set_cons_succ]
      refine wpAnyH_take (i := 3) (oi := { dst := some 36, op := Op.move (Operand.tmp 35), type := 4, pos := "law.go:83", after := #[{ on := 2, ground := Ground.data }], guard := none }) (v := ?_) rfl (by kernel_rfl) (by kernel_rfl) (by kernel_rfl) (fun _ _ _ h => h) (Or.inl ⟨by rfl, ?_⟩) hHeld ?_
      rotate_left
      · intro W_ hSw_
        obtain ⟨q, rfl⟩ := hSw_
        first | (go_simp; done) | (go_simp; with_reducible rfl)
      rotate_left
      try simp only [Act.put, List.setIfInBounds_toArray, List.set_cons_zero, List.set_cons_succ]
      refine wpAnyH_take (i := 4) (oi := { dst := some 37, op := Op.move (Operand.tmp 6), type := 4, pos := "law.go:83", after := #[{ on := 3, ground := Ground.guard }], guard := some (3, true) }) (v := ?_) rfl (by kernel_rfl) (by kernel_rfl) (by kernel_rfl) (fun _ _ _ h => h) (Or.inl ⟨by rfl, ?_⟩) hHeld ?_
      rotate_left
      · intro W_ hSw_
        obtain ⟨q, rfl⟩ := hSw_
        first | (go_simp; done) | (go_simp; with_reducible rfl)
      rotate_left
      try simp only [Act.put, List.setIfInBounds_toArray, List.set_cons_zero, List.set_cons_succ]
      refine wpAnyH_take (i := 5) (oi := { dst := some 38, op := Op.move (Operand.tmp 8), type := 4, pos := "law.go:83", after := #[{ on := 3, ground := Ground.guard }], guard := some (3, true) }) (v := ?_) rfl (by kernel_rfl) (by kernel_rfl) (by kernel_rfl) (fun _ _ _ h => h) (Or.inl ⟨by rfl, ?_⟩) hHeld ?_
      rotate_left
      · intro W_ hSw_
        obtain ⟨q, rfl⟩ := hSw_
        first | (go_simp; done) | (go_simp; with_reducible rfl)
      rotate_left
      try simp only [Act.put, List.setIfInBounds_toArray, List.set_cons_zero, List.set_cons_succ]
      refine wpAnyH_take (i := 6) (oi := { dst := some 39, op := Op.binOp BinOp.eql 4 (Operand.tmp 37) (Operand.tmp 38) 4, type := 4, pos := "law.go:83", after := #[{ on := 4, ground := Ground.data }, { on := 5, ground := Ground.data }, { on := 3, ground := Ground.guard }], guard := some (3, true) }) (v := ?_) rfl (by kernel_rfl) (by kernel_rfl) (by kernel_rfl) (fun _ _ _ h => h) (Or.inl ⟨by rfl, ?_⟩) hHeld ?_
      rotate_left
      · intro W_ hSw_
        obtain ⟨q, rfl⟩ := hSw_
        first | (go_simp; done) | (go_simp; with_reducible rfl)
      rotate_left
      try simp only [Act.put, List.setIfInBounds_toArray, List.set_cons_zero, List.set_cons_succ]
      refine wpAnyH_take (i := 7) (oi := { dst := some 40, op := Op.pick (Operand.tmp 36) (Operand.tmp 39) (Operand.const (Value.bool false)), type := 4, pos := "law.go:83", after := #[{ on := 3, ground := Ground.data }, { on := 6, ground := Ground.data }], guard := none }) (v := ?_) rfl (by kernel_rfl) (by kernel_rfl) (by kernel_rfl) (fun _ _ _ h => h) (Or.inl ⟨by rfl, ?_⟩) hHeld ?_
      rotate_left
      · intro W_ hSw_
        obtain ⟨q, rfl⟩ := hSw_
        first | (go_simp; done) | (go_simp; with_reducible rfl)
      rotate_left
      try simp only [Act.put, List.setIfInBounds_toArray, List.set_cons_zero, List.set_cons_succ]
      refine wpAnyH_take (i := 8) (oi := { dst := some 41, op := Op.move (Operand.tmp 40), type := 4, pos := "law.go:83", after := #[{ on := 7, ground := Ground.data }, { on := 3, ground := Ground.chain }], guard := none }) (v := ?_) rfl (by kernel_rfl) (by kernel_rfl) (by kernel_rfl) (fun _ _ _ h => h) (Or.inl ⟨by rfl, ?_⟩) hHeld ?_
      rotate_left
      · intro W_ hSw_
        obtain ⟨q, rfl⟩ := hSw_
        first | (go_simp; done) | (go_simp; with_reducible rfl)
      rotate_left
      try simp only [Act.put, List.setIfInBounds_toArray, List.set_cons_zero, List.set_cons_succ]
      refine wpAnyH_take (i := 9) (oi := { dst := some 42, op := Op.move (Operand.tmp 0), type := 33, pos := "law.go:83", after := #[{ on := 8, ground := Ground.guard }], guard := some (8, true) }) (v := ?_) rfl (by kernel_rfl) (by kernel_rfl) (by kernel_rfl) (fun _ _ _ h => h) (Or.inl ⟨by rfl, ?_⟩) hHeld ?_
      rotate_left
      · intro W_ hSw_
        obtain ⟨q, rfl⟩ := hSw_
        first | (go_simp; done) | (go_simp; with_reducible rfl)
      rotate_left
      try simp only [Act.put, List.setIfInBounds_toArray, List.set_cons_zero, List.set_cons_succ]
      refine wpAnyH_take (i := 10) (oi := { dst := some 43, op := Op.nilCheck (Operand.tmp 42), type := 0, pos := "law.go:83", after := #[{ on := 9, ground := Ground.data }, { on := 8, ground := Ground.guard }], guard := some (8, true) }) (v := ?_) rfl (by kernel_rfl) (by kernel_rfl) (by kernel_rfl) (fun _ _ _ h => h) (Or.inl ⟨by rfl, ?_⟩) hHeld ?_
      rotate_left
      · intro W_ hSw_
        obtain ⟨q, rfl⟩ := hSw_
        first | (go_simp; done) | (go_simp; with_reducible rfl)
      rotate_left
      try simp only [Act.put, List.setIfInBounds_toArray, List.set_cons_zero, List.set_cons_succ]
      refine wpAnyH_take (i := 11) (oi := { dst := some 44, op := Op.fieldAddr 35 (Operand.tmp 43) 0, type := 0, pos := "law.go:83", after := #[{ on := 10, ground := Ground.data }, { on := 8, ground := Ground.guard }], guard := some (8, true) }) (v := ?_) rfl (by kernel_rfl) (by kernel_rfl) (by kernel_rfl) (fun _ _ _ h => h) (Or.inl ⟨by rfl, ?_⟩) hHeld ?_
      rotate_left
      · intro W_ hSw_
        obtain ⟨q, rfl⟩ := hSw_
        first | (go_simp; done) | (go_simp; with_reducible rfl)
      rotate_left
      try simp only [Act.put, List.setIfInBounds_toArray, List.set_cons_zero, List.set_cons_succ]
      refine wpAnyH_take (i := 12) (oi := { dst := some 45, op := Op.load 23 (Operand.tmp 44), type := 23, pos := "law.go:83", after := #[{ on := 11, ground := Ground.data }, { on := 8, ground := Ground.guard }], guard := some (8, true) }) (v := ?_) rfl (by kernel_rfl) (by kernel_rfl) (by kernel_rfl) (fun _ _ _ h => h) (Or.inl ⟨by rfl, ?_⟩) hHeld ?_
      rotate_left
      · intro W_ hSw_
        obtain ⟨q, rfl⟩ := hSw_
        first | (go_simp; done) | (go_simp; with_reducible rfl)
      rotate_left
      try simp only [Act.put, List.setIfInBounds_toArray, List.set_cons_zero, List.set_cons_succ]
      refine wpAnyH_take (i := 14) (oi := { dst := some 47, op := Op.move (Operand.tmp 0), type := 33, pos := "law.go:83", after := #[{ on := 8, ground := Ground.guard }], guard := some (8, true) }) (v := ?_) rfl (by kernel_rfl) (by kernel_rfl) (by kernel_rfl) (fun _ _ _ h => h) (Or.inl ⟨by rfl, ?_⟩) hHeld ?_
      rotate_left
      · intro W_ hSw_
        obtain ⟨q, rfl⟩ := hSw_
        first | (go_simp; done) | (go_simp; with_reducible rfl)
      rotate_left
      try simp only [Act.put, List.setIfInBounds_toArray, List.set_cons_zero, List.set_cons_succ]
      refine wpAnyH_take (i := 15) (oi := { dst := some 48, op := Op.nilCheck (Operand.tmp 47), type := 0, pos := "law.go:83", after := #[{ on := 14, ground := Ground.data }, { on := 8, ground := Ground.guard }], guard := some (8, true) }) (v := ?_) rfl (by kernel_rfl) (by kernel_rfl) (by kernel_rfl) (fun _ _ _ h => h) (Or.inl ⟨by rfl, ?_⟩) hHeld ?_
      rotate_left
      · intro W_ hSw_
        obtain ⟨q, rfl⟩ := hSw_
        first | (go_simp; done) | (go_simp; with_reducible rfl)
      rotate_left
      try simp only [Act.put, List.setIfInBounds_toArray, List.set_cons_zero, List.set_cons_succ]
      refine wpAnyH_take (i := 16) (oi := { dst := some 49, op := Op.fieldAddr 35 (Operand.tmp 48) 1, type := 0, pos := "law.go:83", after := #[{ on := 15, ground := Ground.data }, { on := 8, ground := Ground.guard }], guard := some (8, true) }) (v := ?_) rfl (by kernel_rfl) (by kernel_rfl) (by kernel_rfl) (fun _ _ _ h => h) (Or.inl ⟨by rfl, ?_⟩) hHeld ?_
      rotate_left
      · intro W_ hSw_
        obtain ⟨q, rfl⟩ := hSw_
        first | (go_simp; done) | (go_simp; with_reducible rfl)
      rotate_left
      try simp only [Act.put, List.setIfInBounds_toArray, List.set_cons_zero, List.set_cons_succ]
      refine wpAnyH_take (i := 17) (oi := { dst := some 50, op := Op.fieldAddr 29 (Operand.tmp 49) 2, type := 0, pos := "law.go:83", after := #[{ on := 16, ground := Ground.data }, { on := 8, ground := Ground.guard }], guard := some (8, true) }) (v := ?_) rfl (by kernel_rfl) (by kernel_rfl) (by kernel_rfl) (fun _ _ _ h => h) (Or.inl ⟨by rfl, ?_⟩) hHeld ?_
      rotate_left
      · intro W_ hSw_
        obtain ⟨q, rfl⟩ := hSw_
        first | (go_simp; done) | (go_simp; with_reducible rfl)
      rotate_left
      try simp only [Act.put, List.setIfInBounds_toArray, List.set_cons_zero, List.set_cons_succ]
      refine wpAnyH_take (i := 18) (oi := { dst := some 51, op := Op.load 27 (Operand.tmp 50), type := 27, pos := "law.go:83", after := #[{ on := 17, ground := Ground.data }, { on := 8, ground := Ground.guard }], guard := some (8, true) }) (v := ?_) rfl (by kernel_rfl) (by kernel_rfl) (by kernel_rfl) (fun _ _ _ h => h) (Or.inl ⟨by rfl, ?_⟩) hHeld ?_
      rotate_left
      · intro W_ hSw_
        obtain ⟨q, rfl⟩ := hSw_
        first | (go_simp; done) | (go_simp; with_reducible rfl)
      rotate_left
      try simp only [Act.put, List.setIfInBounds_toArray, List.set_cons_zero, List.set_cons_succ]
      refine wpAnyH_ready (rs := [13]) (by kernel_rfl) (by simp) ?_
      refine AllReadyH.cons (o := { dst := some 46, op := Op.call { callee := Callee.value (Operand.func 17), args := #[Operand.tmp 45], argTypes := #[23] }, type := 27, pos := "law.go:83", after := #[{ on := 12, ground := Ground.data }, { on := 8, ground := Ground.chain }, { on := 8, ground := Ground.guard }], guard := some (8, true) }) rfl (fun K hK => ?_) AllReadyH.nil
      go_simp
      refine (all_any p b c l _ (G.out.1.db.below B0.out)).mono ?_
      rintro _ Y1 ⟨v, rfl, ow, bb⟩
      obtain ⟨aa, ac, hv, sl, _⟩ := ow.form
      subst hv
      have A1 : Hid (SlAt Y1 aa l.length ac l ∧ Below V2.heap.size V2 Y1) := ⟨sl, below_over B0.out bb⟩
      clear sl bb ow
      clear hHeld
      refine hK.out _ _ ⟨⟨_, A1.out.2⟩, rfl⟩ (fun hHeld => ?_)
      clear hK K
      try simp only [Act.put, List.setIfInBounds_toArray, List.set_cons_zero, List.set_cons_succ]
      refine wpAnyH_ready (rs := [19]) (by kernel_rfl) (by simp) ?_
      refine AllReadyH.cons (o := { dst := some 52, op := Op.call { callee := Callee.value (Operand.func 19), args := #[Operand.tmp 46, Operand.tmp 51], argTypes := #[27, 27] }, type := 4, pos := "law.go:83", after := #[{ on := 13, ground := Ground.data }, { on := 18, ground := Ground.data }, { on := 13, ground := Ground.chain }, { on := 8, ground := Ground.guard }], guard := some (8, true) }) rfl (fun K hK => ?_) AllReadyH.nil
      go_simp
      refine (same_eq aa a l.length ac k l _ A1.out.1 (G.out.1.sl.below A1.out.2) G.out.2.2).mono ?_
      rintro _ Y2 ⟨rfl, bb⟩
      have A2 : Hid (Below V2.heap.size V2 Y2) := below_over A1.out.2 bb
      clear bb
      clear hHeld
      refine hK.out _ _ ⟨⟨_, A2.out⟩, rfl⟩ (fun hHeld => ?_)
      clear hK K
      try simp only [Act.put, List.setIfInBounds_toArray, List.set_cons_zero, List.set_cons_succ]
      refine wpAnyH_take (i := 20) (oi := { dst := some 53, op := Op.pick (Operand.tmp 41) (Operand.tmp 52) (Operand.const (Value.bool false)), type := 4, pos := "law.go:83", after := #[{ on := 8, ground := Ground.data }, { on := 19, ground := Ground.data }], guard := none }) (v := ?_) rfl (by kernel_rfl) (by kernel_rfl) (by kernel_rfl) (fun _ _ _ h => h) (Or.inl ⟨by rfl, ?_⟩) hHeld ?_
      rotate_left
      · intro W_ hSw_
        obtain ⟨q, rfl⟩ := hSw_
        first | (go_simp; done) | (go_simp; with_reducible rfl)
      rotate_left
      try simp only [Act.put, List.setIfInBounds_toArray, List.set_cons_zero, List.set_cons_succ]
      refine wpAnyH_take (i := 21) (oi := { dst := some 54, op := Op.move (Operand.tmp 53), type := 4, pos := "law.go:83", after := #[{ on := 20, ground := Ground.data }, { on := 19, ground := Ground.chain }], guard := none }) (v := ?_) rfl (by kernel_rfl) (by kernel_rfl) (by kernel_rfl) (fun _ _ _ h => h) (Or.inl ⟨by rfl, ?_⟩) hHeld ?_
      rotate_left
      · intro W_ hSw_
        obtain ⟨q, rfl⟩ := hSw_
        first | (go_simp; done) | (go_simp; with_reducible rfl)
      rotate_left
      try simp only [Act.put, List.setIfInBounds_toArray, List.set_cons_zero, List.set_cons_succ]
      refine wpAnyH_take (i := 22) (oi := { dst := some 55, op := Op.move (Operand.tmp 0), type := 33, pos := "law.go:83", after := #[{ on := 21, ground := Ground.guard }], guard := some (21, true) }) (v := ?_) rfl (by kernel_rfl) (by kernel_rfl) (by kernel_rfl) (fun _ _ _ h => h) (Or.inl ⟨by rfl, ?_⟩) hHeld ?_
      rotate_left
      · intro W_ hSw_
        obtain ⟨q, rfl⟩ := hSw_
        first | (go_simp; done) | (go_simp; with_reducible rfl)
      rotate_left
      try simp only [Act.put, List.setIfInBounds_toArray, List.set_cons_zero, List.set_cons_succ]
      refine wpAnyH_take (i := 23) (oi := { dst := some 56, op := Op.nilCheck (Operand.tmp 55), type := 0, pos := "law.go:83", after := #[{ on := 22, ground := Ground.data }, { on := 21, ground := Ground.guard }], guard := some (21, true) }) (v := ?_) rfl (by kernel_rfl) (by kernel_rfl) (by kernel_rfl) (fun _ _ _ h => h) (Or.inl ⟨by rfl, ?_⟩) hHeld ?_
      rotate_left
      · intro W_ hSw_
        obtain ⟨q, rfl⟩ := hSw_
        first | (go_simp; done) | (go_simp; with_reducible rfl)
      rotate_left
      try simp only [Act.put, List.setIfInBounds_toArray, List.set_cons_zero, List.set_cons_succ]
      refine wpAnyH_take (i := 24) (oi := { dst := some 57, op := Op.fieldAddr 35 (Operand.tmp 56) 0, type := 0, pos := "law.go:83", after := #[{ on := 23, ground := Ground.data }, { on := 21, ground := Ground.guard }], guard := some (21, true) }) (v := ?_) rfl (by kernel_rfl) (by kernel_rfl) (by kernel_rfl) (fun _ _ _ h => h) (Or.inl ⟨by rfl, ?_⟩) hHeld ?_
      rotate_left
      · intro W_ hSw_
        obtain ⟨q, rfl⟩ := hSw_
        first | (go_simp; done) | (go_simp; with_reducible rfl)
      rotate_left
      try simp only [Act.put, List.setIfInBounds_toArray, List.set_cons_zero, List.set_cons_succ]
      refine wpAnyH_take (i := 25) (oi := { dst := some 58, op := Op.load 23 (Operand.tmp 57), type := 23, pos := "law.go:83", after := #[{ on := 24, ground := Ground.data }, { on := 21, ground := Ground.guard }], guard := some (21, true) }) (v := ?_) rfl (by kernel_rfl) (by kernel_rfl) (by kernel_rfl) (fun _ _ _ h => h) (Or.inl ⟨by rfl, ?_⟩) hHeld ?_
      rotate_left
      · intro W_ hSw_
        obtain ⟨q, rfl⟩ := hSw_
        first | (go_simp; done) | (go_simp; with_reducible rfl)
      rotate_left
      try simp only [Act.put, List.setIfInBounds_toArray, List.set_cons_zero, List.set_cons_succ]
      refine wpAnyH_take (i := 27) (oi := { dst := some 60, op := Op.move (Operand.tmp 0), type := 33, pos := "law.go:83", after := #[{ on := 21, ground := Ground.guard }], guard := some (21, true) }) (v := ?_) rfl (by kernel_rfl) (by kernel_rfl) (by kernel_rfl) (fun _ _ _ h => h) (Or.inl ⟨by rfl, ?_⟩) hHeld ?_
      rotate_left
      · intro W_ hSw_
        obtain ⟨q, rfl⟩ := hSw_
        first | (go_simp; done) | (go_simp; with_reducible rfl)
      rotate_left
      try simp only [Act.put, List.setIfInBounds_toArray, List.set_cons_zero, List.set_cons_succ]
      refine wpAnyH_take (i := 28) (oi := { dst := some 61, op := Op.nilCheck (Operand.tmp 60), type := 0, pos := "law.go:83", after := #[{ on := 27, ground := Ground.data }, { on := 21, ground := Ground.guard }], guard := some (21, true) }) (v := ?_) rfl (by kernel_rfl) (by kernel_rfl) (by kernel_rfl) (fun _ _ _ h => h) (Or.inl ⟨by rfl, ?_⟩) hHeld ?_
      rotate_left
      · intro W_ hSw_
        obtain ⟨q, rfl⟩ := hSw_
        first | (go_simp; done) | (go_simp; with_reducible rfl)
      rotate_left
      try simp only [Act.put, List.setIfInBounds_toArray, List.set_cons_zero, List.set_cons_succ]
      refine wpAnyH_take (i := 29) (oi := { dst := some 62, op := Op.fieldAddr 35 (Operand.tmp 61) 1, type := 0, pos := "law.go:83", after := #[{ on := 28, ground := Ground.data }, { on := 21, ground := Ground.guard }], guard := some (21, true) }) (v := ?_) rfl (by kernel_rfl) (by kernel_rfl) (by kernel_rfl) (fun _ _ _ h => h) (Or.inl ⟨by rfl, ?_⟩) hHeld ?_
      rotate_left
      · intro W_ hSw_
        obtain ⟨q, rfl⟩ := hSw_
        first | (go_simp; done) | (go_simp; with_reducible rfl)
      rotate_left
      try simp only [Act.put, List.setIfInBounds_toArray, List.set_cons_zero, List.set_cons_succ]
      refine wpAnyH_take (i := 30) (oi := { dst := some 63, op := Op.fieldAddr 29 (Operand.tmp 62) 2, type := 0, pos := "law.go:83", after := #[{ on := 29, ground := Ground.data }, { on := 21, ground := Ground.guard }], guard := some (21, true) }) (v := ?_) rfl (by kernel_rfl) (by kernel_rfl) (by kernel_rfl) (fun _ _ _ h => h) (Or.inl ⟨by rfl, ?_⟩) hHeld ?_
      rotate_left
      · intro W_ hSw_
        obtain ⟨q, rfl⟩ := hSw_
        first | (go_simp; done) | (go_simp; with_reducible rfl)
      rotate_left
      try simp only [Act.put, List.setIfInBounds_toArray, List.set_cons_zero, List.set_cons_succ]
      refine wpAnyH_take (i := 31) (oi := { dst := some 64, op := Op.load 27 (Operand.tmp 63), type := 27, pos := "law.go:83", after := #[{ on := 30, ground := Ground.data }, { on := 21, ground := Ground.guard }], guard := some (21, true) }) (v := ?_) rfl (by kernel_rfl) (by kernel_rfl) (by kernel_rfl) (fun _ _ _ h => h) (Or.inl ⟨by rfl, ?_⟩) hHeld ?_
      rotate_left
      · intro W_ hSw_
        obtain ⟨q, rfl⟩ := hSw_
        first | (go_simp; done) | (go_simp; with_reducible rfl)
      rotate_left
      try simp only [Act.put, List.setIfInBounds_toArray, List.set_cons_zero, List.set_cons_succ]
      refine wpAnyH_take (i := 32) (oi := { dst := some 65, op := Op.call { callee := Callee.builtin Builtin.len, args := #[Operand.tmp 64], argTypes := #[27] }, type := 3, pos := "law.go:83", after := #[{ on := 31, ground := Ground.data }, { on := 21, ground := Ground.guard }], guard := some (21, true) }) (v := ?_) rfl (by kernel_rfl) (by kernel_rfl) (by kernel_rfl) (fun _ _ _ h => h) (Or.inl ⟨by rfl, ?_⟩) hHeld ?_
      rotate_left
      · intro W_ hSw_
        obtain ⟨q, rfl⟩ := hSw_
        first | (go_simp; done) | (go_simp; with_reducible rfl)
      rotate_left
      try simp only [Act.put, List.setIfInBounds_toArray, List.set_cons_zero, List.set_cons_succ]
      refine wpAnyH_ready (rs := [26]) (by kernel_rfl) (by simp) ?_
      refine AllReadyH.cons (o := { dst := some 59, op := Op.call { callee := Callee.value (Operand.func 15), args := #[Operand.tmp 58], argTypes := #[23] }, type := 3, pos := "law.go:83", after := #[{ on := 25, ground := Ground.data }, { on := 21, ground := Ground.chain }, { on := 21, ground := Ground.guard }], guard := some (21, true) }) rfl (fun K hK => ?_) AllReadyH.nil
      go_simp
      refine (len_any p b c l _ (G.out.1.db.below A2.out)).mono ?_
      rintro _ Y ⟨rfl, hY⟩
      rw [hY]
      clear hY Y
      clear hHeld
      refine hK.out _ _ ⟨⟨_, A2.out⟩, rfl⟩ (fun hHeld => ?_)
      clear hK K
      try simp only [Act.put, List.setIfInBounds_toArray, List.set_cons_zero, List.set_cons_succ]
      refine wpAnyH_take (i := 33) (oi := { dst := some 66, op := Op.binOp BinOp.eql 3 (Operand.tmp 59) (Operand.tmp 65) 3, type := 4, pos := "law.go:83", after := #[{ on := 26, ground := Ground.data }, { on := 32, ground := Ground.data }, { on := 21, ground := Ground.guard }], guard := some (21, true) }) (v := ?_) rfl (by kernel_rfl) (by kernel_rfl) (by kernel_rfl) (fun _ _ _ h => h) (Or.inl ⟨by rfl, ?_⟩) hHeld ?_
      rotate_left
      · intro W_ hSw_
        obtain ⟨q, rfl⟩ := hSw_
        first | (go_simp; done) | (go_simp; with_reducible rfl)
      rotate_left
      try simp only [Act.put, List.setIfInBounds_toArray, List.set_cons_zero, List.set_cons_succ]
      refine wpAnyH_take (i := 34) (oi := { dst := some 67, op := Op.pick (Operand.tmp 54) (Operand.tmp 66) (Operand.const (Value.bool false)), type := 4, pos := "law.go:83", after := #[{ on := 21, ground := Ground.data }, { on := 33, ground := Ground.data }], guard := none }) (v := ?_) rfl (by kernel_rfl) (by kernel_rfl) (by kernel_rfl) (fun _ _ _ h => h) (Or.inl ⟨by rfl, ?_⟩) hHeld ?_
      rotate_left
      · intro W_ hSw_
        obtain ⟨q, rfl⟩ := hSw_
        first | (go_simp; done) | (go_simp; with_reducible rfl)
      rotate_left
      try simp only [Act.put, List.setIfInBounds_toArray, List.set_cons_zero, List.set_cons_succ]
      refine wpAnyH_take (i := 35) (oi := { dst := some 68, op := Op.move (Operand.tmp 67), type := 4, pos := "law.go:83", after := #[{ on := 34, ground := Ground.data }, { on := 26, ground := Ground.chain }], guard := none }) (v := ?_) rfl (by kernel_rfl) (by kernel_rfl) (by kernel_rfl) (fun _ _ _ h => h) (Or.inl ⟨by rfl, ?_⟩) hHeld ?_
      rotate_left
      · intro W_ hSw_
        obtain ⟨q, rfl⟩ := hSw_
        first | (go_simp; done) | (go_simp; with_reducible rfl)
      rotate_left
      try simp only [Act.put, List.setIfInBounds_toArray, List.set_cons_zero, List.set_cons_succ]
      refine wpAnyH_take (i := 36) (oi := { dst := some 69, op := Op.move (Operand.tmp 0), type := 33, pos := "law.go:83", after := #[{ on := 35, ground := Ground.guard }], guard := some (35, true) }) (v := ?_) rfl (by kernel_rfl) (by kernel_rfl) (by kernel_rfl) (fun _ _ _ h => h) (Or.inl ⟨by rfl, ?_⟩) hHeld ?_
      rotate_left
      · intro W_ hSw_
        obtain ⟨q, rfl⟩ := hSw_
        first | (go_simp; done) | (go_simp; with_reducible rfl)
      rotate_left
      try simp only [Act.put, List.setIfInBounds_toArray, List.set_cons_zero, List.set_cons_succ]
      refine wpAnyH_take (i := 37) (oi := { dst := some 70, op := Op.nilCheck (Operand.tmp 69), type := 0, pos := "law.go:83", after := #[{ on := 36, ground := Ground.data }, { on := 35, ground := Ground.guard }], guard := some (35, true) }) (v := ?_) rfl (by kernel_rfl) (by kernel_rfl) (by kernel_rfl) (fun _ _ _ h => h) (Or.inl ⟨by rfl, ?_⟩) hHeld ?_
      rotate_left
      · intro W_ hSw_
        obtain ⟨q, rfl⟩ := hSw_
        first | (go_simp; done) | (go_simp; with_reducible rfl)
      rotate_left
      try simp only [Act.put, List.setIfInBounds_toArray, List.set_cons_zero, List.set_cons_succ]
      refine wpAnyH_take (i := 38) (oi := { dst := some 71, op := Op.fieldAddr 35 (Operand.tmp 70) 0, type := 0, pos := "law.go:83", after := #[{ on := 37, ground := Ground.data }, { on := 35, ground := Ground.guard }], guard := some (35, true) }) (v := ?_) rfl (by kernel_rfl) (by kernel_rfl) (by kernel_rfl) (fun _ _ _ h => h) (Or.inl ⟨by rfl, ?_⟩) hHeld ?_
      rotate_left
      · intro W_ hSw_
        obtain ⟨q, rfl⟩ := hSw_
        first | (go_simp; done) | (go_simp; with_reducible rfl)
      rotate_left
      try simp only [Act.put, List.setIfInBounds_toArray, List.set_cons_zero, List.set_cons_succ]
      refine wpAnyH_take (i := 39) (oi := { dst := some 72, op := Op.load 23 (Operand.tmp 71), type := 23, pos := "law.go:83", after := #[{ on := 38, ground := Ground.data }, { on := 35, ground := Ground.guard }], guard := some (35, true) }) (v := ?_) rfl (by kernel_rfl) (by kernel_rfl) (by kernel_rfl) (fun _ _ _ h => h) (Or.inl ⟨by rfl, ?_⟩) hHeld ?_
      rotate_left
      · intro W_ hSw_
        obtain ⟨q, rfl⟩ := hSw_
        first | (go_simp; done) | (go_simp; with_reducible rfl)
      rotate_left
      try simp only [Act.put, List.setIfInBounds_toArray, List.set_cons_zero, List.set_cons_succ]
      refine wpAnyH_take (i := 40) (oi := { dst := some 73, op := Op.fieldAddr 40 (Operand.tmp 3) 4, type := 0, pos := "law.go:83", after := #[{ on := 35, ground := Ground.guard }], guard := some (35, true) }) (v := ?_) rfl (by kernel_rfl) (by kernel_rfl) (by kernel_rfl) (fun _ _ _ h => h) (Or.inl ⟨by rfl, ?_⟩) hHeld ?_
      rotate_left
      · intro W_ hSw_
        obtain ⟨q, rfl⟩ := hSw_
        first | (go_simp; done) | (go_simp; with_reducible rfl)
      rotate_left
      try simp only [Act.put, List.setIfInBounds_toArray, List.set_cons_zero, List.set_cons_succ]
      refine wpAnyH_take (i := 41) (oi := { dst := some 74, op := Op.load 38 (Operand.tmp 73), type := 38, pos := "law.go:83", after := #[{ on := 40, ground := Ground.data }, { on := 35, ground := Ground.guard }], guard := some (35, true) }) (v := ?_) rfl (by kernel_rfl) (by kernel_rfl) (by kernel_rfl) (fun _ _ _ h => h) (Or.inl ⟨by rfl, ?_⟩) hHeld ?_
      rotate_left
      · intro W_ hSw_
        obtain ⟨q, rfl⟩ := hSw_
        first | (go_simp; done) | (go_simp; with_reducible rfl)
      rotate_left
      try simp only [Act.put, List.setIfInBounds_toArray, List.set_cons_zero, List.set_cons_succ]
      refine wpAnyH_take (i := 43) (oi := { dst := some 76, op := Op.move (Operand.tmp 0), type := 33, pos := "law.go:83", after := #[{ on := 35, ground := Ground.guard }], guard := some (35, true) }) (v := ?_) rfl (by kernel_rfl) (by kernel_rfl) (by kernel_rfl) (fun _ _ _ h => h) (Or.inl ⟨by rfl, ?_⟩) hHeld ?_
      rotate_left
      · intro W_ hSw_
        obtain ⟨q, rfl⟩ := hSw_
        first | (go_simp; done) | (go_simp; with_reducible rfl)
      rotate_left
      try simp only [Act.put, List.setIfInBounds_toArray, List.set_cons_zero, List.set_cons_succ]
      refine wpAnyH_take (i := 44) (oi := { dst := some 77, op := Op.nilCheck (Operand.tmp 76), type := 0, pos := "law.go:83", after := #[{ on := 43, ground := Ground.data }, { on := 35, ground := Ground.guard }], guard := some (35, true) }) (v := ?_) rfl (by kernel_rfl) (by kernel_rfl) (by kernel_rfl) (fun _ _ _ h => h) (Or.inl ⟨by rfl, ?_⟩) hHeld ?_
      rotate_left
      · intro W_ hSw_
        obtain ⟨q, rfl⟩ := hSw_
        first | (go_simp; done) | (go_simp; with_reducible rfl)
      rotate_left
      try simp only [Act.put, List.setIfInBounds_toArray, List.set_cons_zero, List.set_cons_succ]
      refine wpAnyH_take (i := 45) (oi := { dst := some 78, op := Op.fieldAddr 35 (Operand.tmp 77) 1, type := 0, pos := "law.go:83", after := #[{ on := 44, ground := Ground.data }, { on := 35, ground := Ground.guard }], guard := some (35, true) }) (v := ?_) rfl (by kernel_rfl) (by kernel_rfl) (by kernel_rfl) (fun _ _ _ h => h) (Or.inl ⟨by rfl, ?_⟩) hHeld ?_
      rotate_left
      · intro W_ hSw_
        obtain ⟨q, rfl⟩ := hSw_
        first | (go_simp; done) | (go_simp; with_reducible rfl)
      rotate_left
      try simp only [Act.put, List.setIfInBounds_toArray, List.set_cons_zero, List.set_cons_succ]
      refine wpAnyH_take (i := 46) (oi := { dst := some 79, op := Op.load 29 (Operand.tmp 78), type := 29, pos := "law.go:83", after := #[{ on := 45, ground := Ground.data }, { on := 35, ground := Ground.guard }], guard := some (35, true) }) (v := ?_) rfl (by kernel_rfl) (by kernel_rfl) (by kernel_rfl) (fun _ _ _ h => h) (Or.inl ⟨by rfl, ?_⟩) hHeld ?_
      rotate_left
      · intro W_ hSw_
        obtain ⟨q, rfl⟩ := hSw_
        first | (go_simp; done) | (go_simp; with_reducible rfl)
      rotate_left
      try simp only [Act.put, List.setIfInBounds_toArray, List.set_cons_zero, List.set_cons_succ]
      refine wpAnyH_take (i := 47) (oi := { dst := some 80, op := Op.fieldAddr 40 (Operand.tmp 3) 4, type := 0, pos := "law.go:83", after := #[{ on := 35, ground := Ground.guard }], guard := some (35, true) }) (v := ?_) rfl (by kernel_rfl) (by kernel_rfl) (by kernel_rfl) (fun _ _ _ h => h) (Or.inl ⟨by rfl, ?_⟩) hHeld ?_
      rotate_left
      · intro W_ hSw_
        obtain ⟨q, rfl⟩ := hSw_
        first | (go_simp; done) | (go_simp; with_reducible rfl)
      rotate_left
      try simp only [Act.put, List.setIfInBounds_toArray, List.set_cons_zero, List.set_cons_succ]
      refine wpAnyH_take (i := 48) (oi := { dst := some 81, op := Op.load 38 (Operand.tmp 80), type := 38, pos := "law.go:83", after := #[{ on := 47, ground := Ground.data }, { on := 35, ground := Ground.guard }], guard := some (35, true) }) (v := ?_) rfl (by kernel_rfl) (by kernel_rfl) (by kernel_rfl) (fun _ _ _ h => h) (Or.inl ⟨by rfl, ?_⟩) hHeld ?_
      rotate_left
      · intro W_ hSw_
        obtain ⟨q, rfl⟩ := hSw_
        first | (go_simp; done) | (go_simp; with_reducible rfl)
      rotate_left
      try simp only [Act.put, List.setIfInBounds_toArray, List.set_cons_zero, List.set_cons_succ]
      refine wpAnyH_ready (rs := [42]) (by kernel_rfl) (by simp) ?_
      refine AllReadyH.cons (o := { dst := some 75, op := Op.call { callee := Callee.value (Operand.func 21), args := #[Operand.tmp 72, Operand.tmp 74], argTypes := #[23, 38] }, type := 3, pos := "law.go:83", after := #[{ on := 39, ground := Ground.data }, { on := 41, ground := Ground.data }, { on := 35, ground := Ground.chain }, { on := 35, ground := Ground.guard }], guard := some (35, true) }) rfl (fun K hK => ?_) AllReadyH.nil
      go_simp
      refine (behind_any p b c l o.b _ (G.out.1.db.below A2.out)).mono ?_
      rintro _ Y3 ⟨rfl, bb⟩
      have A3 : Hid (Below V2.heap.size V2 Y3) := below_over A2.out bb
      clear bb
      clear hHeld
      refine hK.out _ _ ⟨⟨_, A3.out⟩, rfl⟩ (fun hHeld => ?_)
      clear hK K
      try simp only [Act.put, List.setIfInBounds_toArray, List.set_cons_zero, List.set_cons_succ]
      refine wpAnyH_ready (rs := [49]) (by kernel_rfl) (by simp) ?_
      refine AllReadyH.cons (o := { dst := some 82, op := Op.call { callee := Callee.value (Operand.func 30), args := #[Operand.tmp 79, Operand.tmp 81], argTypes := #[29, 38] }, type := 3, pos := "law.go:83", after := #[{ on := 46, ground := Ground.data }, { on := 48, ground := Ground.data }, { on := 42, ground := Ground.chain }, { on := 35, ground := Ground.guard }], guard := some (35, true) }) rfl (fun K hK => ?_) AllReadyH.nil
      go_simp
      refine (rbehind_any c a l.length k l o.b _ (G.out.1.sl.below A3.out) G.out.2.2).mono ?_
      rintro _ Y4 ⟨rfl, bb⟩
      have A4 : Hid (Below V2.heap.size V2 Y4) := below_over A3.out bb
      clear bb
      clear hHeld
      refine hK.out _ _ ⟨⟨_, A4.out⟩, rfl⟩ (fun hHeld => ?_)
      clear hK K
      try simp only [Act.put, List.setIfInBounds_toArray, List.set_cons_zero, List.set_cons_succ]
      refine wpAnyH_take (i := 50) (oi := { dst := some 83, op := Op.binOp BinOp.eql 3 (Operand.tmp 75) (Operand.tmp 82) 3, type := 4, pos := "law.go:83", after := #[{ on := 42, ground := Ground.data }, { on := 49, ground := Ground.data }, { on := 35, ground := Ground.guard }], guard := some (35, true) }) (v := ?_) rfl (by kernel_rfl) (by kernel_rfl) (by kernel_rfl) (fun _ _ _ h => h) (Or.inl ⟨by rfl, ?_⟩) hHeld ?_
      rotate_left
      · intro W_ hSw_
        obtain ⟨q, rfl⟩ := hSw_
        first | (go_simp; done) | (go_simp; with_reducible rfl)
      rotate_left
      try simp only [Act.put, List.setIfInBounds_toArray, List.set_cons_zero, List.set_cons_succ]
      refine wpAnyH_take (i := 51) (oi := { dst := some 84, op := Op.pick (Operand.tmp 68) (Operand.tmp 83) (Operand.const (Value.bool false)), type := 4, pos := "law.go:83", after := #[{ on := 35, ground := Ground.data }, { on := 50, ground := Ground.data }], guard := none }) (v := ?_) rfl (by kernel_rfl) (by kernel_rfl) (by kernel_rfl) (fun _ _ _ h => h) (Or.inl ⟨by rfl, ?_⟩) hHeld ?_
      rotate_left
      · intro W_ hSw_
        obtain ⟨q, rfl⟩ := hSw_
        first | (go_simp; done) | (go_simp; with_reducible rfl)
      rotate_left
      try simp only [Act.put, List.setIfInBounds_toArray, List.set_cons_zero, List.set_cons_succ]
      refine wpAnyH_ready (rs := [52]) (by kernel_rfl) (by simp) ?_
      refine AllReadyH.cons (o := { dst := some 4, op := Op.assign (Operand.tmp 84), type := 4, pos := "law.go:83", after := #[{ on := 51, ground := Ground.data }, { on := 49, ground := Ground.chain }, { on := 0, ground := Ground.phase }, { on := 1, ground := Ground.phase }, { on := 2, ground := Ground.phase }, { on := 3, ground := Ground.phase }, { on := 4, ground := Ground.phase }, { on := 5, ground := Ground.phase }, { on := 6, ground := Ground.phase }, { on := 7, ground := Ground.phase }, { on := 8, ground := Ground.phase }, { on := 9, ground := Ground.phase }, { on := 10, ground := Ground.phase }, { on := 11, ground := Ground.phase }, { on := 12, ground := Ground.phase }, { on := 13, ground := Ground.phase }, { on := 14, ground := Ground.phase }, { on := 15, ground := Ground.phase }, { on := 16, ground := Ground.phase }, { on := 17, ground := Ground.phase }, { on := 18, ground := Ground.phase }, { on := 19, ground := Ground.phase }, { on := 20, ground := Ground.phase }, { on := 21, ground := Ground.phase }, { on := 22, ground := Ground.phase }, { on := 23, ground := Ground.phase }, { on := 24, ground := Ground.phase }, { on := 25, ground := Ground.phase }, { on := 26, ground := Ground.phase }, { on := 27, ground := Ground.phase }, { on := 28, ground := Ground.phase }, { on := 29, ground := Ground.phase }, { on := 30, ground := Ground.phase }, { on := 31, ground := Ground.phase }, { on := 32, ground := Ground.phase }, { on := 33, ground := Ground.phase }, { on := 34, ground := Ground.phase }, { on := 35, ground := Ground.phase }, { on := 36, ground := Ground.phase }, { on := 37, ground := Ground.phase }, { on := 38, ground := Ground.phase }, { on := 39, ground := Ground.phase }, { on := 40, ground := Ground.phase }, { on := 41, ground := Ground.phase }, { on := 42, ground := Ground.phase }, { on := 43, ground := Ground.phase }, { on := 44, ground := Ground.phase }, { on := 45, ground := Ground.phase }, { on := 46, ground := Ground.phase }, { on := 47, ground := Ground.phase }, { on := 48, ground := Ground.phase }, { on := 49, ground := Ground.phase }, { on := 50, ground := Ground.phase }, { on := 51, ground := Ground.phase }], guard := none }) rfl (fun K hK => ?_) AllReadyH.nil
      go_simp
      clear hHeld
      refine hK.out _ _ ⟨⟨_, A4.out⟩, rfl⟩ (fun hHeld => ?_)
      clear hK K
      try simp only [Act.put, List.setIfInBounds_toArray, List.set_cons_zero, List.set_cons_succ]
      refine wpAnyH_done (by kernel_rfl) ?_ _
      refine NoPanic.normal ?_
      clear hHeld
      go_wp2
      go_ret
      exact ⟨rfl, H.out.1.below (below_over (below_over H.out.2.2.2.2 (below_over BV.out BV2.out)) A4.out)⟩
end Go.Proofs.Ytoelpbajaadfeaa
