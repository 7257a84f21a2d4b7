/-
  The definition's without and with: their walks, for every database.
-/
import Derived.Test.YtpbpofmlpbobmaaRf
namespace Go.Proofs.Ytpbpofmlpbobmaa
set_option linter.unusedVariables false
set_option maxRecDepth 4000
set_option linter.unusedSimpArgs false
open Go.RowKit

/-- The value is the definition's database with the entries l. -/
def RfIs (W : World) (v : Value) (c : Cf) (l : List En) : Prop := ∃ a k, v = .agg (c.rs a l.length k) ∧ SlAt W a l.length k l
theorem RfIs.below {W W' : World} {v : Value} {c : Cf} {l : List En} (h : RfIs W v c l) (hb : Below W.heap.size W W') : RfIs W' v c l := by
  obtain ⟨a, k, e, hs⟩ := h
  exact ⟨a, k, e, hs.below hb⟩
/-- .. its row from block B on. -/
def RfOwn (B : Nat) (W : World) (v : Value) (c : Cf) (l : List En) : Prop := ∃ a k, v = .agg (c.rs a l.length k) ∧ SlAt W a l.length k l ∧ ∀ x, a = some x → B ≤ x.block
theorem RfOwn.is {B : Nat} {W : World} {v : Value} {c : Cf} {l : List En} (h : RfOwn B W v c l) : RfIs W v c l := by
  obtain ⟨a, k, e, hs, _⟩ := h
  exact ⟨a, k, e, hs⟩
theorem own_empty (W : World) (B : Nat) (hB : B ≤ W.heap.size) : Own (W.alloc (.cells #[] 55)) B (.slice (some ⟨W.heap.size, 0, none⟩) 0 0) [] :=
  ⟨rfl, .inr ⟨W.heap.size, 0, #[], rfl, hB, alloc_at W _, Nat.le_refl _, by simp, rfl, rfl⟩⟩
theorem two_rf (w : World) (c : Cf) (a : Option Addr) (n k : Nat) : ∃ W, (w.alloc (.cells (c.rs a n k) 29)).alloc (.cells #[.int .i64 0, .int .i64 0, .int .i64 0, .slice none 0 0] 29) = W ∧ RdAt W w.heap.size c a n k ∧ RdAt W (w.heap.size + 1) ⟨0, 0, 0⟩ none 0 0 ∧ Below w.heap.size w W ∧ W.heap.size = w.heap.size + 2 :=
  ⟨_, rfl, (RvAt.new w _ _).below ((Below.refl _ _).alloc (Nat.le_refl _) _), by have := RvAt.new (w.alloc (.cells (c.rs a n k) 29)) 29 (Cf.rs ⟨0, 0, 0⟩ none 0 0); simp at this; exact this, ((Below.refl _ _).alloc (Nat.le_refl _) _).alloc (by simp) _, by simp⟩
theorem RdAt.put {W : World} {b : Nat} {c c' : Cf} {a a' : Option Addr} {n k n' k' : Nat} (h : RdAt W b c a n k) :
    ∃ W', (stS 29 (.pointer (some ⟨b, 0, none⟩)) (.agg (c'.rs a' n' k'))).run Try.prog W = .ok () W' ∧ RdAt W' b c' a' n' k' ∧ W.grownBy W' (some b) ∧ W'.heap.size = W.heap.size :=
  RvAt.put rtR h rfl rfl (c'.rone _ _ _)
attribute [local go_sem ↓] ldK stK ldM stM ldP stP ldE stE apE ldR stR slE
set_option maxHeartbeats 2000000 in
theorem without_any (c : Cf) (a : Option Addr) (n k : Nat) (l : List En) (i : Nat) (w : World) (h : SlAt w a n k l) (hi : i < n) (hn : n ≤ 1000) :
    Calls Try.prog 38 #[.agg (c.rs a n k), .int .i64 i] w fun r w' => ∃ v, r = .returned v ∧ RfOwn w.heap.size w' v c (l.take i ++ l.drop (i + 1)) ∧ Below w.heap.size w w' := by
  obtain ⟨W, hW, d1, d2, bW, zW⟩ := two_rf w c a n k
  have hs := h.below bW
  have f3 := fun q : Later W => (d1.below q.below).c3
  have p1 := fun V => (hs.pre (i := i) (by omega) V).1
  obtain ⟨a2, p2, s2⟩ := hs.suf (i := i + 1) (by omega)
  have p2' : ∀ V : World, (slS (.slice a n k) (some (.int .i64 ((i : Int) + 1))) none none).run Try.prog V = .ok (.slice a2 (n - (i + 1)) (k - (i + 1))) V := fun V => by
    rw [show (i : Int) + 1 = ((i + 1 : Nat) : Int) by omega]
    exact p2 V
  clear p2
  have hwr : IntKind.i64.wrap ((i : Int) + 1) = (i : Int) + 1 := IntWalk.i64_in _ (by omega)
  have s1 := (hs.pre (i := i) (by omega) w).2
  have hin : (i : Int) ≤ 1000 := by omega
  obtain ⟨X0, hX0⟩ : ∃ X, W.drew = X := ⟨_, rfl⟩
  have bX : Below W.heap.size W X0 := by rw [← hX0]; exact (Below.refl _ _).drew
  obtain ⟨X1, hX1⟩ : ∃ X, X0.alloc (.cells #[] 55) = X := ⟨_, rfl⟩
  have bX1 : Below X0.heap.size X0 X1 := by rw [← hX1]; exact (Below.refl _ _).alloc (Nat.le_refl _) _
  have o1 : Own X1 W.heap.size (.slice (some ⟨X0.heap.size, 0, none⟩) 0 0) [] := by rw [← hX1]; exact own_empty X0 _ bX.size
  have b01 := below_over bX bX1
  obtain ⟨v2, X2, ap2, o2, g2⟩ := o1.app (s1.below b01) (by have := h.len; simp; omega) (b01.size) 27
  have b02 : Below W.heap.size W X2 := b01.trans (below_of_grown g2 b01.size (fun j e => (World.ownsRow.lt o1 j e).1))
  obtain ⟨v3, X3, ap3, o3, g3⟩ := o2.app (s2.below b02) (by have := h.len; simp; omega) (b02.size) 27
  have b03 : Below W.heap.size W X3 := b02.trans (below_of_grown g3 b02.size (fun j e => (World.ownsRow.lt o2 j e).1))
  obtain ⟨a3, c3, hv3, s3, _⟩ := o3.form
  obtain ⟨m3, hm3⟩ : ∃ m3, m3 = ([] ++ l.take i ++ l.drop (i + 1)).length := ⟨_, rfl⟩
  rw [← hm3] at hv3 s3
  subst hv3
  have hm : Hid (m3 = (l.take i ++ l.drop (i + 1)).length) := hm3
  clear hm3
  have d13 := d1.below b03
  have fz := d13.fz 3
  have cx := d13.c3
  have e3 := d13.set (a' := a3) (n' := m3) (k' := c3)
  obtain ⟨X4, hX4⟩ : ∃ X, X3.setCell ⟨w.heap.size, 3, none⟩ (.slice a3 m3 c3) = X := ⟨_, rfl⟩
  rw [hX4] at e3
  have d24 : RdAt X4 (w.heap.size + 1) ⟨0, 0, 0⟩ none 0 0 := (e3.2.block _ (d2.below b03).lt (by simp)).trans (d2.below b03)
  obtain ⟨X5, st5, r5, g5, z5⟩ := d24.put (c' := c) (a' := a3) (n' := m3) (k' := c3)
  have ld4 := e3.1.ld
  have G : Hid (Below W.heap.size W X0 ∧ Below W.heap.size W X1 ∧ Below W.heap.size W X2 ∧ Below W.heap.size W X3 ∧ SlAt X3 a3 m3 c3 ([] ++ l.take i ++ l.drop (i + 1)) ∧ RvAt X5 (w.heap.size + 1) 29 (c.rs a3 m3 c3) ∧ X3.grownBy X4 (some w.heap.size) ∧ X4.grownBy X5 (some (w.heap.size + 1)) ∧ Below w.heap.size w W) := ⟨bX, b01, b02, b03, s3, r5, e3.2, g5, bW⟩
  have G6 : Hid (∀ x, a3 = some x → W.heap.size ≤ x.block) := by
    intro x e
    subst e
    exact (World.ownsRow.lt o3 x.block rfl).1
  clear h hs s1 s2 d1 d2 bW bX bX1 o1 b01 o2 g2 b02 o3 g3 b03 s3 d13 e3 d24 r5 g5 z5
  go_enter Try.func38, Try.ntmps38
  go_wp2_with fail
  refine wp_region_noPanic ?_
  refine AnyZ.start (z := 13) (S := fun w' => ∃ x : Later W, w' = x.val) (by kernel_rfl) ⟨⟨_, (Below.refl _ _).drew⟩, rfl⟩ (fun hHeld => ?_)
  rw [hX0] at hHeld ⊢
  clear hX0
  refine AnyZ.take (i := 1) (oi := { dst := some 6, op := Op.fieldAddr 29 (Operand.tmp 2) 3, type := 0, pos := "ref.go:51", after := #[], guard := none }) (v := ?_) rfl (by kernel_rfl) (by kernel_rfl) (fun _ _ _ h => h) _ _ _ _ (by kernel_rfl) (by kernel_rfl) (Or.inl ⟨by rfl, ?_⟩) hHeld ?_
  rotate_left
  · intro W_ hSw_
    obtain ⟨q, rfl⟩ := hSw_
    first | (go_simp; done) | (go_simp; with_reducible rfl)
  rotate_left
  try simp only [Act.put, List.setIfInBounds_toArray, List.set_cons_zero, List.set_cons_succ]
  refine AnyZ.take (i := 2) (oi := { dst := some 7, op := Op.load 27 (Operand.tmp 6), type := 27, pos := "ref.go:51", after := #[{ on := 1, ground := Ground.data }], guard := none }) (v := ?_) rfl (by kernel_rfl) (by kernel_rfl) (fun _ _ _ h => h) _ _ _ _ (by kernel_rfl) (by kernel_rfl) (Or.inl ⟨by rfl, ?_⟩) hHeld ?_
  rotate_left
  · intro W_ hSw_
    obtain ⟨q, rfl⟩ := hSw_
    first | (go_simp; done) | (go_simp; with_reducible rfl)
  rotate_left
  try simp only [Act.put, List.setIfInBounds_toArray, List.set_cons_zero, List.set_cons_succ]
  refine AnyZ.take (i := 3) (oi := { dst := some 8, op := Op.move (Operand.tmp 1), type := 3, pos := "ref.go:51", after := #[], guard := none }) (v := ?_) rfl (by kernel_rfl) (by kernel_rfl) (fun _ _ _ h => h) _ _ _ _ (by kernel_rfl) (by kernel_rfl) (Or.inl ⟨by rfl, ?_⟩) hHeld ?_
  rotate_left
  · intro W_ hSw_
    obtain ⟨q, rfl⟩ := hSw_
    first | (go_simp; done) | (go_simp; with_reducible rfl)
  rotate_left
  try simp only [Act.put, List.setIfInBounds_toArray, List.set_cons_zero, List.set_cons_succ]
  refine AnyZ.take (i := 4) (oi := { dst := some 9, op := Op.slice 27 (Operand.tmp 7) none (some (Operand.tmp 8)) none, type := 27, pos := "ref.go:51", after := #[{ on := 2, ground := Ground.data }, { on := 3, ground := Ground.data }], guard := none }) (v := ?_) rfl (by kernel_rfl) (by kernel_rfl) (fun _ _ _ h => h) _ _ _ _ (by kernel_rfl) (by kernel_rfl) (Or.inl ⟨by rfl, ?_⟩) hHeld ?_
  rotate_left
  · intro W_ hSw_
    obtain ⟨q, rfl⟩ := hSw_
    first | (go_simp; done) | (go_simp; with_reducible rfl)
  rotate_left
  try simp only [Act.put, List.setIfInBounds_toArray, List.set_cons_zero, List.set_cons_succ]
  refine AnyZ.take (i := 6) (oi := { dst := some 11, op := Op.fieldAddr 29 (Operand.tmp 2) 3, type := 0, pos := "ref.go:51", after := #[], guard := none }) (v := ?_) rfl (by kernel_rfl) (by kernel_rfl) (fun _ _ _ h => h) _ _ _ _ (by kernel_rfl) (by kernel_rfl) (Or.inl ⟨by rfl, ?_⟩) hHeld ?_
  rotate_left
  · intro W_ hSw_
    obtain ⟨q, rfl⟩ := hSw_
    first | (go_simp; done) | (go_simp; with_reducible rfl)
  rotate_left
  try simp only [Act.put, List.setIfInBounds_toArray, List.set_cons_zero, List.set_cons_succ]
  refine AnyZ.take (i := 7) (oi := { dst := some 12, op := Op.load 27 (Operand.tmp 11), type := 27, pos := "ref.go:51", after := #[{ on := 6, ground := Ground.data }], guard := none }) (v := ?_) rfl (by kernel_rfl) (by kernel_rfl) (fun _ _ _ h => h) _ _ _ _ (by kernel_rfl) (by kernel_rfl) (Or.inl ⟨by rfl, ?_⟩) hHeld ?_
  rotate_left
  · intro W_ hSw_
    obtain ⟨q, rfl⟩ := hSw_
    first | (go_simp; done) | (go_simp; with_reducible rfl)
  rotate_left
  try simp only [Act.put, List.setIfInBounds_toArray, List.set_cons_zero, List.set_cons_succ]
  refine AnyZ.take (i := 8) (oi := { dst := some 13, op := Op.move (Operand.tmp 1), type := 3, pos := "ref.go:51", after := #[], guard := none }) (v := ?_) rfl (by kernel_rfl) (by kernel_rfl) (fun _ _ _ h => h) _ _ _ _ (by kernel_rfl) (by kernel_rfl) (Or.inl ⟨by rfl, ?_⟩) hHeld ?_
  rotate_left
  · intro W_ hSw_
    obtain ⟨q, rfl⟩ := hSw_
    first | (go_simp; done) | (go_simp; with_reducible rfl)
  rotate_left
  try simp only [Act.put, List.setIfInBounds_toArray, List.set_cons_zero, List.set_cons_succ]
  refine AnyZ.take (i := 9) (oi := { dst := some 14, op := Op.binOp BinOp.add 3 (Operand.tmp 13) (Operand.const (Value.int IntKind.i64 1)) 3, type := 3, pos := "ref.go:51", after := #[{ on := 8, ground := Ground.data }], guard := none }) (v := ?_) rfl (by kernel_rfl) (by kernel_rfl) (fun _ _ _ h => h) _ _ _ _ (by kernel_rfl) (by kernel_rfl) (Or.inl ⟨by rfl, ?_⟩) hHeld ?_
  rotate_left
  · intro W_ hSw_
    obtain ⟨q, rfl⟩ := hSw_
    first | (go_simp; done) | (go_simp; with_reducible rfl)
  rotate_left
  try simp only [Act.put, List.setIfInBounds_toArray, List.set_cons_zero, List.set_cons_succ]
  refine AnyZ.take (i := 10) (oi := { dst := some 15, op := Op.slice 27 (Operand.tmp 12) (some (Operand.tmp 14)) none none, type := 27, pos := "ref.go:51", after := #[{ on := 7, ground := Ground.data }, { on := 9, ground := Ground.data }], guard := none }) (v := ?_) rfl (by kernel_rfl) (by kernel_rfl) (fun _ _ _ h => h) _ _ _ _ (by kernel_rfl) (by kernel_rfl) (Or.inl ⟨by rfl, ?_⟩) hHeld ?_
  rotate_left
  · intro W_ hSw_
    obtain ⟨q, rfl⟩ := hSw_
    first | (go_simp; done) | (go_simp; with_reducible rfl)
  rotate_left
  try simp only [Act.put, List.setIfInBounds_toArray, List.set_cons_zero, List.set_cons_succ]
  refine AnyZ.step (i := 0) (o := { dst := some 5, op := Op.buildSlice 27 0 #[], type := 27, pos := "ref.go:51", after := #[], guard := none }) (by kernel_rfl) rfl (fun K hK => ?_)
  go_simp
  clear hHeld
  refine hK.out _ _ (fun _ => ⟨⟨_, G.out.2.1⟩, rfl⟩) (fun hHeld => ?_)
  clear hK K
  try simp only [Act.put, List.setIfInBounds_toArray, List.set_cons_zero, List.set_cons_succ]
  refine AnyZ.step (i := 5) (o := { dst := some 10, op := Op.call { callee := Callee.builtin Builtin.append, args := #[Operand.tmp 5, Operand.tmp 9], argTypes := #[27, 27] }, type := 27, pos := "ref.go:51", after := #[{ on := 0, ground := Ground.data }, { on := 4, ground := Ground.data }], guard := none }) (by kernel_rfl) rfl (fun K hK => ?_)
  go_simp
  clear hHeld
  refine hK.out _ _ (fun _ => ⟨⟨_, G.out.2.2.1⟩, rfl⟩) (fun hHeld => ?_)
  clear hK K
  try simp only [Act.put, List.setIfInBounds_toArray, List.set_cons_zero, List.set_cons_succ]
  refine AnyZ.step (i := 11) (o := { dst := some 16, op := Op.call { callee := Callee.builtin Builtin.append, args := #[Operand.tmp 10, Operand.tmp 15], argTypes := #[27, 27] }, type := 27, pos := "ref.go:51", after := #[{ on := 5, ground := Ground.data }, { on := 10, ground := Ground.data }, { on := 5, ground := Ground.chain }], guard := none }) (by kernel_rfl) rfl (fun K hK => ?_)
  go_simp
  clear hHeld
  refine hK.out _ _ (fun _ => ⟨⟨_, G.out.2.2.2.1⟩, rfl⟩) (fun hHeld => ?_)
  clear hK K
  try simp only [Act.put, List.setIfInBounds_toArray, List.set_cons_zero, List.set_cons_succ]
  replace hHeld := hHeld (by decide)
  refine AnyZ.take (i := 12) (oi := { dst := some 17, op := Op.fieldAddr 29 (Operand.tmp 2) 3, type := 0, pos := "ref.go:51", after := #[{ on := 0, ground := Ground.phase }, { on := 1, ground := Ground.phase }, { on := 2, ground := Ground.phase }, { on := 3, ground := Ground.phase }, { on := 4, ground := Ground.phase }, { on := 5, ground := Ground.phase }, { on := 6, ground := Ground.phase }, { on := 7, ground := Ground.phase }, { on := 8, ground := Ground.phase }, { on := 9, ground := Ground.phase }, { on := 10, ground := Ground.phase }, { on := 11, ground := Ground.phase }], guard := none }) (v := ?_) rfl (by kernel_rfl) (by kernel_rfl) (fun _ _ _ h => h) _ _ _ _ (by kernel_rfl) (by kernel_rfl) (Or.inl ⟨by rfl, ?_⟩) hHeld ?_
  rotate_left
  · intro W_ hSw_
    obtain ⟨q, rfl⟩ := hSw_
    first | (go_simp; done) | (go_simp; with_reducible rfl)
  rotate_left
  try simp only [Act.put, List.setIfInBounds_toArray, List.set_cons_zero, List.set_cons_succ]
  refine AnyZ.step (i := 13) (o := { dst := none, op := Op.store 27 (Operand.tmp 17) (Operand.tmp 16), type := 0, pos := "ref.go:51", after := #[{ on := 12, ground := Ground.data }, { on := 11, ground := Ground.data }, { on := 11, ground := Ground.chain }, { on := 0, ground := Ground.phase }, { on := 1, ground := Ground.phase }, { on := 2, ground := Ground.phase }, { on := 3, ground := Ground.phase }, { on := 4, ground := Ground.phase }, { on := 5, ground := Ground.phase }, { on := 6, ground := Ground.phase }, { on := 7, ground := Ground.phase }, { on := 8, ground := Ground.phase }, { on := 9, ground := Ground.phase }, { on := 10, ground := Ground.phase }, { on := 11, ground := Ground.phase }], guard := none }) (by kernel_rfl) rfl (fun K hK => ?_)
  go_simp
  clear hHeld
  refine hK.out _ _ (fun h => absurd rfl h) (fun hHeld => ?_)
  clear hK K
  try simp only [Act.put, List.setIfInBounds_toArray, List.set_cons_zero, List.set_cons_succ]
  refine AnyZ.done (by kernel_rfl) ?_ _
  refine NoPanic.normal ?_
  clear hHeld
  clear f3 p1 p2' ap2 ap3 fz hX1 cx
  go_wp2
  refine bodyPost_ret (results_row rtR Try.results38 _ _ _ _ rfl G.out.2.2.2.2.2.1 rfl) rfl ?_
  have b34 : Below w.heap.size X3 X5 := (below_of_grown G.out.2.2.2.2.2.2.1 (Nat.le_trans G.out.2.2.2.2.2.2.2.2.size G.out.2.2.2.1.size) (fun j e => by cases e; exact Nat.le_refl _)).trans (below_of_grown G.out.2.2.2.2.2.2.2.1 (by have := G.out.2.2.2.2.2.2.1.size; have := G.out.2.2.2.1.size; omega) (fun j e => by cases e; omega))
  refine ⟨_, rfl, ⟨a3, c3, by rw [← hm.out], ?_, fun x e => by have := G6.out x e; omega⟩, (below_over G.out.2.2.2.2.2.2.2.2 G.out.2.2.2.1).trans b34⟩
  rw [← hm.out]
  refine (G.out.2.2.2.2.1.keptBut G.out.2.2.2.2.2.2.1 (fun x e => ?_)).keptBut G.out.2.2.2.2.2.2.2.1 (fun x e => ?_)
  · have := G6.out x e
    intro e2
    have := Option.some.inj e2
    omega
  · have := G6.out x e
    intro e2
    have := Option.some.inj e2
    omega
end Go.Proofs.Ytpbpofmlpbobmaa
