/-
  A tree's variable of the statements; RolesRoots, RolesSelects: their walks, for every tree. Plain laws over the program's types ahead of them.
-/
import Derived.Test.YtnblhmicbhblpaaAwake
import Derived.Test.YtnblhmicbhblpaaRSel
import Derived.Test.YtnblhmicbhblpaaRStp
import Derived.Test.YtnblhmicbhblpaaSame
namespace Go.Proofs.Ytnblhmicbhblpaa
set_option linter.unusedVariables false
set_option maxRecDepth 4000
set_option linter.unusedSimpArgs false
open Go.RowKit

/-- Behind Few: the first ports are in the variable. -/
theorem TQ.few {w W W1 : World} {b m c : Nat} {h : Hd} {x : Value} {a : Option Addr} {l : List Pt} (r : RvAt W b 31 (trc h x)) (hB : Below w.heap.size w W) (hb : w.heap.size ≤ b) (b1 : Below W.heap.size W W1) (s : SlAt W1 a m c l) :
    ∃ V, (stS 31 (.pointer (some ⟨b, 0, none⟩)) (.agg (trc h (.slice a m c)))).run Try.prog W1 = .ok () V ∧ TQ w V b h a m c l := by
  obtain ⟨V, e, rV, g⟩ := (r.below b1).tst (g := h) (y := .slice a m c) rfl
  exact ⟨V, e, rV, s.keptT (r.below b1) g, gro (below_over hB b1) g hb (below_over hB b1).size, hb⟩
/-- A new one. -/
theorem TQ.new {w W : World} {n c : Nat} {h : Hd} {a : Option Addr} {l : List Pt} (s : SlAt W a n c l) (hB : Below w.heap.size w W) : ∃ V, (stS 31 (.pointer (some ⟨W.heap.size, 0, none⟩)) (.agg (trc h (.slice a n c)))).run Try.prog (W.alloc (.cells #[.int .u64 0, .int .u8 0, .int .u8 0, .int .u8 0, .int .u8 0, .int .u8 0, .bool false, .int .u16 0, .int .u64 0, .int .u32 0, .int .u64 0, .int .u16 0, .int .u8 0, .int .u8 0, .int .u8 0, .int .u8 0, .slice none 0 0] 31)) = .ok () V ∧ TQ w V W.heap.size h a n c l ∧ Below W.heap.size W V := by
  obtain ⟨V, e, r, b, z⟩ := new_tr W h (.slice a n c) rfl
  exact ⟨V, e, ⟨r, s.below b, below_over hB b, hB.size⟩, b⟩
attribute [local go_sem ↓] ldT stT ldV stV eqgV eqlV
set_option maxHeartbeats 4000000 in
theorem RolesRoots_walk (h : Hd) (a0 : Option Addr) (n0 c0 : Nat) (l0 : List Pt) (w : World) (hs : SlAt w a0 n0 c0 l0) :
    Calls Try.prog 3 #[.agg (trc h (.slice a0 n0 c0))] w fun r w' => r = .returned (.bool true) ∧ Below w.heap.size w w' := by
  obtain ⟨W, hW, r0, bW, zW⟩ := one_t w h (.slice a0 n0 c0)
  have t0 := r0.tld
  have H : Hid (SlAt W a0 n0 c0 l0 ∧ RvAt W w.heap.size 31 (trc h (.slice a0 n0 c0)) ∧ Below w.heap.size w W) := ⟨hs.below bW, r0, bW⟩
  clear hs r0 bW zW
  go_enter Try.func3, Try.ntmps3
  go_wp2_with fail
  refine (few_any h a0 n0 c0 l0 W H.out.1).mono ?_
  rintro _ W1 ⟨n, rfl, hn, s1, b1⟩
  obtain ⟨l, hl⟩ : ∃ l, l0.take 12 = l := ⟨_, rfl⟩
  rw [hl] at s1
  obtain ⟨V, sV, t⟩ := TQ.few (w := w) H.out.2.1 H.out.2.2 (Nat.le_refl _) b1 s1
  have T : Hid (TQ w V w.heap.size h a0 n c0 l) := t
  have lt := t.ld
  have hn1 : n ≤ 1000 := by omega
  clear s1 b1 t t0 H hW hl hn
  go_wp2_with fail
  refine (rootof_any h a0 n c0 l V T.out.sl hn1).mono ?_
  rintro _ V1 ⟨rfl, b1⟩
  obtain ⟨v, hv⟩ : ∃ v, rooV h l = v := ⟨_, rfl⟩
  obtain ⟨K, hK⟩ : ∃ k, rooK h l = k := ⟨_, rfl⟩
  rw [hv, hK]
  have E : Hid (rooV h l = v ∧ rooK h l = K) := ⟨hv, hK⟩
  obtain ⟨V2, s2, r2, b2, z2⟩ := new_v V1 v
  obtain ⟨vb, hvb⟩ : ∃ z, V1.heap.size = z := ⟨_, rfl⟩
  rw [hvb] at s2 r2
  have T2 : Hid (TQ w V2 w.heap.size h a0 n c0 l ∧ RvAt V2 vb 28 v.cs) := ⟨(T.out.below b1).below b2, r2⟩
  have lt2 := T2.out.1.ld
  clear b1 b2 r2 z2 T lt sV hv hK
  go_wp2_with fail
  refine (rroot_any h a0 n c0 l V2 T2.out.1.sl hn1).mono ?_
  rintro _ V3 ⟨rfl, b3⟩
  rw [E.out.1, E.out.2]
  obtain ⟨V4, s4, r4, b4, z4⟩ := new_v V3 v
  have k1 := ((T2.out.2.below b3).below b4).vld
  have k2 := r4.vld
  have e := Row.eq_self v
  have G : Hid (Below w.heap.size w V4) := below_over (below_over T2.out.1.bel b3) b4
  clear b3 b4 r4 z4 T2 lt2 s2 E hvb
  go_wp2_with fail
  refine (awake_any V4).mono ?_
  rintro _ V5 ⟨rfl, b5⟩
  have F : Hid (Below w.heap.size w V5) := below_over G.out b5
  clear b5 G k1 k2 s4 e
  go_wp2
  go_ret
  exact ⟨rfl, F.out⟩
set_option maxHeartbeats 4000000 in
theorem RolesSelects_walk (h : Hd) (a0 : Option Addr) (n0 c0 : Nat) (l0 : List Pt) (w : World) (hs : SlAt w a0 n0 c0 l0) :
    Calls Try.prog 4 #[.agg (trc h (.slice a0 n0 c0))] w fun r w' => r = .returned (.bool true) ∧ Below w.heap.size w w' := by
  obtain ⟨W, hW, r0, bW, zW⟩ := one_t w h (.slice a0 n0 c0)
  have t0 := r0.tld
  have H : Hid (SlAt W a0 n0 c0 l0 ∧ RvAt W w.heap.size 31 (trc h (.slice a0 n0 c0)) ∧ Below w.heap.size w W) := ⟨hs.below bW, r0, bW⟩
  clear hs r0 bW zW
  go_enter Try.func4, Try.ntmps4
  go_wp2_with fail
  refine (few_any h a0 n0 c0 l0 W H.out.1).mono ?_
  rintro _ W1 ⟨n, rfl, hn, s1, b1⟩
  obtain ⟨l, hl⟩ : ∃ l, l0.take 12 = l := ⟨_, rfl⟩
  rw [hl] at s1
  obtain ⟨V, sV, t⟩ := TQ.few (w := w) H.out.2.1 H.out.2.2 (Nat.le_refl _) b1 s1
  have G4 : Hid (TQ w V w.heap.size h a0 n c0 l) := t
  have hn1 : n ≤ 1000 := by omega
  have f0 := fun qq : Later V => (t.below qq.below).ld
  clear s1 b1 t t0 H hW hl hn
  obtain ⟨hS, hhS⟩ : ∃ z, hdS h l = z := ⟨_, rfl⟩
  obtain ⟨lS, hlS⟩ : ∃ z, selL h l = z := ⟨_, rfl⟩
  have E : Hid (hdS h l = hS ∧ selL h l = lS) := ⟨hhS, hlS⟩
  clear hhS hlS
  go_wp2_with fail
  clear sV
  obtain ⟨X0, hX0⟩ : ∃ X0, World.drew V = X0 := ⟨_, rfl⟩
  have B0 : Hid (Below V.heap.size V X0) := by rw [← hX0]; exact (Below.refl _ _).drew
  refine wp_region_noPanic ?_
  refine wp_region_held_drew (S := fun w' => ∃ x : Later V, w' = x.val) (by kernel_rfl) ⟨⟨_, (Below.refl _ _).drew⟩, rfl⟩ (fun hHeld => ?_)
  rw [hX0] at hHeld ⊢
  clear hX0
  refine wpAnyH_take (i := 0) (oi := { dst := some 5, op := Op.load 31 (Operand.tmp 1), type := 31, pos := "law.go:37", after := #[], guard := none }) (v := ?_) rfl (by kernel_rfl) (by kernel_rfl) (by kernel_rfl) (fun _ _ _ h => h) (Or.inl ⟨by rfl, ?_⟩) hHeld ?_
  rotate_left
  · intro W_ hSw_
    obtain ⟨qq, rfl⟩ := hSw_
    first | (go_simp; done) | (go_simp; with_reducible rfl)
  rotate_left
  try simp only [Act.put, List.setIfInBounds_toArray, List.set_cons_zero, List.set_cons_succ]
  refine wpAnyH_take (i := 2) (oi := { dst := some 7, op := Op.load 31 (Operand.tmp 1), type := 31, pos := "law.go:37", after := #[], guard := none }) (v := ?_) rfl (by kernel_rfl) (by kernel_rfl) (by kernel_rfl) (fun _ _ _ h => h) (Or.inl ⟨by rfl, ?_⟩) hHeld ?_
  rotate_left
  · intro W_ hSw_
    obtain ⟨qq, rfl⟩ := hSw_
    first | (go_simp; done) | (go_simp; with_reducible rfl)
  rotate_left
  try simp only [Act.put, List.setIfInBounds_toArray, List.set_cons_zero, List.set_cons_succ]
  refine wpAnyH_ready (rs := [1]) (by kernel_rfl) (by simp) ?_
  refine AllReadyH.cons (o := { dst := some 6, op := Op.call { callee := Callee.value (Operand.func 14), args := #[Operand.tmp 5], argTypes := #[31] }, type := 31, pos := "law.go:37", after := #[{ on := 0, ground := Ground.data }], guard := none }) rfl (fun K hK => ?_) AllReadyH.nil
  go_simp
  refine (select_any h a0 n c0 l X0 (G4.out.sl.below B0.out) hn1).mono ?_
  rintro _ X1 ⟨a1, c1, rfl, s1, bb⟩
  rw [E.out.2] at s1
  rw [E.out.1]
  have B1 : Hid (Below V.heap.size V X1) := below_over B0.out bb
  have S1 : Hid (SlAt X1 a1 n c1 lS) := s1
  clear bb s1 hHeld
  refine hK.out _ _ ⟨⟨_, B1.out⟩, rfl⟩ (fun hHeld => ?_)
  clear hK K
  try simp only [Act.put, List.setIfInBounds_toArray, List.set_cons_zero, List.set_cons_succ]
  refine wpAnyH_ready (rs := [3]) (by kernel_rfl) (by simp) ?_
  refine AllReadyH.cons (o := { dst := some 8, op := Op.call { callee := Callee.value (Operand.func 15), args := #[Operand.tmp 7], argTypes := #[31] }, type := 31, pos := "law.go:37", after := #[{ on := 2, ground := Ground.data }, { on := 1, ground := Ground.chain }], guard := none }) rfl (fun K hK => ?_) AllReadyH.nil
  go_simp
  refine (rselect_any h a0 n c0 l X1 (G4.out.sl.below B1.out) hn1).mono ?_
  rintro _ X2 ⟨a2, c2, rfl, s2, bb⟩
  rw [E.out.2] at s2
  rw [E.out.1]
  have B2 : Hid (Below V.heap.size V X2) := below_over B1.out bb
  have S2 : Hid (SlAt X2 a1 n c1 lS ∧ SlAt X2 a2 n c2 lS) := ⟨S1.out.below bb, s2⟩
  clear bb s2 S1 hHeld
  refine hK.out _ _ ⟨⟨_, B2.out⟩, rfl⟩ (fun hHeld => ?_)
  clear hK K
  try simp only [Act.put, List.setIfInBounds_toArray, List.set_cons_zero, List.set_cons_succ]
  refine wpAnyH_ready (rs := [4]) (by kernel_rfl) (by simp) ?_
  refine AllReadyH.cons (o := { dst := some 9, op := Op.call { callee := Callee.value (Operand.func 13), args := #[Operand.tmp 6, Operand.tmp 8], argTypes := #[31, 31] }, type := 4, pos := "law.go:37", after := #[{ on := 1, ground := Ground.data }, { on := 3, ground := Ground.data }, { on := 3, ground := Ground.chain }], guard := none }) rfl (fun K hK => ?_) AllReadyH.nil
  go_simp
  refine (rsame_any hS hS a1 a2 n n c1 c2 lS lS X2 S2.out.1 S2.out.2 hn1 hn1).mono ?_
  rintro _ X3 ⟨rfl, bb⟩
  rw [sameT_self]
  have B3 : Hid (Below V.heap.size V X3) := below_over B2.out bb
  clear bb S2 hHeld
  refine hK.out _ _ ⟨⟨_, B3.out⟩, rfl⟩ (fun hHeld => ?_)
  clear hK K
  try simp only [Act.put, List.setIfInBounds_toArray, List.set_cons_zero, List.set_cons_succ]
  refine wpAnyH_take (i := 5) (oi := { dst := some 10, op := Op.move (Operand.tmp 9), type := 4, pos := "law.go:37", after := #[{ on := 4, ground := Ground.data }, { on := 4, ground := Ground.chain }], guard := none }) (v := ?_) rfl (by kernel_rfl) (by kernel_rfl) (by kernel_rfl) (fun _ _ _ h => h) (Or.inl ⟨by rfl, ?_⟩) hHeld ?_
  rotate_left
  · intro W_ hSw_
    obtain ⟨qq, rfl⟩ := hSw_
    first | (go_simp; done) | (go_simp; with_reducible rfl)
  rotate_left
  try simp only [Act.put, List.setIfInBounds_toArray, List.set_cons_zero, List.set_cons_succ]
  refine wpAnyH_ready (rs := [6]) (by kernel_rfl) (by simp) ?_
  refine AllReadyH.cons (o := { dst := some 11, op := Op.call { callee := Callee.value (Operand.func 12), args := #[], argTypes := #[] }, type := 4, pos := "law.go:37", after := #[{ on := 5, ground := Ground.chain }, { on := 5, ground := Ground.guard }], guard := some (5, true) }) rfl (fun K hK => ?_) AllReadyH.nil
  go_simp
  refine (awake_any X3).mono ?_
  rintro _ X4 ⟨rfl, bb⟩
  have B4 : Hid (Below V.heap.size V X4) := below_over B3.out bb
  clear bb hHeld
  refine hK.out _ _ ⟨⟨_, B4.out⟩, rfl⟩ (fun hHeld => ?_)
  clear hK K
  try simp only [Act.put, List.setIfInBounds_toArray, List.set_cons_zero, List.set_cons_succ]
  refine wpAnyH_take (i := 7) (oi := { dst := some 12, op := Op.pick (Operand.tmp 10) (Operand.tmp 11) (Operand.const (Value.bool false)), type := 4, pos := "law.go:37", after := #[{ on := 5, ground := Ground.data }, { on := 6, ground := Ground.data }], guard := none }) (v := ?_) rfl (by kernel_rfl) (by kernel_rfl) (by kernel_rfl) (fun _ _ _ h => h) (Or.inl ⟨by rfl, ?_⟩) hHeld ?_
  rotate_left
  · intro W_ hSw_
    obtain ⟨qq, rfl⟩ := hSw_
    first | (go_simp; done) | (go_simp; with_reducible rfl)
  rotate_left
  try simp only [Act.put, List.setIfInBounds_toArray, List.set_cons_zero, List.set_cons_succ]
  refine wpAnyH_ready (rs := [8]) (by kernel_rfl) (by simp) ?_
  refine AllReadyH.cons (o := { dst := some 2, op := Op.assign (Operand.tmp 12), type := 4, pos := "law.go:37", after := #[{ on := 7, ground := Ground.data }, { on := 6, ground := Ground.chain }, { on := 0, ground := Ground.phase }, { on := 1, ground := Ground.phase }, { on := 2, ground := Ground.phase }, { on := 3, ground := Ground.phase }, { on := 4, ground := Ground.phase }, { on := 5, ground := Ground.phase }, { on := 6, ground := Ground.phase }, { on := 7, ground := Ground.phase }], guard := none }) rfl (fun K hK => ?_) AllReadyH.nil
  go_simp
  clear hHeld
  refine hK.out _ _ ⟨⟨_, B4.out⟩, rfl⟩ (fun hHeld => ?_)
  clear hK K
  try simp only [Act.put, List.setIfInBounds_toArray, List.set_cons_zero, List.set_cons_succ]
  refine wpAnyH_done (by kernel_rfl) ?_ _
  refine NoPanic.normal ?_
  clear hHeld
  go_wp2
  go_ret
  exact ⟨rfl, below_over G4.out.bel B4.out⟩
end Go.Proofs.Ytnblhmicbhblpaa
