/-
  The statements' own helpers: walks of cut and of the page's example, each for every input.
-/
import Derived.Test.YtcejfkkhmlebdaaFew
namespace Go.Proofs.Ytcejfkkhmlebdaa
set_option linter.unusedVariables false
set_option maxRecDepth 4000
set_option linter.unusedSimpArgs false
open Go.RowKit
attribute [local go_sem ↓] ldM stM ldC stC ldB stB ldP stP apI bsI ldF stF ldG stG apH bsH bdH bdG bdO bdB bdC bdP bdF bdT bdI bsB bsC
attribute [local go_sem] bsI_is bsI2_is bdH_is bdG_is bdG_z bdB_is bdC_is bsB_is bsC_is

theorem slG (x : Value) (lo hi mx : Option Value) : Instr.sliceAt 32 x lo hi mx = slS 32 x lo hi mx := rfl
theorem slG_cut (a : Option Addr) (n c m : Nat) (hm : m ≤ n) (hc : n ≤ c) (V : World) : (slS 32 (.slice a n c) none (some (.int .i64 m)) none).run Try.prog V = .ok (.slice a m c) V := by
  have hin : (m : Int) ≤ (c : Int) := by omega
  have hz := Try.sizeOf37
  have hu : Try.prog.underlying 32 = some (.slice 37) := Try.underlying32
  unfold slS
  simp only [Instr.sliceAt, Sem.run_bind, run_underlying hu, Result.andThen_ok]
  simp only [Instr.slice, Sem.run_bind, run_underlying hu, Result.andThen_ok, Instr.sliceBounds, Sem.run_pure]
  rw [run_sliceBound V .i64 (m : Int) c _ (by omega) hin]
  simp only [Result.andThen_ok, Sem.run_pure, hz V, Int.toNat_natCast]
  cases a <;> simp [Addr.add]
attribute [local go_sem ↓] slG
set_option maxHeartbeats 8000000 in
theorem cut_any (a : Option Addr) (n c : Nat) (g : List Gt) (w : World) (hs : SlAt eG w a n c g) :
    Calls Try.prog 10 #[.slice a n c] w fun r w' => (∃ v, r = .returned (.tuple #[.slice a (min n 10) c, v]) ∧ Own eH w' w.heap.size v (g.take 10)) ∧ Below w.heap.size w w' := by
  have hnn := hs.int
  have n0 := slG_cut a n c (min n 10) (Nat.min_le_left ..) hs.cap
  obtain ⟨k0, hk0⟩ : ∃ z, min n 10 = z := ⟨_, rfl⟩
  have m0 : min (n : Int) 10 = (k0 : Int) := by omega
  have m0' : (if (10 : Int) < (n : Int) then (10 : Int) else (n : Int)) = (k0 : Int) := by split <;> omega
  have hk1 : k0 ≤ 10 := by omega
  have hk2 : (k0 : Int) ≤ 9223372036854775807 := by omega
  have hs' := hs.cutM kG 10
  rw [hk0] at n0 hs' ⊢
  obtain ⟨l, hl⟩ : ∃ z, g.take 10 = z := ⟨_, rfl⟩
  rw [hl] at hs' ⊢
  have H : Hid (SlAt eG w a k0 c l ∧ l.length = k0 ∧ k0 ≤ 10) := ⟨hs', hs'.len, hk1⟩
  clear hs hs' hk0 hl hk1
  go_enter Try.func10, Try.ntmps10
  go_wp2_with fail
  clear n0 m0 m0'
  go_loopw [4, 5] (fun u v wr => ∃ i : Nat, i ≤ k0 ∧ v = .int .i64 i ∧ Own eH wr w.heap.size u (l.take i) ∧ Below w.heap.size w wr) (fun u v _ => k0 - (intOf v).toNat)
  case atStart => exact ⟨0, by omega, rfl, Own.nil _ _, Below.refl _ _⟩
  case round =>
    obtain ⟨i, hi, rfl, hO, hB⟩ := hrel
    have J : Hid (Own eH wr w.heap.size u4 (l.take i) ∧ Below w.heap.size w wr) := ⟨hO, hB⟩
    have hi0 : (0 : Int) ≤ (i : Int) := by omega
    clear hO hB
    by_cases hit : i < k0
    · have hi1 : (i : Int) < (k0 : Int) := by omega
      obtain ⟨b, o, rfl⟩ := H.out.1.some' (by omega)
      obtain ⟨y, hy⟩ := lt_nth (l := l) (i := i) (by rw [H.out.2.1]; exact hit)
      have l0 := fun q : Later w => lG0 (H.out.1.below q.below) hy
      have l1 := fun q : Later w => lG1 (H.out.1.below q.below) hy
      have bb := fun q : World => bdH_is y.l y.f q
      obtain ⟨Y, hY⟩ : ∃ X0, World.drew wr = X0 := ⟨_, rfl⟩
      have bY : Below wr.heap.size wr Y := by rw [← hY]; exact (Below.refl _ _).drew
      obtain ⟨v', U, aU, oU, bU⟩ := nH (J.out.1.below bY) (below_over J.out.2 bY).size (by rw [List.length_take]; have := H.out.2.2; omega) y
      have G : Hid (Own eH U w.heap.size v' (l.take (i + 1)) ∧ Below w.heap.size w U) := by
        refine ⟨?_, (below_over J.out.2 bY).trans bU⟩
        rw [List.take_add_one, hy]
        exact oU
      have B0 : Hid (Below w.heap.size w Y) := below_over J.out.2 bY
      clear hit hy
      go_wp2_with fail
      refine wp_region_noPanic ?_
      refine wp_region_held_drew (S := fun w' => ∃ x : Later w, w' = x.val) (by kernel_rfl) (by rw [hY]; exact ⟨⟨_, B0.out⟩, rfl⟩) (fun hHeld => ?_)
      rw [hY] at hHeld ⊢
      clear hY oU bU bY
      refine wpAnyH_take (i := 0) (oi := { dst := some 17, op := Op.move (Operand.tmp 4), type := 34, pos := "law.go:29", after := #[], guard := none }) (v := ?_) rfl (by kernel_rfl) (by kernel_rfl) (by kernel_rfl) (fun _ _ _ h => h) (Or.inl ⟨by rfl, ?_⟩) hHeld ?_
      rotate_left
      · intro W_ hSw_
        obtain ⟨q, rfl⟩ := hSw_
        first | (go_simp; done) | (go_simp; with_reducible rfl)
      rotate_left
      try simp only [Act.put, List.setIfInBounds_toArray, List.set_cons_zero, List.set_cons_succ]
      refine wpAnyH_take (i := 1) (oi := { dst := some 18, op := Op.move (Operand.tmp 0), type := 32, pos := "law.go:29", after := #[], guard := none }) (v := ?_) rfl (by kernel_rfl) (by kernel_rfl) (by kernel_rfl) (fun _ _ _ h => h) (Or.inl ⟨by rfl, ?_⟩) hHeld ?_
      rotate_left
      · intro W_ hSw_
        obtain ⟨q, rfl⟩ := hSw_
        first | (go_simp; done) | (go_simp; with_reducible rfl)
      rotate_left
      try simp only [Act.put, List.setIfInBounds_toArray, List.set_cons_zero, List.set_cons_succ]
      refine wpAnyH_take (i := 2) (oi := { dst := some 19, op := Op.move (Operand.tmp 5), type := 3, pos := "law.go:29", after := #[], guard := none }) (v := ?_) rfl (by kernel_rfl) (by kernel_rfl) (by kernel_rfl) (fun _ _ _ h => h) (Or.inl ⟨by rfl, ?_⟩) hHeld ?_
      rotate_left
      · intro W_ hSw_
        obtain ⟨q, rfl⟩ := hSw_
        first | (go_simp; done) | (go_simp; with_reducible rfl)
      rotate_left
      try simp only [Act.put, List.setIfInBounds_toArray, List.set_cons_zero, List.set_cons_succ]
      refine wpAnyH_take (i := 3) (oi := { dst := some 20, op := Op.indexAddr 32 (Operand.tmp 18) (Operand.tmp 19), type := 0, pos := "law.go:29", after := #[{ on := 1, ground := Ground.data }, { on := 2, ground := Ground.data }], guard := none }) (v := ?_) rfl (by kernel_rfl) (by kernel_rfl) (by kernel_rfl) (fun _ _ _ h => h) (Or.inl ⟨by rfl, ?_⟩) hHeld ?_
      rotate_left
      · intro W_ hSw_
        obtain ⟨q, rfl⟩ := hSw_
        first | (go_simp; done) | (go_simp; with_reducible rfl)
      rotate_left
      try simp only [Act.put, List.setIfInBounds_toArray, List.set_cons_zero, List.set_cons_succ]
      refine wpAnyH_take (i := 4) (oi := { dst := some 21, op := Op.fieldAddr 37 (Operand.tmp 20) 0, type := 0, pos := "law.go:29", after := #[{ on := 3, ground := Ground.data }], guard := none }) (v := ?_) rfl (by kernel_rfl) (by kernel_rfl) (by kernel_rfl) (fun _ _ _ h => h) (Or.inl ⟨by rfl, ?_⟩) hHeld ?_
      rotate_left
      · intro W_ hSw_
        obtain ⟨q, rfl⟩ := hSw_
        first | (go_simp; done) | (go_simp; with_reducible rfl)
      rotate_left
      try simp only [Act.put, List.setIfInBounds_toArray, List.set_cons_zero, List.set_cons_succ]
      refine wpAnyH_take (i := 5) (oi := { dst := some 22, op := Op.load 4 (Operand.tmp 21), type := 4, pos := "law.go:29", after := #[{ on := 4, ground := Ground.data }], guard := none }) (v := ?_) rfl (by kernel_rfl) (by kernel_rfl) (by kernel_rfl) (fun _ _ _ h => h) (Or.inl ⟨by rfl, ?_⟩) hHeld ?_
      rotate_left
      · intro W_ hSw_
        obtain ⟨q, rfl⟩ := hSw_
        first | (go_simp; done) | (go_simp; with_reducible rfl)
      rotate_left
      try simp only [Act.put, List.setIfInBounds_toArray, List.set_cons_zero, List.set_cons_succ]
      refine wpAnyH_take (i := 6) (oi := { dst := some 23, op := Op.move (Operand.tmp 0), type := 32, pos := "law.go:29", after := #[], guard := none }) (v := ?_) rfl (by kernel_rfl) (by kernel_rfl) (by kernel_rfl) (fun _ _ _ h => h) (Or.inl ⟨by rfl, ?_⟩) hHeld ?_
      rotate_left
      · intro W_ hSw_
        obtain ⟨q, rfl⟩ := hSw_
        first | (go_simp; done) | (go_simp; with_reducible rfl)
      rotate_left
      try simp only [Act.put, List.setIfInBounds_toArray, List.set_cons_zero, List.set_cons_succ]
      refine wpAnyH_take (i := 7) (oi := { dst := some 24, op := Op.move (Operand.tmp 5), type := 3, pos := "law.go:29", after := #[], guard := none }) (v := ?_) rfl (by kernel_rfl) (by kernel_rfl) (by kernel_rfl) (fun _ _ _ h => h) (Or.inl ⟨by rfl, ?_⟩) hHeld ?_
      rotate_left
      · intro W_ hSw_
        obtain ⟨q, rfl⟩ := hSw_
        first | (go_simp; done) | (go_simp; with_reducible rfl)
      rotate_left
      try simp only [Act.put, List.setIfInBounds_toArray, List.set_cons_zero, List.set_cons_succ]
      refine wpAnyH_take (i := 8) (oi := { dst := some 25, op := Op.indexAddr 32 (Operand.tmp 23) (Operand.tmp 24), type := 0, pos := "law.go:29", after := #[{ on := 6, ground := Ground.data }, { on := 7, ground := Ground.data }], guard := none }) (v := ?_) rfl (by kernel_rfl) (by kernel_rfl) (by kernel_rfl) (fun _ _ _ h => h) (Or.inl ⟨by rfl, ?_⟩) hHeld ?_
      rotate_left
      · intro W_ hSw_
        obtain ⟨q, rfl⟩ := hSw_
        first | (go_simp; done) | (go_simp; with_reducible rfl)
      rotate_left
      try simp only [Act.put, List.setIfInBounds_toArray, List.set_cons_zero, List.set_cons_succ]
      refine wpAnyH_take (i := 9) (oi := { dst := some 26, op := Op.fieldAddr 37 (Operand.tmp 25) 1, type := 0, pos := "law.go:29", after := #[{ on := 8, ground := Ground.data }], guard := none }) (v := ?_) rfl (by kernel_rfl) (by kernel_rfl) (by kernel_rfl) (fun _ _ _ h => h) (Or.inl ⟨by rfl, ?_⟩) hHeld ?_
      rotate_left
      · intro W_ hSw_
        obtain ⟨q, rfl⟩ := hSw_
        first | (go_simp; done) | (go_simp; with_reducible rfl)
      rotate_left
      try simp only [Act.put, List.setIfInBounds_toArray, List.set_cons_zero, List.set_cons_succ]
      refine wpAnyH_take (i := 10) (oi := { dst := some 27, op := Op.load 4 (Operand.tmp 26), type := 4, pos := "law.go:29", after := #[{ on := 9, ground := Ground.data }], guard := none }) (v := ?_) rfl (by kernel_rfl) (by kernel_rfl) (by kernel_rfl) (fun _ _ _ h => h) (Or.inl ⟨by rfl, ?_⟩) hHeld ?_
      rotate_left
      · intro W_ hSw_
        obtain ⟨q, rfl⟩ := hSw_
        first | (go_simp; done) | (go_simp; with_reducible rfl)
      rotate_left
      try simp only [Act.put, List.setIfInBounds_toArray, List.set_cons_zero, List.set_cons_succ]
      refine wpAnyH_take (i := 11) (oi := { dst := some 28, op := Op.build 38 #[(0, Operand.tmp 22), (1, Operand.tmp 27)], type := 38, pos := "law.go:29", after := #[{ on := 5, ground := Ground.data }, { on := 10, ground := Ground.data }], guard := none }) (v := ?_) rfl (by kernel_rfl) (by kernel_rfl) (by kernel_rfl) (fun _ _ _ h => h) (Or.inl ⟨by rfl, ?_⟩) hHeld ?_
      rotate_left
      · intro W_ hSw_
        obtain ⟨q, rfl⟩ := hSw_
        first | (go_simp; done) | (go_simp; with_reducible rfl)
      rotate_left
      try simp only [Act.put, List.setIfInBounds_toArray, List.set_cons_zero, List.set_cons_succ]
      refine wpAnyH_ready (rs := [12]) (by kernel_rfl) (by simp) ?_
      refine AllReadyH.cons (o := { dst := some 29, op := Op.buildSlice 34 1 #[(0, Operand.tmp 28)], type := 34, pos := "law.go:29", after := #[{ on := 11, ground := Ground.data }], guard := none }) rfl (fun K hK => ?_) AllReadyH.nil
      have bs0 := bsH_is y Y
      go_simp
      clear hHeld
      refine hK.out _ _ ⟨⟨_, B0.out.alloc B0.out.size _⟩, rfl⟩ (fun hHeld => ?_)
      clear hK K
      try simp only [Act.put, List.setIfInBounds_toArray, List.set_cons_zero, List.set_cons_succ]
      refine wpAnyH_ready (rs := [13]) (by kernel_rfl) (by simp) ?_
      refine AllReadyH.cons (o := { dst := some 30, op := Op.call { callee := Callee.builtin Builtin.append, args := #[Operand.tmp 17, Operand.tmp 29], argTypes := #[34, 34] }, type := 34, pos := "law.go:29", after := #[{ on := 0, ground := Ground.data }, { on := 12, ground := Ground.data }], guard := none }) rfl (fun K hK => ?_) AllReadyH.nil
      go_simp
      clear hHeld
      refine hK.out _ _ ⟨⟨_, G.out.2⟩, rfl⟩ (fun hHeld => ?_)
      clear hK K
      try simp only [Act.put, List.setIfInBounds_toArray, List.set_cons_zero, List.set_cons_succ]
      refine wpAnyH_take (i := 14) (oi := { dst := some 4, op := Op.assign (Operand.tmp 30), type := 34, pos := "law.go:29", after := #[{ on := 13, ground := Ground.data }, { on := 13, ground := Ground.chain }, { on := 0, ground := Ground.phase }, { on := 1, ground := Ground.phase }, { on := 2, ground := Ground.phase }, { on := 3, ground := Ground.phase }, { on := 4, ground := Ground.phase }, { on := 5, ground := Ground.phase }, { on := 6, ground := Ground.phase }, { on := 7, ground := Ground.phase }, { on := 8, ground := Ground.phase }, { on := 9, ground := Ground.phase }, { on := 10, ground := Ground.phase }, { on := 11, ground := Ground.phase }, { on := 12, ground := Ground.phase }, { on := 13, ground := Ground.phase }], guard := none }) (v := ?_) rfl (by kernel_rfl) (by kernel_rfl) (by kernel_rfl) (fun _ _ _ h => h) (Or.inl ⟨by rfl, ?_⟩) hHeld ?_
      rotate_left
      · intro W_ hSw_
        obtain ⟨q, rfl⟩ := hSw_
        first | (go_simp; done) | (go_simp; with_reducible rfl)
      rotate_left
      try simp only [Act.put, List.setIfInBounds_toArray, List.set_cons_zero, List.set_cons_succ]
      refine wpAnyH_done (by kernel_rfl) ?_ _
      refine NoPanic.normal ?_
      clear hHeld
      clear l0 l1 bb aU bs0
      go_wp2
      go_roundw
      case rel => exact ⟨i + 1, by omega, by go_num, G.out.1, G.out.2⟩
      case measure => simp [intOf]; omega
    · have hin : i = k0 := by omega
      subst hin
      have hi1 : ¬ (i : Int) < (i : Int) := by omega
      have E : Hid (l.take i = l) := List.take_of_length_le (by rw [H.out.2.1]; exact Nat.le_refl _)
      go_wp2
      go_returns
      exact ⟨⟨_, rfl, by have := J.out.1; rw [E.out] at this; exact this⟩, J.out.2⟩
end Go.Proofs.Ytcejfkkhmlebdaa
