/-
  A tally that nobody made; what is told is one's own: the walk of the law, for every input.
-/
import Derived.Test.YtammaaiknjgjbaaTx
namespace Go.Proofs.Ytammaaiknjgjbaa
set_option linter.unusedVariables false
set_option maxRecDepth 4000
set_option linter.unusedSimpArgs false
open Go.RowKit
attribute [local go_sem ↓] apI bsI ldT stT stI ldA stA bsW
attribute [local go_sem] bzI b3W b2W b1W mk15
structure OwS (w W : World) (g : Nat) : Prop where
  b : Below w.heap.size w W
  q : RvAt W g 55 (tcs false zN)
  r : RvAt W (g + 1) 25 #[.pointer none, .pointer (some ⟨g, 0, none⟩)]
theorem OwS.below {w W W' : World} {g : Nat} (h : OwS w W g) (hb : Below W.heap.size W W') : OwS w W' g := ⟨below_over h.b hb, h.q.below hb, h.r.below hb⟩
theorem OwS.nob {w W : World} {g i : Nat} {p : Option Addr} (h : OwS w W g) (hp : (#[.pointer none, .pointer (some ⟨g, 0, none⟩)] : Array Value)[i]? = some (.pointer p)) : NobT W p := by
  rcases i with _ | _ | i
  · cases hp
    exact .inl rfl
  · cases hp
    exact .inr ⟨g, rfl, h.q⟩
  · simp at hp
theorem z15_new (W : World) : ∃ V, W.alloc (.cells (eI.fl zN).toArray 3) = V ∧ Below W.heap.size W V ∧ SlAt eI V (some ⟨W.heap.size, 0, none⟩) 15 15 zN := by
  have p0 : PAt eI (W.alloc (.cells (eI.fl zN).toArray 3)) W.heap.size 15 zN := ⟨_, RvAt.new W _ _, Nat.le_refl _, by unfold maxLen; omega, rfl, rfl⟩
  exact ⟨_, rfl, (Below.refl _ _).alloc (Nat.le_refl _) _, p0.sl kI⟩
/-- A kind handed to Sum, in memory. -/
def OwK (W : World) (s : Nat) (x : Int) : Prop := SlAt eW W (some ⟨s, 0, none⟩) 1 1 [x]
theorem OwK.below {W W' : World} {s : Nat} {x : Int} (h : OwK W s x) (hb : Below W.heap.size W W') : OwK W' s x := SlAt.below h hb
theorem own_alloc {w X : World} {g : Nat} (x : Int) (h : Hid (OwS w X g)) : ∃ V, X.alloc (.cells #[.int .i64 x] 32) = V ∧ Hid (OwS w V g) ∧ Hid (OwK V X.heap.size x) :=
  ⟨_, rfl, h.out.below ((Below.refl _ _).alloc (Nat.le_refl _) _), why_new X [x] (by simp)⟩
def awO : List Int := [0, 0, 0, 0, 0, 0, 0, 0, 0, 0, 3, 0, 0, 0, 0]
set_option maxHeartbeats 16000000 in
theorem own_law (x m : Int) (w : World) : Calls Try.prog 7 #[.int .i64 x, .int .i64 m] w fun e w' => e = .returned (.bool true) ∧ Below w.heap.size w w' := by
  go_enter Try.func7, Try.ntmps7
  go_wp2_with fail
  obtain ⟨g, hg⟩ : ∃ e, w.heap.size = e := ⟨_, rfl⟩
  obtain ⟨W1, hW1⟩ : ∃ e, w.alloc (.cells (tcs false zN) 55) = e := ⟨_, rfl⟩
  have q1 : RvAt W1 w.heap.size 55 (tcs false zN) := by rw [← hW1]; exact RvAt.new w _ _
  have b1 : Below w.heap.size w W1 := by rw [← hW1]; exact (Below.refl _ _).alloc (Nat.le_refl _) _
  have e1 : W1.heap.size = w.heap.size + 1 := by rw [← hW1]; simp
  obtain ⟨W2, hW2⟩ : ∃ e, W1.alloc (.cells #[.pointer none, .pointer (some ⟨w.heap.size, 0, none⟩)] 25) = e := ⟨_, rfl⟩
  have r2 : RvAt W2 W1.heap.size 25 #[.pointer none, .pointer (some ⟨w.heap.size, 0, none⟩)] := by rw [← hW2]; exact RvAt.new W1 _ _
  have b2 : Below W1.heap.size W1 W2 := by rw [← hW2]; exact (Below.refl _ _).alloc (Nat.le_refl _) _
  have K0 : Hid (OwS w W2 w.heap.size) := ⟨below_over b1 b2, q1.below b2, by rw [← e1]; exact r2⟩
  rw [show (w.alloc (.cells #[.bool false, .int .i64 0, .int .i64 0, .int .i64 0, .int .i64 0, .int .i64 0, .int .i64 0, .int .i64 0, .int .i64 0, .int .i64 0, .int .i64 0, .int .i64 0, .int .i64 0, .int .i64 0, .int .i64 0, .int .i64 0] 55)) = W1 from hW1, hW2]
  clear q1 b1 e1 r2 b2 hW1 hW2
  rw [hg] at K0
  rw [hg]
  clear hg
  go_loopw [7] (fun v wr => ∃ i : Nat, i ≤ 2 ∧ v = .int .i64 i ∧ OwS w wr g) (fun v _ => 2 - (intOf v).toNat)
  case atStart => exact ⟨0, by omega, rfl, K0.out⟩
  case round =>
    obtain ⟨i, hi, rfl, hS⟩ := hrel
    obtain ⟨X, hX⟩ : ∃ e, wr = e := ⟨_, rfl⟩
    rw [hX] at hS ⊢
    have J : Hid (OwS w X g) := hS
    have hi0 : (0 : Int) ≤ (i : Int) := by omega
    clear hS hX K0
    by_cases hit : i < 2
    · have hi1 : (i : Int) < 2 := by omega
      obtain ⟨p, hp⟩ : ∃ p : Option Addr, (#[.pointer none, .pointer (some ⟨g, 0, none⟩)] : Array Value)[i]? = some (.pointer p) := by
        rcases i with _ | _ | i
        · exact ⟨none, rfl⟩
        · exact ⟨some ⟨g, 0, none⟩, rfl⟩
        · omega
      have c1 := J.out.r.cell i _ hp
      have HP : Hid (i < 2 ∧ ∀ V, OwS w V g → NobT V p) := ⟨hit, fun V h => h.nob hp⟩
      clear hp hit
      go_wp2_with fail
      obtain ⟨X0, hX0⟩ : ∃ X0, X.drew = X0 := ⟨_, rfl⟩
      have B0 : Below X.heap.size X X0 := by rw [← hX0]; exact (Below.refl _ _).drew
      have J2 : Hid (OwS w X0 g) := J.out.below B0
      refine wp_region_noPanic ?_
      refine wp_region_held_drew (S := fun w' => OwS w w' g) (by kernel_rfl) (J.out.below (Below.refl _ _).drew) (fun hHeld => ?_)
      rw [hX0] at hHeld ⊢
      clear hX0 B0 c1 J
      refine wpAnyH_take (i := 0) (oi := { dst := some 26, op := Op.move (Operand.tmp 8), type := 25, pos := "law.go:120", after := #[], guard := none }) (v := ?_) rfl (by kernel_rfl) (by kernel_rfl) (by kernel_rfl) (fun _ _ _ h => h) (Or.inl ⟨by rfl, ?_⟩) hHeld ?_
      rotate_left
      · intro W_ hSw_
        first | (go_simp; done) | (go_simp; with_reducible rfl)
      rotate_left
      try simp only [Act.put, List.setIfInBounds_toArray, List.set_cons_zero, List.set_cons_succ]
      refine wpAnyH_take (i := 1) (oi := { dst := some 27, op := Op.move (Operand.tmp 0), type := 32, pos := "law.go:120", after := #[], guard := none }) (v := ?_) rfl (by kernel_rfl) (by kernel_rfl) (by kernel_rfl) (fun _ _ _ h => h) (Or.inl ⟨by rfl, ?_⟩) hHeld ?_
      rotate_left
      · intro W_ hSw_
        first | (go_simp; done) | (go_simp; with_reducible rfl)
      rotate_left
      try simp only [Act.put, List.setIfInBounds_toArray, List.set_cons_zero, List.set_cons_succ]
      refine wpAnyH_take (i := 2) (oi := { dst := some 28, op := Op.move (Operand.tmp 1), type := 3, pos := "law.go:120", after := #[], guard := none }) (v := ?_) rfl (by kernel_rfl) (by kernel_rfl) (by kernel_rfl) (fun _ _ _ h => h) (Or.inl ⟨by rfl, ?_⟩) hHeld ?_
      rotate_left
      · intro W_ hSw_
        first | (go_simp; done) | (go_simp; with_reducible rfl)
      rotate_left
      try simp only [Act.put, List.setIfInBounds_toArray, List.set_cons_zero, List.set_cons_succ]
      refine wpAnyH_ready (rs := [3]) (by kernel_rfl) (by simp) ?_
      refine AllReadyH.cons (o := { dst := some 29, op := Op.call { callee := Callee.value (Operand.func 13), args := #[Operand.tmp 26, Operand.tmp 27, Operand.tmp 28], argTypes := #[25, 32, 3] }, type := 35, pos := "law.go:120", after := #[{ on := 0, ground := Ground.data }, { on := 1, ground := Ground.data }, { on := 2, ground := Ground.data }], guard := none }) rfl (fun K hK => ?_) AllReadyH.nil
      go_simp
      refine (nadd_any (HP.out.2 _ J2.out) _ _).mono ?_
      rintro _ _ ⟨rfl, rfl⟩
      clear hHeld
      refine hK.out _ _ J2.out (fun hHeld => ?_)
      clear hK K
      try simp only [Act.put, List.setIfInBounds_toArray, List.set_cons_zero, List.set_cons_succ]
      refine wpAnyH_take (i := 4) (oi := { dst := some 30, op := Op.binOp BinOp.neq 35 (Operand.tmp 29) (Operand.const (Value.int IntKind.i64 4)) 35, type := 4, pos := "law.go:120", after := #[{ on := 3, ground := Ground.data }], guard := none }) (v := ?_) rfl (by kernel_rfl) (by kernel_rfl) (by kernel_rfl) (fun _ _ _ h => h) (Or.inl ⟨by rfl, ?_⟩) hHeld ?_
      rotate_left
      · intro W_ hSw_
        first | (go_simp; done) | (go_simp; with_reducible rfl)
      rotate_left
      try simp only [Act.put, List.setIfInBounds_toArray, List.set_cons_zero, List.set_cons_succ]
      refine wpAnyH_take (i := 5) (oi := { dst := some 31, op := Op.move (Operand.tmp 30), type := 4, pos := "law.go:120", after := #[{ on := 4, ground := Ground.data }, { on := 3, ground := Ground.chain }], guard := none }) (v := ?_) rfl (by kernel_rfl) (by kernel_rfl) (by kernel_rfl) (fun _ _ _ h => h) (Or.inl ⟨by rfl, ?_⟩) hHeld ?_
      rotate_left
      · intro W_ hSw_
        first | (go_simp; done) | (go_simp; with_reducible rfl)
      rotate_left
      try simp only [Act.put, List.setIfInBounds_toArray, List.set_cons_zero, List.set_cons_succ]
      refine wpAnyH_take (i := 6) (oi := { dst := some 32, op := Op.move (Operand.tmp 8), type := 25, pos := "law.go:120", after := #[{ on := 5, ground := Ground.guard }], guard := some (5, false) }) (v := ?_) rfl (by kernel_rfl) (by kernel_rfl) (by kernel_rfl) (fun _ _ _ h => h) (Or.inl ⟨by rfl, ?_⟩) hHeld ?_
      rotate_left
      · intro W_ hSw_
        first | (go_simp; done) | (go_simp; with_reducible rfl)
      rotate_left
      try simp only [Act.put, List.setIfInBounds_toArray, List.set_cons_zero, List.set_cons_succ]
      refine wpAnyH_take (i := 7) (oi := { dst := some 33, op := Op.move (Operand.tmp 0), type := 32, pos := "law.go:120", after := #[{ on := 5, ground := Ground.guard }], guard := some (5, false) }) (v := ?_) rfl (by kernel_rfl) (by kernel_rfl) (by kernel_rfl) (fun _ _ _ h => h) (Or.inl ⟨by rfl, ?_⟩) hHeld ?_
      rotate_left
      · intro W_ hSw_
        first | (go_simp; done) | (go_simp; with_reducible rfl)
      rotate_left
      try simp only [Act.put, List.setIfInBounds_toArray, List.set_cons_zero, List.set_cons_succ]
      refine wpAnyH_take (i := 9) (oi := { dst := some 35, op := Op.move (Operand.tmp 8), type := 25, pos := "law.go:120", after := #[{ on := 5, ground := Ground.guard }], guard := some (5, false) }) (v := ?_) rfl (by kernel_rfl) (by kernel_rfl) (by kernel_rfl) (fun _ _ _ h => h) (Or.inl ⟨by rfl, ?_⟩) hHeld ?_
      rotate_left
      · intro W_ hSw_
        first | (go_simp; done) | (go_simp; with_reducible rfl)
      rotate_left
      try simp only [Act.put, List.setIfInBounds_toArray, List.set_cons_zero, List.set_cons_succ]
      refine wpAnyH_take (i := 13) (oi := { dst := some 39, op := Op.move (Operand.tmp 8), type := 25, pos := "law.go:120", after := #[{ on := 5, ground := Ground.guard }], guard := some (5, false) }) (v := ?_) rfl (by kernel_rfl) (by kernel_rfl) (by kernel_rfl) (fun _ _ _ h => h) (Or.inl ⟨by rfl, ?_⟩) hHeld ?_
      rotate_left
      · intro W_ hSw_
        first | (go_simp; done) | (go_simp; with_reducible rfl)
      rotate_left
      try simp only [Act.put, List.setIfInBounds_toArray, List.set_cons_zero, List.set_cons_succ]
      refine wpAnyH_take (i := 14) (oi := { dst := some 40, op := Op.move (Operand.tmp 0), type := 32, pos := "law.go:120", after := #[{ on := 5, ground := Ground.guard }], guard := some (5, false) }) (v := ?_) rfl (by kernel_rfl) (by kernel_rfl) (by kernel_rfl) (fun _ _ _ h => h) (Or.inl ⟨by rfl, ?_⟩) hHeld ?_
      rotate_left
      · intro W_ hSw_
        first | (go_simp; done) | (go_simp; with_reducible rfl)
      rotate_left
      try simp only [Act.put, List.setIfInBounds_toArray, List.set_cons_zero, List.set_cons_succ]
      refine wpAnyH_ready (rs := [8, 15]) (by kernel_rfl) (by simp) ?_
      refine (AllReadyH.cons (o := { dst := some 34, op := Op.call { callee := Callee.value (Operand.func 15), args := #[Operand.tmp 32, Operand.tmp 33], argTypes := #[25, 32] }, type := 3, pos := "law.go:120", after := #[{ on := 6, ground := Ground.data }, { on := 7, ground := Ground.data }, { on := 5, ground := Ground.chain }, { on := 5, ground := Ground.guard }], guard := some (5, false) }) rfl (fun K hK => ?_) (AllReadyH.cons (o := { dst := some 41, op := Op.buildSlice 23 1 #[(0, Operand.tmp 40)], type := 23, pos := "law.go:120", after := #[{ on := 14, ground := Ground.data }, { on := 5, ground := Ground.guard }], guard := some (5, false) }) rfl (fun K hK => ?_) AllReadyH.nil))
      · go_simp
        refine (nget_any (HP.out.2 _ J2.out) _).mono ?_
        rintro _ Xg ⟨rfl, dg⟩
        have Jn : Hid (OwS w Xg g) := J2.out.below dg
        clear dg J2
        have J2 := Jn
        clear Jn
        clear hHeld
        refine hK.out _ _ J2.out (fun hHeld => ?_)
        clear hK K
        try simp only [Act.put, List.setIfInBounds_toArray, List.set_cons_zero, List.set_cons_succ]
        refine wpAnyH_ready (rs := [10, 15]) (by kernel_rfl) (by simp) ?_
        refine (AllReadyH.cons (o := { dst := some 36, op := Op.call { callee := Callee.value (Operand.func 18), args := #[Operand.tmp 35], argTypes := #[25] }, type := 27, pos := "law.go:120", after := #[{ on := 9, ground := Ground.data }, { on := 8, ground := Ground.chain }, { on := 5, ground := Ground.guard }], guard := some (5, false) }) rfl (fun K hK => ?_) (AllReadyH.cons (o := { dst := some 41, op := Op.buildSlice 23 1 #[(0, Operand.tmp 40)], type := 23, pos := "law.go:120", after := #[{ on := 14, ground := Ground.data }, { on := 5, ground := Ground.guard }], guard := some (5, false) }) rfl (fun K hK => ?_) AllReadyH.nil))
        · go_simp
          refine (nall_any (HP.out.2 _ J2.out)).mono ?_
          rintro _ _ ⟨rfl, rfl⟩
          clear hHeld
          refine hK.out _ _ J2.out (fun hHeld => ?_)
          clear hK K
          try simp only [Act.put, List.setIfInBounds_toArray, List.set_cons_zero, List.set_cons_succ]
          refine wpAnyH_take (i := 11) (oi := { dst := some 37, op := Op.call { callee := Callee.builtin Builtin.len, args := #[Operand.tmp 36], argTypes := #[27] }, type := 3, pos := "law.go:120", after := #[{ on := 10, ground := Ground.data }, { on := 5, ground := Ground.guard }], guard := some (5, false) }) (v := ?_) rfl (by kernel_rfl) (by kernel_rfl) (by kernel_rfl) (fun _ _ _ h => h) (Or.inl ⟨by rfl, ?_⟩) hHeld ?_
          rotate_left
          · intro W_ hSw_
            first | (go_simp; done) | (go_simp; with_reducible rfl)
          rotate_left
          try simp only [Act.put, List.setIfInBounds_toArray, List.set_cons_zero, List.set_cons_succ]
          refine wpAnyH_take (i := 12) (oi := { dst := some 38, op := Op.binOp BinOp.add 3 (Operand.tmp 34) (Operand.tmp 37) 3, type := 3, pos := "law.go:120", after := #[{ on := 8, ground := Ground.data }, { on := 11, ground := Ground.data }, { on := 5, ground := Ground.guard }], guard := some (5, false) }) (v := ?_) rfl (by kernel_rfl) (by kernel_rfl) (by kernel_rfl) (fun _ _ _ h => h) (Or.inl ⟨by rfl, ?_⟩) hHeld ?_
          rotate_left
          · intro W_ hSw_
            first | (go_simp; done) | (go_simp; with_reducible rfl)
          rotate_left
          try simp only [Act.put, List.setIfInBounds_toArray, List.set_cons_zero, List.set_cons_succ]
          refine wpAnyH_ready (rs := [15]) (by kernel_rfl) (by simp) ?_
          refine AllReadyH.cons (o := { dst := some 41, op := Op.buildSlice 23 1 #[(0, Operand.tmp 40)], type := 23, pos := "law.go:120", after := #[{ on := 14, ground := Ground.data }, { on := 5, ground := Ground.guard }], guard := some (5, false) }) rfl (fun K hK => ?_) AllReadyH.nil
          go_simp
          have J3 := own_alloc x J2
          obtain ⟨Y3, hY3, J3, K3⟩ := J3
          rw [hY3]
          clear hY3
          clear hHeld
          refine hK.out _ _ J3.out (fun hHeld => ?_)
          clear hK K
          try simp only [Act.put, List.setIfInBounds_toArray, List.set_cons_zero, List.set_cons_succ]
          refine wpAnyH_ready (rs := [16]) (by kernel_rfl) (by simp) ?_
          refine AllReadyH.cons (o := { dst := some 42, op := Op.call { callee := Callee.value (Operand.func 19), args := #[Operand.tmp 39, Operand.tmp 41], argTypes := #[25, 23] }, type := 3, pos := "law.go:120", after := #[{ on := 13, ground := Ground.data }, { on := 15, ground := Ground.data }, { on := 10, ground := Ground.chain }, { on := 5, ground := Ground.guard }], guard := some (5, false) }) rfl (fun K hK => ?_) AllReadyH.nil
          go_simp
          refine (nsum_any (HP.out.2 _ J3.out) K3.out (by omega)).mono ?_
          rintro _ Xs ⟨rfl, ds⟩
          have Jn : Hid (OwS w Xs g) := J3.out.below ds
          clear ds J3 K3
          have J3 := Jn
          clear Jn
          clear hHeld
          refine hK.out _ _ J3.out (fun hHeld => ?_)
          clear hK K
          try simp only [Act.put, List.setIfInBounds_toArray, List.set_cons_zero, List.set_cons_succ]
          refine wpAnyH_take (i := 17) (oi := { dst := some 43, op := Op.binOp BinOp.add 3 (Operand.tmp 38) (Operand.tmp 42) 3, type := 3, pos := "law.go:120", after := #[{ on := 12, ground := Ground.data }, { on := 16, ground := Ground.data }, { on := 5, ground := Ground.guard }], guard := some (5, false) }) (v := ?_) rfl (by kernel_rfl) (by kernel_rfl) (by kernel_rfl) (fun _ _ _ h => h) (Or.inl ⟨by rfl, ?_⟩) hHeld ?_
          rotate_left
          · intro W_ hSw_
            first | (go_simp; done) | (go_simp; with_reducible rfl)
          rotate_left
          try simp only [Act.put, List.setIfInBounds_toArray, List.set_cons_zero, List.set_cons_succ]
          refine wpAnyH_take (i := 18) (oi := { dst := some 44, op := Op.binOp BinOp.neq 3 (Operand.tmp 43) (Operand.const (Value.int IntKind.i64 0)) 3, type := 4, pos := "law.go:120", after := #[{ on := 17, ground := Ground.data }, { on := 5, ground := Ground.guard }], guard := some (5, false) }) (v := ?_) rfl (by kernel_rfl) (by kernel_rfl) (by kernel_rfl) (fun _ _ _ h => h) (Or.inl ⟨by rfl, ?_⟩) hHeld ?_
          rotate_left
          · intro W_ hSw_
            first | (go_simp; done) | (go_simp; with_reducible rfl)
          rotate_left
          try simp only [Act.put, List.setIfInBounds_toArray, List.set_cons_zero, List.set_cons_succ]
          refine wpAnyH_take (i := 19) (oi := { dst := some 45, op := Op.pick (Operand.tmp 31) (Operand.const (Value.bool true)) (Operand.tmp 44), type := 4, pos := "law.go:120", after := #[{ on := 5, ground := Ground.data }, { on := 18, ground := Ground.data }], guard := none }) (v := ?_) rfl (by kernel_rfl) (by kernel_rfl) (by kernel_rfl) (fun _ _ _ h => h) (Or.inl ⟨by rfl, ?_⟩) hHeld ?_
          rotate_left
          · intro W_ hSw_
            first | (go_simp; done) | (go_simp; with_reducible rfl)
          rotate_left
          try simp only [Act.put, List.setIfInBounds_toArray, List.set_cons_zero, List.set_cons_succ]
          refine wpAnyH_take (i := 20) (oi := { dst := some 46, op := Op.move (Operand.tmp 45), type := 4, pos := "law.go:120", after := #[{ on := 19, ground := Ground.data }, { on := 16, ground := Ground.chain }], guard := none }) (v := ?_) rfl (by kernel_rfl) (by kernel_rfl) (by kernel_rfl) (fun _ _ _ h => h) (Or.inl ⟨by rfl, ?_⟩) hHeld ?_
          rotate_left
          · intro W_ hSw_
            first | (go_simp; done) | (go_simp; with_reducible rfl)
          rotate_left
          try simp only [Act.put, List.setIfInBounds_toArray, List.set_cons_zero, List.set_cons_succ]
          refine wpAnyH_take (i := 21) (oi := { dst := some 47, op := Op.move (Operand.tmp 8), type := 25, pos := "law.go:120", after := #[{ on := 20, ground := Ground.guard }], guard := some (20, false) }) (v := ?_) rfl (by kernel_rfl) (by kernel_rfl) (by kernel_rfl) (fun _ _ _ h => h) (Or.inl ⟨by rfl, ?_⟩) hHeld ?_
          rotate_left
          · intro W_ hSw_
            first | (go_simp; done) | (go_simp; with_reducible rfl)
          rotate_left
          try simp only [Act.put, List.setIfInBounds_toArray, List.set_cons_zero, List.set_cons_succ]
          refine wpAnyH_ready (rs := [22]) (by kernel_rfl) (by simp) ?_
          refine AllReadyH.cons (o := { dst := some 48, op := Op.call { callee := Callee.value (Operand.func 12), args := #[Operand.tmp 47], argTypes := #[25] }, type := 25, pos := "law.go:120", after := #[{ on := 21, ground := Ground.data }, { on := 20, ground := Ground.chain }, { on := 20, ground := Ground.guard }], guard := some (20, false) }) rfl (fun K hK => ?_) AllReadyH.nil
          go_simp
          refine (nfork_any (HP.out.2 _ J3.out)).mono ?_
          rintro _ _ ⟨rfl, rfl⟩
          clear hHeld
          refine hK.out _ _ J3.out (fun hHeld => ?_)
          clear hK K
          try simp only [Act.put, List.setIfInBounds_toArray, List.set_cons_zero, List.set_cons_succ]
          refine wpAnyH_take (i := 23) (oi := { dst := some 49, op := Op.binOp BinOp.neq 25 (Operand.tmp 48) (Operand.const (Value.pointer none)) 25, type := 4, pos := "law.go:120", after := #[{ on := 22, ground := Ground.data }, { on := 20, ground := Ground.guard }], guard := some (20, false) }) (v := ?_) rfl (by kernel_rfl) (by kernel_rfl) (by kernel_rfl) (fun _ _ _ h => h) (Or.inl ⟨by rfl, ?_⟩) hHeld ?_
          rotate_left
          · intro W_ hSw_
            first | (go_simp; done) | (go_simp; with_reducible rfl)
          rotate_left
          try simp only [Act.put, List.setIfInBounds_toArray, List.set_cons_zero, List.set_cons_succ]
          refine wpAnyH_take (i := 24) (oi := { dst := some 50, op := Op.pick (Operand.tmp 46) (Operand.const (Value.bool true)) (Operand.tmp 49), type := 4, pos := "law.go:120", after := #[{ on := 20, ground := Ground.data }, { on := 23, ground := Ground.data }], guard := none }) (v := ?_) rfl (by kernel_rfl) (by kernel_rfl) (by kernel_rfl) (fun _ _ _ h => h) (Or.inl ⟨by rfl, ?_⟩) hHeld ?_
          rotate_left
          · intro W_ hSw_
            first | (go_simp; done) | (go_simp; with_reducible rfl)
          rotate_left
          try simp only [Act.put, List.setIfInBounds_toArray, List.set_cons_zero, List.set_cons_succ]
          refine wpAnyH_take (i := 25) (oi := { dst := some 51, op := Op.move (Operand.tmp 50), type := 4, pos := "law.go:120", after := #[{ on := 24, ground := Ground.data }, { on := 22, ground := Ground.chain }], guard := none }) (v := ?_) rfl (by kernel_rfl) (by kernel_rfl) (by kernel_rfl) (fun _ _ _ h => h) (Or.inl ⟨by rfl, ?_⟩) hHeld ?_
          rotate_left
          · intro W_ hSw_
            first | (go_simp; done) | (go_simp; with_reducible rfl)
          rotate_left
          try simp only [Act.put, List.setIfInBounds_toArray, List.set_cons_zero, List.set_cons_succ]
          refine wpAnyH_take (i := 26) (oi := { dst := some 52, op := Op.move (Operand.tmp 8), type := 25, pos := "law.go:120", after := #[{ on := 25, ground := Ground.guard }], guard := some (25, false) }) (v := ?_) rfl (by kernel_rfl) (by kernel_rfl) (by kernel_rfl) (fun _ _ _ h => h) (Or.inl ⟨by rfl, ?_⟩) hHeld ?_
          rotate_left
          · intro W_ hSw_
            first | (go_simp; done) | (go_simp; with_reducible rfl)
          rotate_left
          try simp only [Act.put, List.setIfInBounds_toArray, List.set_cons_zero, List.set_cons_succ]
          refine wpAnyH_take (i := 27) (oi := { dst := some 53, op := Op.move (Operand.tmp 5), type := 25, pos := "law.go:120", after := #[{ on := 25, ground := Ground.guard }], guard := some (25, false) }) (v := ?_) rfl (by kernel_rfl) (by kernel_rfl) (by kernel_rfl) (fun _ _ _ h => h) (Or.inl ⟨by rfl, ?_⟩) hHeld ?_
          rotate_left
          · intro W_ hSw_
            first | (go_simp; done) | (go_simp; with_reducible rfl)
          rotate_left
          try simp only [Act.put, List.setIfInBounds_toArray, List.set_cons_zero, List.set_cons_succ]
          refine wpAnyH_ready (rs := [28, 29]) (by kernel_rfl) (by simp) ?_
          refine (AllReadyH.cons (o := { dst := some 54, op := Op.call { callee := Callee.value (Operand.func 25), args := #[Operand.tmp 52, Operand.tmp 53], argTypes := #[25, 25] }, type := 27, pos := "law.go:120", after := #[{ on := 26, ground := Ground.data }, { on := 27, ground := Ground.data }, { on := 25, ground := Ground.chain }, { on := 25, ground := Ground.guard }], guard := some (25, false) }) rfl (fun K hK => ?_) (AllReadyH.cons (o := { dst := some 55, op := Op.makeSlice 27 (Operand.const (Value.int IntKind.i64 15)) (Operand.const (Value.int IntKind.i64 15)), type := 27, pos := "law.go:120", after := #[{ on := 25, ground := Ground.guard }], guard := some (25, false) }) rfl (fun K hK => ?_) AllReadyH.nil))
          · go_simp
            refine (diff_any (p := p) (q := none) (.inr ⟨HP.out.2 _ J3.out, rfl⟩) (.inr ⟨.inl rfl, rfl⟩)).mono ?_
            rintro _ Z7 ⟨a7, c7, rfl, o7, d7⟩
            rw [difN_zero isZ rfl] at o7
            have J7 : Hid (OwS w Z7 g) := J3.out.below d7
            have S7 : Hid (SlAt eI Z7 a7 15 c7 zN) := o7.sl15
            clear o7 d7
            clear hHeld
            refine hK.out _ _ J7.out (fun hHeld => ?_)
            clear hK K
            try simp only [Act.put, List.setIfInBounds_toArray, List.set_cons_zero, List.set_cons_succ]
            refine wpAnyH_ready (rs := [29]) (by kernel_rfl) (by simp) ?_
            refine AllReadyH.cons (o := { dst := some 55, op := Op.makeSlice 27 (Operand.const (Value.int IntKind.i64 15)) (Operand.const (Value.int IntKind.i64 15)), type := 27, pos := "law.go:120", after := #[{ on := 25, ground := Ground.guard }], guard := some (25, false) }) rfl (fun K hK => ?_) AllReadyH.nil
            go_simp
            obtain ⟨Z8, hZ8, d8, s8⟩ := z15_new Z7
            rw [hZ8]
            have J8 : Hid (OwS w Z8 g) := J7.out.below d8
            have S8 : Hid (SlAt eI Z8 a7 15 c7 zN ∧ SlAt eI Z8 (some ⟨Z7.heap.size, 0, none⟩) 15 15 zN) := ⟨S7.out.below d8, s8⟩
            clear hZ8 d8 s8
            clear hHeld
            refine hK.out _ _ J8.out (fun hHeld => ?_)
            clear hK K
            try simp only [Act.put, List.setIfInBounds_toArray, List.set_cons_zero, List.set_cons_succ]
            refine wpAnyH_ready (rs := [30]) (by kernel_rfl) (by simp) ?_
            refine AllReadyH.cons (o := { dst := some 56, op := Op.call { callee := Callee.value (Operand.func 17), args := #[Operand.tmp 54, Operand.tmp 55], argTypes := #[27, 27] }, type := 4, pos := "law.go:120", after := #[{ on := 28, ground := Ground.data }, { on := 29, ground := Ground.data }, { on := 28, ground := Ground.chain }, { on := 25, ground := Ground.guard }], guard := some (25, false) }) rfl (fun K hK => ?_) AllReadyH.nil
            go_simp
            refine (rsame_yes S8.out.1 S8.out.2).mono ?_
            rintro _ Z9 ⟨rfl, d9⟩
            have J9 : Hid (OwS w Z9 g) := J8.out.below d9
            clear d9
            clear hHeld
            refine hK.out _ _ J9.out (fun hHeld => ?_)
            clear hK K
            try simp only [Act.put, List.setIfInBounds_toArray, List.set_cons_zero, List.set_cons_succ]
            refine wpAnyH_take (i := 31) (oi := { dst := some 57, op := Op.unOp UnOp.not 4 (Operand.tmp 56), type := 4, pos := "law.go:120", after := #[{ on := 30, ground := Ground.data }, { on := 25, ground := Ground.guard }], guard := some (25, false) }) (v := ?_) rfl (by kernel_rfl) (by kernel_rfl) (by kernel_rfl) (fun _ _ _ h => h) (Or.inl ⟨by rfl, ?_⟩) hHeld ?_
            rotate_left
            · intro W_ hSw_
              first | (go_simp; done) | (go_simp; with_reducible rfl)
            rotate_left
            try simp only [Act.put, List.setIfInBounds_toArray, List.set_cons_zero, List.set_cons_succ]
            refine wpAnyH_take (i := 32) (oi := { dst := some 58, op := Op.pick (Operand.tmp 51) (Operand.const (Value.bool true)) (Operand.tmp 57), type := 4, pos := "law.go:120", after := #[{ on := 25, ground := Ground.data }, { on := 31, ground := Ground.data }], guard := none }) (v := ?_) rfl (by kernel_rfl) (by kernel_rfl) (by kernel_rfl) (fun _ _ _ h => h) (Or.inl ⟨by rfl, ?_⟩) hHeld ?_
            rotate_left
            · intro W_ hSw_
              first | (go_simp; done) | (go_simp; with_reducible rfl)
            rotate_left
            try simp only [Act.put, List.setIfInBounds_toArray, List.set_cons_zero, List.set_cons_succ]
            refine wpAnyH_done (by kernel_rfl) ?_ _
            refine NoPanic.normal ?_
            clear hHeld
            go_wp2
            go_roundw
            case rel => exact ⟨i + 1, by have := HP.out.1; omega, by go_num, J9.out⟩
            case measure => have := HP.out.1; simp [intOf]; omega
          · go_simp
            obtain ⟨Z8, hZ8, d8, s8⟩ := z15_new _
            rw [hZ8]
            have J8 : Hid (OwS w Z8 g) := J3.out.below d8
            have S8 : Hid (SlAt eI Z8 _ 15 15 zN) := s8
            clear hZ8 d8 s8
            clear hHeld
            refine hK.out _ _ J8.out (fun hHeld => ?_)
            clear hK K
            try simp only [Act.put, List.setIfInBounds_toArray, List.set_cons_zero, List.set_cons_succ]
            refine wpAnyH_ready (rs := [28]) (by kernel_rfl) (by simp) ?_
            refine AllReadyH.cons (o := { dst := some 54, op := Op.call { callee := Callee.value (Operand.func 25), args := #[Operand.tmp 52, Operand.tmp 53], argTypes := #[25, 25] }, type := 27, pos := "law.go:120", after := #[{ on := 26, ground := Ground.data }, { on := 27, ground := Ground.data }, { on := 25, ground := Ground.chain }, { on := 25, ground := Ground.guard }], guard := some (25, false) }) rfl (fun K hK => ?_) AllReadyH.nil
            go_simp
            refine (diff_any (p := p) (q := none) (.inr ⟨HP.out.2 _ J8.out, rfl⟩) (.inr ⟨.inl rfl, rfl⟩)).mono ?_
            rintro _ Z7 ⟨a7, c7, rfl, o7, d7⟩
            rw [difN_zero isZ rfl] at o7
            have J7 : Hid (OwS w Z7 g) := J8.out.below d7
            have S7 : Hid (SlAt eI Z7 a7 15 c7 zN ∧ SlAt eI Z7 _ 15 15 zN) := ⟨o7.sl15, S8.out.below d7⟩
            clear o7 d7
            clear hHeld
            refine hK.out _ _ J7.out (fun hHeld => ?_)
            clear hK K
            try simp only [Act.put, List.setIfInBounds_toArray, List.set_cons_zero, List.set_cons_succ]
            refine wpAnyH_ready (rs := [30]) (by kernel_rfl) (by simp) ?_
            refine AllReadyH.cons (o := { dst := some 56, op := Op.call { callee := Callee.value (Operand.func 17), args := #[Operand.tmp 54, Operand.tmp 55], argTypes := #[27, 27] }, type := 4, pos := "law.go:120", after := #[{ on := 28, ground := Ground.data }, { on := 29, ground := Ground.data }, { on := 28, ground := Ground.chain }, { on := 25, ground := Ground.guard }], guard := some (25, false) }) rfl (fun K hK => ?_) AllReadyH.nil
            go_simp
            refine (rsame_yes S7.out.1 S7.out.2).mono ?_
            rintro _ Z9 ⟨rfl, d9⟩
            have J9 : Hid (OwS w Z9 g) := J7.out.below d9
            clear d9
            clear hHeld
            refine hK.out _ _ J9.out (fun hHeld => ?_)
            clear hK K
            try simp only [Act.put, List.setIfInBounds_toArray, List.set_cons_zero, List.set_cons_succ]
            refine wpAnyH_take (i := 31) (oi := { dst := some 57, op := Op.unOp UnOp.not 4 (Operand.tmp 56), type := 4, pos := "law.go:120", after := #[{ on := 30, ground := Ground.data }, { on := 25, ground := Ground.guard }], guard := some (25, false) }) (v := ?_) rfl (by kernel_rfl) (by kernel_rfl) (by kernel_rfl) (fun _ _ _ h => h) (Or.inl ⟨by rfl, ?_⟩) hHeld ?_
            rotate_left
            · intro W_ hSw_
              first | (go_simp; done) | (go_simp; with_reducible rfl)
            rotate_left
            try simp only [Act.put, List.setIfInBounds_toArray, List.set_cons_zero, List.set_cons_succ]
            refine wpAnyH_take (i := 32) (oi := { dst := some 58, op := Op.pick (Operand.tmp 51) (Operand.const (Value.bool true)) (Operand.tmp 57), type := 4, pos := "law.go:120", after := #[{ on := 25, ground := Ground.data }, { on := 31, ground := Ground.data }], guard := none }) (v := ?_) rfl (by kernel_rfl) (by kernel_rfl) (by kernel_rfl) (fun _ _ _ h => h) (Or.inl ⟨by rfl, ?_⟩) hHeld ?_
            rotate_left
            · intro W_ hSw_
              first | (go_simp; done) | (go_simp; with_reducible rfl)
            rotate_left
            try simp only [Act.put, List.setIfInBounds_toArray, List.set_cons_zero, List.set_cons_succ]
            refine wpAnyH_done (by kernel_rfl) ?_ _
            refine NoPanic.normal ?_
            clear hHeld
            go_wp2
            go_roundw
            case rel => exact ⟨i + 1, by have := HP.out.1; omega, by go_num, J9.out⟩
            case measure => have := HP.out.1; simp [intOf]; omega
        · go_simp
          have J5 := own_alloc x J2
          obtain ⟨Y5, hY5, J5, K5⟩ := J5
          rw [hY5]
          clear hY5
          clear hHeld
          refine hK.out _ _ J5.out (fun hHeld => ?_)
          clear hK K
          try simp only [Act.put, List.setIfInBounds_toArray, List.set_cons_zero, List.set_cons_succ]
          refine wpAnyH_ready (rs := [10]) (by kernel_rfl) (by simp) ?_
          refine AllReadyH.cons (o := { dst := some 36, op := Op.call { callee := Callee.value (Operand.func 18), args := #[Operand.tmp 35], argTypes := #[25] }, type := 27, pos := "law.go:120", after := #[{ on := 9, ground := Ground.data }, { on := 8, ground := Ground.chain }, { on := 5, ground := Ground.guard }], guard := some (5, false) }) rfl (fun K hK => ?_) AllReadyH.nil
          go_simp
          refine (nall_any (HP.out.2 _ J5.out)).mono ?_
          rintro _ _ ⟨rfl, rfl⟩
          clear hHeld
          refine hK.out _ _ J5.out (fun hHeld => ?_)
          clear hK K
          try simp only [Act.put, List.setIfInBounds_toArray, List.set_cons_zero, List.set_cons_succ]
          refine wpAnyH_take (i := 11) (oi := { dst := some 37, op := Op.call { callee := Callee.builtin Builtin.len, args := #[Operand.tmp 36], argTypes := #[27] }, type := 3, pos := "law.go:120", after := #[{ on := 10, ground := Ground.data }, { on := 5, ground := Ground.guard }], guard := some (5, false) }) (v := ?_) rfl (by kernel_rfl) (by kernel_rfl) (by kernel_rfl) (fun _ _ _ h => h) (Or.inl ⟨by rfl, ?_⟩) hHeld ?_
          rotate_left
          · intro W_ hSw_
            first | (go_simp; done) | (go_simp; with_reducible rfl)
          rotate_left
          try simp only [Act.put, List.setIfInBounds_toArray, List.set_cons_zero, List.set_cons_succ]
          refine wpAnyH_take (i := 12) (oi := { dst := some 38, op := Op.binOp BinOp.add 3 (Operand.tmp 34) (Operand.tmp 37) 3, type := 3, pos := "law.go:120", after := #[{ on := 8, ground := Ground.data }, { on := 11, ground := Ground.data }, { on := 5, ground := Ground.guard }], guard := some (5, false) }) (v := ?_) rfl (by kernel_rfl) (by kernel_rfl) (by kernel_rfl) (fun _ _ _ h => h) (Or.inl ⟨by rfl, ?_⟩) hHeld ?_
          rotate_left
          · intro W_ hSw_
            first | (go_simp; done) | (go_simp; with_reducible rfl)
          rotate_left
          try simp only [Act.put, List.setIfInBounds_toArray, List.set_cons_zero, List.set_cons_succ]
          refine wpAnyH_ready (rs := [16]) (by kernel_rfl) (by simp) ?_
          refine AllReadyH.cons (o := { dst := some 42, op := Op.call { callee := Callee.value (Operand.func 19), args := #[Operand.tmp 39, Operand.tmp 41], argTypes := #[25, 23] }, type := 3, pos := "law.go:120", after := #[{ on := 13, ground := Ground.data }, { on := 15, ground := Ground.data }, { on := 10, ground := Ground.chain }, { on := 5, ground := Ground.guard }], guard := some (5, false) }) rfl (fun K hK => ?_) AllReadyH.nil
          go_simp
          refine (nsum_any (HP.out.2 _ J5.out) K5.out (by omega)).mono ?_
          rintro _ Xs ⟨rfl, ds⟩
          have Jn : Hid (OwS w Xs g) := J5.out.below ds
          clear ds J5 K5
          have J5 := Jn
          clear Jn
          clear hHeld
          refine hK.out _ _ J5.out (fun hHeld => ?_)
          clear hK K
          try simp only [Act.put, List.setIfInBounds_toArray, List.set_cons_zero, List.set_cons_succ]
          refine wpAnyH_take (i := 17) (oi := { dst := some 43, op := Op.binOp BinOp.add 3 (Operand.tmp 38) (Operand.tmp 42) 3, type := 3, pos := "law.go:120", after := #[{ on := 12, ground := Ground.data }, { on := 16, ground := Ground.data }, { on := 5, ground := Ground.guard }], guard := some (5, false) }) (v := ?_) rfl (by kernel_rfl) (by kernel_rfl) (by kernel_rfl) (fun _ _ _ h => h) (Or.inl ⟨by rfl, ?_⟩) hHeld ?_
          rotate_left
          · intro W_ hSw_
            first | (go_simp; done) | (go_simp; with_reducible rfl)
          rotate_left
          try simp only [Act.put, List.setIfInBounds_toArray, List.set_cons_zero, List.set_cons_succ]
          refine wpAnyH_take (i := 18) (oi := { dst := some 44, op := Op.binOp BinOp.neq 3 (Operand.tmp 43) (Operand.const (Value.int IntKind.i64 0)) 3, type := 4, pos := "law.go:120", after := #[{ on := 17, ground := Ground.data }, { on := 5, ground := Ground.guard }], guard := some (5, false) }) (v := ?_) rfl (by kernel_rfl) (by kernel_rfl) (by kernel_rfl) (fun _ _ _ h => h) (Or.inl ⟨by rfl, ?_⟩) hHeld ?_
          rotate_left
          · intro W_ hSw_
            first | (go_simp; done) | (go_simp; with_reducible rfl)
          rotate_left
          try simp only [Act.put, List.setIfInBounds_toArray, List.set_cons_zero, List.set_cons_succ]
          refine wpAnyH_take (i := 19) (oi := { dst := some 45, op := Op.pick (Operand.tmp 31) (Operand.const (Value.bool true)) (Operand.tmp 44), type := 4, pos := "law.go:120", after := #[{ on := 5, ground := Ground.data }, { on := 18, ground := Ground.data }], guard := none }) (v := ?_) rfl (by kernel_rfl) (by kernel_rfl) (by kernel_rfl) (fun _ _ _ h => h) (Or.inl ⟨by rfl, ?_⟩) hHeld ?_
          rotate_left
          · intro W_ hSw_
            first | (go_simp; done) | (go_simp; with_reducible rfl)
          rotate_left
          try simp only [Act.put, List.setIfInBounds_toArray, List.set_cons_zero, List.set_cons_succ]
          refine wpAnyH_take (i := 20) (oi := { dst := some 46, op := Op.move (Operand.tmp 45), type := 4, pos := "law.go:120", after := #[{ on := 19, ground := Ground.data }, { on := 16, ground := Ground.chain }], guard := none }) (v := ?_) rfl (by kernel_rfl) (by kernel_rfl) (by kernel_rfl) (fun _ _ _ h => h) (Or.inl ⟨by rfl, ?_⟩) hHeld ?_
          rotate_left
          · intro W_ hSw_
            first | (go_simp; done) | (go_simp; with_reducible rfl)
          rotate_left
          try simp only [Act.put, List.setIfInBounds_toArray, List.set_cons_zero, List.set_cons_succ]
          refine wpAnyH_take (i := 21) (oi := { dst := some 47, op := Op.move (Operand.tmp 8), type := 25, pos := "law.go:120", after := #[{ on := 20, ground := Ground.guard }], guard := some (20, false) }) (v := ?_) rfl (by kernel_rfl) (by kernel_rfl) (by kernel_rfl) (fun _ _ _ h => h) (Or.inl ⟨by rfl, ?_⟩) hHeld ?_
          rotate_left
          · intro W_ hSw_
            first | (go_simp; done) | (go_simp; with_reducible rfl)
          rotate_left
          try simp only [Act.put, List.setIfInBounds_toArray, List.set_cons_zero, List.set_cons_succ]
          refine wpAnyH_ready (rs := [22]) (by kernel_rfl) (by simp) ?_
          refine AllReadyH.cons (o := { dst := some 48, op := Op.call { callee := Callee.value (Operand.func 12), args := #[Operand.tmp 47], argTypes := #[25] }, type := 25, pos := "law.go:120", after := #[{ on := 21, ground := Ground.data }, { on := 20, ground := Ground.chain }, { on := 20, ground := Ground.guard }], guard := some (20, false) }) rfl (fun K hK => ?_) AllReadyH.nil
          go_simp
          refine (nfork_any (HP.out.2 _ J5.out)).mono ?_
          rintro _ _ ⟨rfl, rfl⟩
          clear hHeld
          refine hK.out _ _ J5.out (fun hHeld => ?_)
          clear hK K
          try simp only [Act.put, List.setIfInBounds_toArray, List.set_cons_zero, List.set_cons_succ]
          refine wpAnyH_take (i := 23) (oi := { dst := some 49, op := Op.binOp BinOp.neq 25 (Operand.tmp 48) (Operand.const (Value.pointer none)) 25, type := 4, pos := "law.go:120", after := #[{ on := 22, ground := Ground.data }, { on := 20, ground := Ground.guard }], guard := some (20, false) }) (v := ?_) rfl (by kernel_rfl) (by kernel_rfl) (by kernel_rfl) (fun _ _ _ h => h) (Or.inl ⟨by rfl, ?_⟩) hHeld ?_
          rotate_left
          · intro W_ hSw_
            first | (go_simp; done) | (go_simp; with_reducible rfl)
          rotate_left
          try simp only [Act.put, List.setIfInBounds_toArray, List.set_cons_zero, List.set_cons_succ]
          refine wpAnyH_take (i := 24) (oi := { dst := some 50, op := Op.pick (Operand.tmp 46) (Operand.const (Value.bool true)) (Operand.tmp 49), type := 4, pos := "law.go:120", after := #[{ on := 20, ground := Ground.data }, { on := 23, ground := Ground.data }], guard := none }) (v := ?_) rfl (by kernel_rfl) (by kernel_rfl) (by kernel_rfl) (fun _ _ _ h => h) (Or.inl ⟨by rfl, ?_⟩) hHeld ?_
          rotate_left
          · intro W_ hSw_
            first | (go_simp; done) | (go_simp; with_reducible rfl)
          rotate_left
          try simp only [Act.put, List.setIfInBounds_toArray, List.set_cons_zero, List.set_cons_succ]
          refine wpAnyH_take (i := 25) (oi := { dst := some 51, op := Op.move (Operand.tmp 50), type := 4, pos := "law.go:120", after := #[{ on := 24, ground := Ground.data }, { on := 22, ground := Ground.chain }], guard := none }) (v := ?_) rfl (by kernel_rfl) (by kernel_rfl) (by kernel_rfl) (fun _ _ _ h => h) (Or.inl ⟨by rfl, ?_⟩) hHeld ?_
          rotate_left
          · intro W_ hSw_
            first | (go_simp; done) | (go_simp; with_reducible rfl)
          rotate_left
          try simp only [Act.put, List.setIfInBounds_toArray, List.set_cons_zero, List.set_cons_succ]
          refine wpAnyH_take (i := 26) (oi := { dst := some 52, op := Op.move (Operand.tmp 8), type := 25, pos := "law.go:120", after := #[{ on := 25, ground := Ground.guard }], guard := some (25, false) }) (v := ?_) rfl (by kernel_rfl) (by kernel_rfl) (by kernel_rfl) (fun _ _ _ h => h) (Or.inl ⟨by rfl, ?_⟩) hHeld ?_
          rotate_left
          · intro W_ hSw_
            first | (go_simp; done) | (go_simp; with_reducible rfl)
          rotate_left
          try simp only [Act.put, List.setIfInBounds_toArray, List.set_cons_zero, List.set_cons_succ]
          refine wpAnyH_take (i := 27) (oi := { dst := some 53, op := Op.move (Operand.tmp 5), type := 25, pos := "law.go:120", after := #[{ on := 25, ground := Ground.guard }], guard := some (25, false) }) (v := ?_) rfl (by kernel_rfl) (by kernel_rfl) (by kernel_rfl) (fun _ _ _ h => h) (Or.inl ⟨by rfl, ?_⟩) hHeld ?_
          rotate_left
          · intro W_ hSw_
            first | (go_simp; done) | (go_simp; with_reducible rfl)
          rotate_left
          try simp only [Act.put, List.setIfInBounds_toArray, List.set_cons_zero, List.set_cons_succ]
          refine wpAnyH_ready (rs := [28, 29]) (by kernel_rfl) (by simp) ?_
          refine (AllReadyH.cons (o := { dst := some 54, op := Op.call { callee := Callee.value (Operand.func 25), args := #[Operand.tmp 52, Operand.tmp 53], argTypes := #[25, 25] }, type := 27, pos := "law.go:120", after := #[{ on := 26, ground := Ground.data }, { on := 27, ground := Ground.data }, { on := 25, ground := Ground.chain }, { on := 25, ground := Ground.guard }], guard := some (25, false) }) rfl (fun K hK => ?_) (AllReadyH.cons (o := { dst := some 55, op := Op.makeSlice 27 (Operand.const (Value.int IntKind.i64 15)) (Operand.const (Value.int IntKind.i64 15)), type := 27, pos := "law.go:120", after := #[{ on := 25, ground := Ground.guard }], guard := some (25, false) }) rfl (fun K hK => ?_) AllReadyH.nil))
          · go_simp
            refine (diff_any (p := p) (q := none) (.inr ⟨HP.out.2 _ J5.out, rfl⟩) (.inr ⟨.inl rfl, rfl⟩)).mono ?_
            rintro _ Z7 ⟨a7, c7, rfl, o7, d7⟩
            rw [difN_zero isZ rfl] at o7
            have J7 : Hid (OwS w Z7 g) := J5.out.below d7
            have S7 : Hid (SlAt eI Z7 a7 15 c7 zN) := o7.sl15
            clear o7 d7
            clear hHeld
            refine hK.out _ _ J7.out (fun hHeld => ?_)
            clear hK K
            try simp only [Act.put, List.setIfInBounds_toArray, List.set_cons_zero, List.set_cons_succ]
            refine wpAnyH_ready (rs := [29]) (by kernel_rfl) (by simp) ?_
            refine AllReadyH.cons (o := { dst := some 55, op := Op.makeSlice 27 (Operand.const (Value.int IntKind.i64 15)) (Operand.const (Value.int IntKind.i64 15)), type := 27, pos := "law.go:120", after := #[{ on := 25, ground := Ground.guard }], guard := some (25, false) }) rfl (fun K hK => ?_) AllReadyH.nil
            go_simp
            obtain ⟨Z8, hZ8, d8, s8⟩ := z15_new Z7
            rw [hZ8]
            have J8 : Hid (OwS w Z8 g) := J7.out.below d8
            have S8 : Hid (SlAt eI Z8 a7 15 c7 zN ∧ SlAt eI Z8 (some ⟨Z7.heap.size, 0, none⟩) 15 15 zN) := ⟨S7.out.below d8, s8⟩
            clear hZ8 d8 s8
            clear hHeld
            refine hK.out _ _ J8.out (fun hHeld => ?_)
            clear hK K
            try simp only [Act.put, List.setIfInBounds_toArray, List.set_cons_zero, List.set_cons_succ]
            refine wpAnyH_ready (rs := [30]) (by kernel_rfl) (by simp) ?_
            refine AllReadyH.cons (o := { dst := some 56, op := Op.call { callee := Callee.value (Operand.func 17), args := #[Operand.tmp 54, Operand.tmp 55], argTypes := #[27, 27] }, type := 4, pos := "law.go:120", after := #[{ on := 28, ground := Ground.data }, { on := 29, ground := Ground.data }, { on := 28, ground := Ground.chain }, { on := 25, ground := Ground.guard }], guard := some (25, false) }) rfl (fun K hK => ?_) AllReadyH.nil
            go_simp
            refine (rsame_yes S8.out.1 S8.out.2).mono ?_
            rintro _ Z9 ⟨rfl, d9⟩
            have J9 : Hid (OwS w Z9 g) := J8.out.below d9
            clear d9
            clear hHeld
            refine hK.out _ _ J9.out (fun hHeld => ?_)
            clear hK K
            try simp only [Act.put, List.setIfInBounds_toArray, List.set_cons_zero, List.set_cons_succ]
            refine wpAnyH_take (i := 31) (oi := { dst := some 57, op := Op.unOp UnOp.not 4 (Operand.tmp 56), type := 4, pos := "law.go:120", after := #[{ on := 30, ground := Ground.data }, { on := 25, ground := Ground.guard }], guard := some (25, false) }) (v := ?_) rfl (by kernel_rfl) (by kernel_rfl) (by kernel_rfl) (fun _ _ _ h => h) (Or.inl ⟨by rfl, ?_⟩) hHeld ?_
            rotate_left
            · intro W_ hSw_
              first | (go_simp; done) | (go_simp; with_reducible rfl)
            rotate_left
            try simp only [Act.put, List.setIfInBounds_toArray, List.set_cons_zero, List.set_cons_succ]
            refine wpAnyH_take (i := 32) (oi := { dst := some 58, op := Op.pick (Operand.tmp 51) (Operand.const (Value.bool true)) (Operand.tmp 57), type := 4, pos := "law.go:120", after := #[{ on := 25, ground := Ground.data }, { on := 31, ground := Ground.data }], guard := none }) (v := ?_) rfl (by kernel_rfl) (by kernel_rfl) (by kernel_rfl) (fun _ _ _ h => h) (Or.inl ⟨by rfl, ?_⟩) hHeld ?_
            rotate_left
            · intro W_ hSw_
              first | (go_simp; done) | (go_simp; with_reducible rfl)
            rotate_left
            try simp only [Act.put, List.setIfInBounds_toArray, List.set_cons_zero, List.set_cons_succ]
            refine wpAnyH_done (by kernel_rfl) ?_ _
            refine NoPanic.normal ?_
            clear hHeld
            go_wp2
            go_roundw
            case rel => exact ⟨i + 1, by have := HP.out.1; omega, by go_num, J9.out⟩
            case measure => have := HP.out.1; simp [intOf]; omega
          · go_simp
            obtain ⟨Z8, hZ8, d8, s8⟩ := z15_new _
            rw [hZ8]
            have J8 : Hid (OwS w Z8 g) := J5.out.below d8
            have S8 : Hid (SlAt eI Z8 _ 15 15 zN) := s8
            clear hZ8 d8 s8
            clear hHeld
            refine hK.out _ _ J8.out (fun hHeld => ?_)
            clear hK K
            try simp only [Act.put, List.setIfInBounds_toArray, List.set_cons_zero, List.set_cons_succ]
            refine wpAnyH_ready (rs := [28]) (by kernel_rfl) (by simp) ?_
            refine AllReadyH.cons (o := { dst := some 54, op := Op.call { callee := Callee.value (Operand.func 25), args := #[Operand.tmp 52, Operand.tmp 53], argTypes := #[25, 25] }, type := 27, pos := "law.go:120", after := #[{ on := 26, ground := Ground.data }, { on := 27, ground := Ground.data }, { on := 25, ground := Ground.chain }, { on := 25, ground := Ground.guard }], guard := some (25, false) }) rfl (fun K hK => ?_) AllReadyH.nil
            go_simp
            refine (diff_any (p := p) (q := none) (.inr ⟨HP.out.2 _ J8.out, rfl⟩) (.inr ⟨.inl rfl, rfl⟩)).mono ?_
            rintro _ Z7 ⟨a7, c7, rfl, o7, d7⟩
            rw [difN_zero isZ rfl] at o7
            have J7 : Hid (OwS w Z7 g) := J8.out.below d7
            have S7 : Hid (SlAt eI Z7 a7 15 c7 zN ∧ SlAt eI Z7 _ 15 15 zN) := ⟨o7.sl15, S8.out.below d7⟩
            clear o7 d7
            clear hHeld
            refine hK.out _ _ J7.out (fun hHeld => ?_)
            clear hK K
            try simp only [Act.put, List.setIfInBounds_toArray, List.set_cons_zero, List.set_cons_succ]
            refine wpAnyH_ready (rs := [30]) (by kernel_rfl) (by simp) ?_
            refine AllReadyH.cons (o := { dst := some 56, op := Op.call { callee := Callee.value (Operand.func 17), args := #[Operand.tmp 54, Operand.tmp 55], argTypes := #[27, 27] }, type := 4, pos := "law.go:120", after := #[{ on := 28, ground := Ground.data }, { on := 29, ground := Ground.data }, { on := 28, ground := Ground.chain }, { on := 25, ground := Ground.guard }], guard := some (25, false) }) rfl (fun K hK => ?_) AllReadyH.nil
            go_simp
            refine (rsame_yes S7.out.1 S7.out.2).mono ?_
            rintro _ Z9 ⟨rfl, d9⟩
            have J9 : Hid (OwS w Z9 g) := J7.out.below d9
            clear d9
            clear hHeld
            refine hK.out _ _ J9.out (fun hHeld => ?_)
            clear hK K
            try simp only [Act.put, List.setIfInBounds_toArray, List.set_cons_zero, List.set_cons_succ]
            refine wpAnyH_take (i := 31) (oi := { dst := some 57, op := Op.unOp UnOp.not 4 (Operand.tmp 56), type := 4, pos := "law.go:120", after := #[{ on := 30, ground := Ground.data }, { on := 25, ground := Ground.guard }], guard := some (25, false) }) (v := ?_) rfl (by kernel_rfl) (by kernel_rfl) (by kernel_rfl) (fun _ _ _ h => h) (Or.inl ⟨by rfl, ?_⟩) hHeld ?_
            rotate_left
            · intro W_ hSw_
              first | (go_simp; done) | (go_simp; with_reducible rfl)
            rotate_left
            try simp only [Act.put, List.setIfInBounds_toArray, List.set_cons_zero, List.set_cons_succ]
            refine wpAnyH_take (i := 32) (oi := { dst := some 58, op := Op.pick (Operand.tmp 51) (Operand.const (Value.bool true)) (Operand.tmp 57), type := 4, pos := "law.go:120", after := #[{ on := 25, ground := Ground.data }, { on := 31, ground := Ground.data }], guard := none }) (v := ?_) rfl (by kernel_rfl) (by kernel_rfl) (by kernel_rfl) (fun _ _ _ h => h) (Or.inl ⟨by rfl, ?_⟩) hHeld ?_
            rotate_left
            · intro W_ hSw_
              first | (go_simp; done) | (go_simp; with_reducible rfl)
            rotate_left
            try simp only [Act.put, List.setIfInBounds_toArray, List.set_cons_zero, List.set_cons_succ]
            refine wpAnyH_done (by kernel_rfl) ?_ _
            refine NoPanic.normal ?_
            clear hHeld
            go_wp2
            go_roundw
            case rel => exact ⟨i + 1, by have := HP.out.1; omega, by go_num, J9.out⟩
            case measure => have := HP.out.1; simp [intOf]; omega
      · go_simp
        have J7 := own_alloc x J2
        obtain ⟨Y7, hY7, J7, K7⟩ := J7
        rw [hY7]
        clear hY7
        clear hHeld
        refine hK.out _ _ J7.out (fun hHeld => ?_)
        clear hK K
        try simp only [Act.put, List.setIfInBounds_toArray, List.set_cons_zero, List.set_cons_succ]
        refine wpAnyH_ready (rs := [8]) (by kernel_rfl) (by simp) ?_
        refine AllReadyH.cons (o := { dst := some 34, op := Op.call { callee := Callee.value (Operand.func 15), args := #[Operand.tmp 32, Operand.tmp 33], argTypes := #[25, 32] }, type := 3, pos := "law.go:120", after := #[{ on := 6, ground := Ground.data }, { on := 7, ground := Ground.data }, { on := 5, ground := Ground.chain }, { on := 5, ground := Ground.guard }], guard := some (5, false) }) rfl (fun K hK => ?_) AllReadyH.nil
        go_simp
        refine (nget_any (HP.out.2 _ J7.out) _).mono ?_
        rintro _ Xg ⟨rfl, dg⟩
        have Jn : Hid (OwS w Xg g) := J7.out.below dg
        have Kn : Hid (OwK Xg _ x) := K7.out.below dg
        clear K7
        have K7 := Kn
        clear Kn
        clear dg J7
        have J7 := Jn
        clear Jn
        clear hHeld
        refine hK.out _ _ J7.out (fun hHeld => ?_)
        clear hK K
        try simp only [Act.put, List.setIfInBounds_toArray, List.set_cons_zero, List.set_cons_succ]
        refine wpAnyH_ready (rs := [10]) (by kernel_rfl) (by simp) ?_
        refine AllReadyH.cons (o := { dst := some 36, op := Op.call { callee := Callee.value (Operand.func 18), args := #[Operand.tmp 35], argTypes := #[25] }, type := 27, pos := "law.go:120", after := #[{ on := 9, ground := Ground.data }, { on := 8, ground := Ground.chain }, { on := 5, ground := Ground.guard }], guard := some (5, false) }) rfl (fun K hK => ?_) AllReadyH.nil
        go_simp
        refine (nall_any (HP.out.2 _ J7.out)).mono ?_
        rintro _ _ ⟨rfl, rfl⟩
        clear hHeld
        refine hK.out _ _ J7.out (fun hHeld => ?_)
        clear hK K
        try simp only [Act.put, List.setIfInBounds_toArray, List.set_cons_zero, List.set_cons_succ]
        refine wpAnyH_take (i := 11) (oi := { dst := some 37, op := Op.call { callee := Callee.builtin Builtin.len, args := #[Operand.tmp 36], argTypes := #[27] }, type := 3, pos := "law.go:120", after := #[{ on := 10, ground := Ground.data }, { on := 5, ground := Ground.guard }], guard := some (5, false) }) (v := ?_) rfl (by kernel_rfl) (by kernel_rfl) (by kernel_rfl) (fun _ _ _ h => h) (Or.inl ⟨by rfl, ?_⟩) hHeld ?_
        rotate_left
        · intro W_ hSw_
          first | (go_simp; done) | (go_simp; with_reducible rfl)
        rotate_left
        try simp only [Act.put, List.setIfInBounds_toArray, List.set_cons_zero, List.set_cons_succ]
        refine wpAnyH_take (i := 12) (oi := { dst := some 38, op := Op.binOp BinOp.add 3 (Operand.tmp 34) (Operand.tmp 37) 3, type := 3, pos := "law.go:120", after := #[{ on := 8, ground := Ground.data }, { on := 11, ground := Ground.data }, { on := 5, ground := Ground.guard }], guard := some (5, false) }) (v := ?_) rfl (by kernel_rfl) (by kernel_rfl) (by kernel_rfl) (fun _ _ _ h => h) (Or.inl ⟨by rfl, ?_⟩) hHeld ?_
        rotate_left
        · intro W_ hSw_
          first | (go_simp; done) | (go_simp; with_reducible rfl)
        rotate_left
        try simp only [Act.put, List.setIfInBounds_toArray, List.set_cons_zero, List.set_cons_succ]
        refine wpAnyH_ready (rs := [16]) (by kernel_rfl) (by simp) ?_
        refine AllReadyH.cons (o := { dst := some 42, op := Op.call { callee := Callee.value (Operand.func 19), args := #[Operand.tmp 39, Operand.tmp 41], argTypes := #[25, 23] }, type := 3, pos := "law.go:120", after := #[{ on := 13, ground := Ground.data }, { on := 15, ground := Ground.data }, { on := 10, ground := Ground.chain }, { on := 5, ground := Ground.guard }], guard := some (5, false) }) rfl (fun K hK => ?_) AllReadyH.nil
        go_simp
        refine (nsum_any (HP.out.2 _ J7.out) K7.out (by omega)).mono ?_
        rintro _ Xs ⟨rfl, ds⟩
        have Jn : Hid (OwS w Xs g) := J7.out.below ds
        clear ds J7 K7
        have J7 := Jn
        clear Jn
        clear hHeld
        refine hK.out _ _ J7.out (fun hHeld => ?_)
        clear hK K
        try simp only [Act.put, List.setIfInBounds_toArray, List.set_cons_zero, List.set_cons_succ]
        refine wpAnyH_take (i := 17) (oi := { dst := some 43, op := Op.binOp BinOp.add 3 (Operand.tmp 38) (Operand.tmp 42) 3, type := 3, pos := "law.go:120", after := #[{ on := 12, ground := Ground.data }, { on := 16, ground := Ground.data }, { on := 5, ground := Ground.guard }], guard := some (5, false) }) (v := ?_) rfl (by kernel_rfl) (by kernel_rfl) (by kernel_rfl) (fun _ _ _ h => h) (Or.inl ⟨by rfl, ?_⟩) hHeld ?_
        rotate_left
        · intro W_ hSw_
          first | (go_simp; done) | (go_simp; with_reducible rfl)
        rotate_left
        try simp only [Act.put, List.setIfInBounds_toArray, List.set_cons_zero, List.set_cons_succ]
        refine wpAnyH_take (i := 18) (oi := { dst := some 44, op := Op.binOp BinOp.neq 3 (Operand.tmp 43) (Operand.const (Value.int IntKind.i64 0)) 3, type := 4, pos := "law.go:120", after := #[{ on := 17, ground := Ground.data }, { on := 5, ground := Ground.guard }], guard := some (5, false) }) (v := ?_) rfl (by kernel_rfl) (by kernel_rfl) (by kernel_rfl) (fun _ _ _ h => h) (Or.inl ⟨by rfl, ?_⟩) hHeld ?_
        rotate_left
        · intro W_ hSw_
          first | (go_simp; done) | (go_simp; with_reducible rfl)
        rotate_left
        try simp only [Act.put, List.setIfInBounds_toArray, List.set_cons_zero, List.set_cons_succ]
        refine wpAnyH_take (i := 19) (oi := { dst := some 45, op := Op.pick (Operand.tmp 31) (Operand.const (Value.bool true)) (Operand.tmp 44), type := 4, pos := "law.go:120", after := #[{ on := 5, ground := Ground.data }, { on := 18, ground := Ground.data }], guard := none }) (v := ?_) rfl (by kernel_rfl) (by kernel_rfl) (by kernel_rfl) (fun _ _ _ h => h) (Or.inl ⟨by rfl, ?_⟩) hHeld ?_
        rotate_left
        · intro W_ hSw_
          first | (go_simp; done) | (go_simp; with_reducible rfl)
        rotate_left
        try simp only [Act.put, List.setIfInBounds_toArray, List.set_cons_zero, List.set_cons_succ]
        refine wpAnyH_take (i := 20) (oi := { dst := some 46, op := Op.move (Operand.tmp 45), type := 4, pos := "law.go:120", after := #[{ on := 19, ground := Ground.data }, { on := 16, ground := Ground.chain }], guard := none }) (v := ?_) rfl (by kernel_rfl) (by kernel_rfl) (by kernel_rfl) (fun _ _ _ h => h) (Or.inl ⟨by rfl, ?_⟩) hHeld ?_
        rotate_left
        · intro W_ hSw_
          first | (go_simp; done) | (go_simp; with_reducible rfl)
        rotate_left
        try simp only [Act.put, List.setIfInBounds_toArray, List.set_cons_zero, List.set_cons_succ]
        refine wpAnyH_take (i := 21) (oi := { dst := some 47, op := Op.move (Operand.tmp 8), type := 25, pos := "law.go:120", after := #[{ on := 20, ground := Ground.guard }], guard := some (20, false) }) (v := ?_) rfl (by kernel_rfl) (by kernel_rfl) (by kernel_rfl) (fun _ _ _ h => h) (Or.inl ⟨by rfl, ?_⟩) hHeld ?_
        rotate_left
        · intro W_ hSw_
          first | (go_simp; done) | (go_simp; with_reducible rfl)
        rotate_left
        try simp only [Act.put, List.setIfInBounds_toArray, List.set_cons_zero, List.set_cons_succ]
        refine wpAnyH_ready (rs := [22]) (by kernel_rfl) (by simp) ?_
        refine AllReadyH.cons (o := { dst := some 48, op := Op.call { callee := Callee.value (Operand.func 12), args := #[Operand.tmp 47], argTypes := #[25] }, type := 25, pos := "law.go:120", after := #[{ on := 21, ground := Ground.data }, { on := 20, ground := Ground.chain }, { on := 20, ground := Ground.guard }], guard := some (20, false) }) rfl (fun K hK => ?_) AllReadyH.nil
        go_simp
        refine (nfork_any (HP.out.2 _ J7.out)).mono ?_
        rintro _ _ ⟨rfl, rfl⟩
        clear hHeld
        refine hK.out _ _ J7.out (fun hHeld => ?_)
        clear hK K
        try simp only [Act.put, List.setIfInBounds_toArray, List.set_cons_zero, List.set_cons_succ]
        refine wpAnyH_take (i := 23) (oi := { dst := some 49, op := Op.binOp BinOp.neq 25 (Operand.tmp 48) (Operand.const (Value.pointer none)) 25, type := 4, pos := "law.go:120", after := #[{ on := 22, ground := Ground.data }, { on := 20, ground := Ground.guard }], guard := some (20, false) }) (v := ?_) rfl (by kernel_rfl) (by kernel_rfl) (by kernel_rfl) (fun _ _ _ h => h) (Or.inl ⟨by rfl, ?_⟩) hHeld ?_
        rotate_left
        · intro W_ hSw_
          first | (go_simp; done) | (go_simp; with_reducible rfl)
        rotate_left
        try simp only [Act.put, List.setIfInBounds_toArray, List.set_cons_zero, List.set_cons_succ]
        refine wpAnyH_take (i := 24) (oi := { dst := some 50, op := Op.pick (Operand.tmp 46) (Operand.const (Value.bool true)) (Operand.tmp 49), type := 4, pos := "law.go:120", after := #[{ on := 20, ground := Ground.data }, { on := 23, ground := Ground.data }], guard := none }) (v := ?_) rfl (by kernel_rfl) (by kernel_rfl) (by kernel_rfl) (fun _ _ _ h => h) (Or.inl ⟨by rfl, ?_⟩) hHeld ?_
        rotate_left
        · intro W_ hSw_
          first | (go_simp; done) | (go_simp; with_reducible rfl)
        rotate_left
        try simp only [Act.put, List.setIfInBounds_toArray, List.set_cons_zero, List.set_cons_succ]
        refine wpAnyH_take (i := 25) (oi := { dst := some 51, op := Op.move (Operand.tmp 50), type := 4, pos := "law.go:120", after := #[{ on := 24, ground := Ground.data }, { on := 22, ground := Ground.chain }], guard := none }) (v := ?_) rfl (by kernel_rfl) (by kernel_rfl) (by kernel_rfl) (fun _ _ _ h => h) (Or.inl ⟨by rfl, ?_⟩) hHeld ?_
        rotate_left
        · intro W_ hSw_
          first | (go_simp; done) | (go_simp; with_reducible rfl)
        rotate_left
        try simp only [Act.put, List.setIfInBounds_toArray, List.set_cons_zero, List.set_cons_succ]
        refine wpAnyH_take (i := 26) (oi := { dst := some 52, op := Op.move (Operand.tmp 8), type := 25, pos := "law.go:120", after := #[{ on := 25, ground := Ground.guard }], guard := some (25, false) }) (v := ?_) rfl (by kernel_rfl) (by kernel_rfl) (by kernel_rfl) (fun _ _ _ h => h) (Or.inl ⟨by rfl, ?_⟩) hHeld ?_
        rotate_left
        · intro W_ hSw_
          first | (go_simp; done) | (go_simp; with_reducible rfl)
        rotate_left
        try simp only [Act.put, List.setIfInBounds_toArray, List.set_cons_zero, List.set_cons_succ]
        refine wpAnyH_take (i := 27) (oi := { dst := some 53, op := Op.move (Operand.tmp 5), type := 25, pos := "law.go:120", after := #[{ on := 25, ground := Ground.guard }], guard := some (25, false) }) (v := ?_) rfl (by kernel_rfl) (by kernel_rfl) (by kernel_rfl) (fun _ _ _ h => h) (Or.inl ⟨by rfl, ?_⟩) hHeld ?_
        rotate_left
        · intro W_ hSw_
          first | (go_simp; done) | (go_simp; with_reducible rfl)
        rotate_left
        try simp only [Act.put, List.setIfInBounds_toArray, List.set_cons_zero, List.set_cons_succ]
        refine wpAnyH_ready (rs := [28, 29]) (by kernel_rfl) (by simp) ?_
        refine (AllReadyH.cons (o := { dst := some 54, op := Op.call { callee := Callee.value (Operand.func 25), args := #[Operand.tmp 52, Operand.tmp 53], argTypes := #[25, 25] }, type := 27, pos := "law.go:120", after := #[{ on := 26, ground := Ground.data }, { on := 27, ground := Ground.data }, { on := 25, ground := Ground.chain }, { on := 25, ground := Ground.guard }], guard := some (25, false) }) rfl (fun K hK => ?_) (AllReadyH.cons (o := { dst := some 55, op := Op.makeSlice 27 (Operand.const (Value.int IntKind.i64 15)) (Operand.const (Value.int IntKind.i64 15)), type := 27, pos := "law.go:120", after := #[{ on := 25, ground := Ground.guard }], guard := some (25, false) }) rfl (fun K hK => ?_) AllReadyH.nil))
        · go_simp
          refine (diff_any (p := p) (q := none) (.inr ⟨HP.out.2 _ J7.out, rfl⟩) (.inr ⟨.inl rfl, rfl⟩)).mono ?_
          rintro _ Z7 ⟨a7, c7, rfl, o7, d7⟩
          rw [difN_zero isZ rfl] at o7
          have J7 : Hid (OwS w Z7 g) := J7.out.below d7
          have S7 : Hid (SlAt eI Z7 a7 15 c7 zN) := o7.sl15
          clear o7 d7
          clear hHeld
          refine hK.out _ _ J7.out (fun hHeld => ?_)
          clear hK K
          try simp only [Act.put, List.setIfInBounds_toArray, List.set_cons_zero, List.set_cons_succ]
          refine wpAnyH_ready (rs := [29]) (by kernel_rfl) (by simp) ?_
          refine AllReadyH.cons (o := { dst := some 55, op := Op.makeSlice 27 (Operand.const (Value.int IntKind.i64 15)) (Operand.const (Value.int IntKind.i64 15)), type := 27, pos := "law.go:120", after := #[{ on := 25, ground := Ground.guard }], guard := some (25, false) }) rfl (fun K hK => ?_) AllReadyH.nil
          go_simp
          obtain ⟨Z8, hZ8, d8, s8⟩ := z15_new Z7
          rw [hZ8]
          have J8 : Hid (OwS w Z8 g) := J7.out.below d8
          have S8 : Hid (SlAt eI Z8 a7 15 c7 zN ∧ SlAt eI Z8 (some ⟨Z7.heap.size, 0, none⟩) 15 15 zN) := ⟨S7.out.below d8, s8⟩
          clear hZ8 d8 s8
          clear hHeld
          refine hK.out _ _ J8.out (fun hHeld => ?_)
          clear hK K
          try simp only [Act.put, List.setIfInBounds_toArray, List.set_cons_zero, List.set_cons_succ]
          refine wpAnyH_ready (rs := [30]) (by kernel_rfl) (by simp) ?_
          refine AllReadyH.cons (o := { dst := some 56, op := Op.call { callee := Callee.value (Operand.func 17), args := #[Operand.tmp 54, Operand.tmp 55], argTypes := #[27, 27] }, type := 4, pos := "law.go:120", after := #[{ on := 28, ground := Ground.data }, { on := 29, ground := Ground.data }, { on := 28, ground := Ground.chain }, { on := 25, ground := Ground.guard }], guard := some (25, false) }) rfl (fun K hK => ?_) AllReadyH.nil
          go_simp
          refine (rsame_yes S8.out.1 S8.out.2).mono ?_
          rintro _ Z9 ⟨rfl, d9⟩
          have J9 : Hid (OwS w Z9 g) := J8.out.below d9
          clear d9
          clear hHeld
          refine hK.out _ _ J9.out (fun hHeld => ?_)
          clear hK K
          try simp only [Act.put, List.setIfInBounds_toArray, List.set_cons_zero, List.set_cons_succ]
          refine wpAnyH_take (i := 31) (oi := { dst := some 57, op := Op.unOp UnOp.not 4 (Operand.tmp 56), type := 4, pos := "law.go:120", after := #[{ on := 30, ground := Ground.data }, { on := 25, ground := Ground.guard }], guard := some (25, false) }) (v := ?_) rfl (by kernel_rfl) (by kernel_rfl) (by kernel_rfl) (fun _ _ _ h => h) (Or.inl ⟨by rfl, ?_⟩) hHeld ?_
          rotate_left
          · intro W_ hSw_
            first | (go_simp; done) | (go_simp; with_reducible rfl)
          rotate_left
          try simp only [Act.put, List.setIfInBounds_toArray, List.set_cons_zero, List.set_cons_succ]
          refine wpAnyH_take (i := 32) (oi := { dst := some 58, op := Op.pick (Operand.tmp 51) (Operand.const (Value.bool true)) (Operand.tmp 57), type := 4, pos := "law.go:120", after := #[{ on := 25, ground := Ground.data }, { on := 31, ground := Ground.data }], guard := none }) (v := ?_) rfl (by kernel_rfl) (by kernel_rfl) (by kernel_rfl) (fun _ _ _ h => h) (Or.inl ⟨by rfl, ?_⟩) hHeld ?_
          rotate_left
          · intro W_ hSw_
            first | (go_simp; done) | (go_simp; with_reducible rfl)
          rotate_left
          try simp only [Act.put, List.setIfInBounds_toArray, List.set_cons_zero, List.set_cons_succ]
          refine wpAnyH_done (by kernel_rfl) ?_ _
          refine NoPanic.normal ?_
          clear hHeld
          go_wp2
          go_roundw
          case rel => exact ⟨i + 1, by have := HP.out.1; omega, by go_num, J9.out⟩
          case measure => have := HP.out.1; simp [intOf]; omega
        · go_simp
          obtain ⟨Z8, hZ8, d8, s8⟩ := z15_new _
          rw [hZ8]
          have J8 : Hid (OwS w Z8 g) := J7.out.below d8
          have S8 : Hid (SlAt eI Z8 _ 15 15 zN) := s8
          clear hZ8 d8 s8
          clear hHeld
          refine hK.out _ _ J8.out (fun hHeld => ?_)
          clear hK K
          try simp only [Act.put, List.setIfInBounds_toArray, List.set_cons_zero, List.set_cons_succ]
          refine wpAnyH_ready (rs := [28]) (by kernel_rfl) (by simp) ?_
          refine AllReadyH.cons (o := { dst := some 54, op := Op.call { callee := Callee.value (Operand.func 25), args := #[Operand.tmp 52, Operand.tmp 53], argTypes := #[25, 25] }, type := 27, pos := "law.go:120", after := #[{ on := 26, ground := Ground.data }, { on := 27, ground := Ground.data }, { on := 25, ground := Ground.chain }, { on := 25, ground := Ground.guard }], guard := some (25, false) }) rfl (fun K hK => ?_) AllReadyH.nil
          go_simp
          refine (diff_any (p := p) (q := none) (.inr ⟨HP.out.2 _ J8.out, rfl⟩) (.inr ⟨.inl rfl, rfl⟩)).mono ?_
          rintro _ Z7 ⟨a7, c7, rfl, o7, d7⟩
          rw [difN_zero isZ rfl] at o7
          have J7 : Hid (OwS w Z7 g) := J8.out.below d7
          have S7 : Hid (SlAt eI Z7 a7 15 c7 zN ∧ SlAt eI Z7 _ 15 15 zN) := ⟨o7.sl15, S8.out.below d7⟩
          clear o7 d7
          clear hHeld
          refine hK.out _ _ J7.out (fun hHeld => ?_)
          clear hK K
          try simp only [Act.put, List.setIfInBounds_toArray, List.set_cons_zero, List.set_cons_succ]
          refine wpAnyH_ready (rs := [30]) (by kernel_rfl) (by simp) ?_
          refine AllReadyH.cons (o := { dst := some 56, op := Op.call { callee := Callee.value (Operand.func 17), args := #[Operand.tmp 54, Operand.tmp 55], argTypes := #[27, 27] }, type := 4, pos := "law.go:120", after := #[{ on := 28, ground := Ground.data }, { on := 29, ground := Ground.data }, { on := 28, ground := Ground.chain }, { on := 25, ground := Ground.guard }], guard := some (25, false) }) rfl (fun K hK => ?_) AllReadyH.nil
          go_simp
          refine (rsame_yes S7.out.1 S7.out.2).mono ?_
          rintro _ Z9 ⟨rfl, d9⟩
          have J9 : Hid (OwS w Z9 g) := J7.out.below d9
          clear d9
          clear hHeld
          refine hK.out _ _ J9.out (fun hHeld => ?_)
          clear hK K
          try simp only [Act.put, List.setIfInBounds_toArray, List.set_cons_zero, List.set_cons_succ]
          refine wpAnyH_take (i := 31) (oi := { dst := some 57, op := Op.unOp UnOp.not 4 (Operand.tmp 56), type := 4, pos := "law.go:120", after := #[{ on := 30, ground := Ground.data }, { on := 25, ground := Ground.guard }], guard := some (25, false) }) (v := ?_) rfl (by kernel_rfl) (by kernel_rfl) (by kernel_rfl) (fun _ _ _ h => h) (Or.inl ⟨by rfl, ?_⟩) hHeld ?_
          rotate_left
          · intro W_ hSw_
            first | (go_simp; done) | (go_simp; with_reducible rfl)
          rotate_left
          try simp only [Act.put, List.setIfInBounds_toArray, List.set_cons_zero, List.set_cons_succ]
          refine wpAnyH_take (i := 32) (oi := { dst := some 58, op := Op.pick (Operand.tmp 51) (Operand.const (Value.bool true)) (Operand.tmp 57), type := 4, pos := "law.go:120", after := #[{ on := 25, ground := Ground.data }, { on := 31, ground := Ground.data }], guard := none }) (v := ?_) rfl (by kernel_rfl) (by kernel_rfl) (by kernel_rfl) (fun _ _ _ h => h) (Or.inl ⟨by rfl, ?_⟩) hHeld ?_
          rotate_left
          · intro W_ hSw_
            first | (go_simp; done) | (go_simp; with_reducible rfl)
          rotate_left
          try simp only [Act.put, List.setIfInBounds_toArray, List.set_cons_zero, List.set_cons_succ]
          refine wpAnyH_done (by kernel_rfl) ?_ _
          refine NoPanic.normal ?_
          clear hHeld
          go_wp2
          go_roundw
          case rel => exact ⟨i + 1, by have := HP.out.1; omega, by go_num, J9.out⟩
          case measure => have := HP.out.1; simp [intOf]; omega
    · obtain rfl : i = 2 := by omega
      have KB : Hid (Below w.heap.size w X) := J.out.b
      clear J hit hi hi0
      go_wp2_with fail
      refine (new_any X).mono ?_
      rintro _ X1 ⟨g1, rfl, hg1, t1, b1⟩
      have K1 : Hid (TyS w X1 g1 zN) := ⟨t1, isZ, rfl, below_over KB.out b1, by have := KB.out.size; omega⟩
      clear t1 b1 hg1
      go_wp2_with fail
      refine (add_any K1.out.t K1.out.n 10 3).mono ?_
      rintro _ X2 ⟨rfl, t2, g2⟩
      rw [show addE zN 10 3 = 0 by decide]
      have K2 : Hid (TyS w X2 g1 awO) := by
        have := K1.out.add t2 g2
        rwa [show addN zN 10 3 = awO by decide] at this
      clear t2 g2 K1
      go_wp2_with fail
      refine (all_any K2.out.t K2.out.n).mono ?_
      rintro _ X3 ⟨a3, c3, rfl, o3, b3⟩
      obtain ⟨g3, e3, hg3, p3, _⟩ := o3
      injection e3 with e3 _ e5
      subst e3 e5
      have K3 : Hid (TyS w X3 g1 awO ∧ AtA X3 g3 awO ∧ g1 < g3 ∧ w.heap.size ≤ g3) := ⟨K2.out.below b3, p3, by have := RvAt.lt K2.out.t; omega, by have := K2.out.b.size; omega⟩
      clear b3 hg3 p3 K2
      go_wp2_with fail
      go_loopw [11] (fun v wr => ∃ (j : Nat) (L : List Int), j ≤ 15 ∧ v = .int .i64 j ∧ TyS w wr g1 awO ∧ AtA wr g3 L ∧ L.length = 15) (fun v _ => 15 - (intOf v).toNat)
      case atStart => exact ⟨0, awO, by omega, rfl, K3.out.1, K3.out.2.1, rfl⟩
      case round =>
        obtain ⟨j, L, hj, rfl, hS, hP, hl⟩ := hrel
        obtain ⟨Y, hY⟩ : ∃ e, wr = e := ⟨_, rfl⟩
        rw [hY] at hS hP ⊢
        have J : Hid (TyS w Y g1 awO ∧ AtA Y g3 L ∧ L.length = 15) := ⟨hS, hP, hl⟩
        have hj0 : (0 : Int) ≤ (j : Int) := by omega
        clear hS hP hl hY
        by_cases hjt : j < 15
        · have hj1 : (j : Int) < 15 := by omega
          obtain ⟨Z, sZ, pZ, gZ⟩ := AtA.st J.out.2.1 J.out.2.2 hjt 99
          have KZ : Hid (TyS w Z g1 awO ∧ AtA Z g3 (L.set j 99) ∧ (L.set j 99).length = 15 ∧ j < 15) := by
            have q := J.out.1
            have k := K3.out
            exact ⟨⟨RvAt.keptBut q.t gZ (by have := k.2.2.1; simp; omega), q.n, q.z, gro q.b gZ k.2.2.2 q.b.size, q.lo⟩, pZ, by rw [List.length_set]; exact J.out.2.2, hjt⟩
          clear pZ gZ hjt
          go_wp2
          go_roundw
          case rel => exact ⟨j + 1, _, by have := KZ.out; omega, by go_num, KZ.out.1, KZ.out.2.1, KZ.out.2.2.1⟩
          case measure => have := KZ.out; simp [intOf]; omega
        · obtain rfl : j = 15 := by omega
          have K4 : Hid (TyS w Y g1 awO) := J.out.1
          clear J hjt
          go_wp2_with fail
          refine (get_any K4.out.t K4.out.n 10).mono ?_
          rintro _ Y ⟨rfl, b4⟩
          rw [show getN awO 10 = 3 by decide]
          have K4n : Hid (TyS w Y g1 awO) := K4.out.below b4
          clear b4 K4
          have K4 := K4n
          clear K4n
          have s5 := why_new Y [10, 9] (by decide)
          have b5 : Below Y.heap.size Y (Y.alloc (.cells (eW.fl [10, 9]).toArray 32)) := (Below.refl _ _).alloc (Nat.le_refl _) _
          obtain ⟨Y5, hY5⟩ : ∃ e, Y.alloc (.cells (eW.fl [10, 9]).toArray 32) = e := ⟨_, rfl⟩
          rw [hY5] at s5 b5
          have hY5' : Y.alloc (.cells #[.int .i64 10, .int .i64 9] 32) = Y5 := hY5
          have K5 : Hid (TyS w Y5 g1 awO ∧ SlAt eW Y5 (some ⟨Y.heap.size, 0, none⟩) 2 2 [10, 9]) := ⟨K4.out.below b5, s5⟩
          clear s5 b5 hY5
          go_wp2_with fail
          refine (sum_any K5.out.1.t K5.out.1.n K5.out.2 (by omega)).mono ?_
          rintro _ Y6 ⟨rfl, b6⟩
          rw [show sumT awO [10, 9] 2 = 3 by decide]
          have K6 : Hid (Below w.heap.size w Y6) := below_over K5.out.1.b b6
          clear b6
          go_wp2_with fail
          refine (awake_any Y6).mono ?_
          rintro _ Y7 ⟨rfl, b7⟩
          go_wp2
          go_ret
          exact ⟨rfl, below_over K6.out b7⟩
end Go.Proofs.Ytammaaiknjgjbaa
