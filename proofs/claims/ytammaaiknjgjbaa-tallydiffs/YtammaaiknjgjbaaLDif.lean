/-
  The difference of any two, adding to one: the walk of the law, for every input.
-/
import Derived.Test.YtammaaiknjgjbaaTx
namespace Go.Proofs.Ytammaaiknjgjbaa
set_option linter.unusedVariables false
set_option maxRecDepth 4000
set_option linter.unusedSimpArgs false
open Go.RowKit
attribute [local go_sem ↓] apI bsI ldT stT stI ldA stA bsW
attribute [local go_sem] bzI b3W b2W b1W
set_option maxHeartbeats 16000000 in
theorem diffs_law (a : Option Addr) (n c : Nat) (os : List Opt) (w : World) (h : SlAt eO w a n c os) (x m : Int) : Calls Try.prog 5 #[.slice a n c, .int .i64 x, .int .i64 m] w fun e w' => e = .returned (.bool true) ∧ Below w.heap.size w w' := by
  have HO : Hid (SlAt eO w a n c os) := h
  have hnn := h.int
  clear h
  go_enter Try.func5, Try.ntmps5
  go_wp2_with fail
  refine (new_any w).mono ?_
  rintro _ X1 ⟨g, rfl, hg, t1, b1⟩
  have K1 : Hid (TyS w X1 g zN) := ⟨t1, isZ, rfl, b1, hg⟩
  clear t1 b1 hg
  go_wp2_with fail
  refine (awake_any X1).mono ?_
  rintro _ X2 ⟨rfl, b2⟩
  have K2 : Hid (TyS w X2 g zN) := K1.out.below b2
  clear b2 K1
  go_wp2_with fail
  go_loopw [8] (fun v wr => ∃ (i : Nat) (N : List Int), i ≤ n ∧ i ≤ 40 ∧ v = .int .i64 i ∧ TyS w wr g N) (fun v _ => n - (intOf v).toNat)
  case atStart => exact ⟨0, _, by omega, by omega, rfl, K2.out⟩
  case round =>
    obtain ⟨i, N, hi, hj, rfl, hS⟩ := hrel
    obtain ⟨X, hX⟩ : ∃ e, wr = e := ⟨_, rfl⟩
    rw [hX] at hS ⊢
    have J : Hid (TyS w X g N) := hS
    have hi0 : (0 : Int) ≤ (i : Int) := by omega
    clear hS hX K2
    by_cases hit : i < n ∧ i < 40
    · have hi1 : (i : Int) < (n : Int) := by omega
      have hi2 : (i : Int) < 40 := by omega
      have HI : Hid (i < n ∧ i < 40) := hit
      obtain ⟨lb, lo, rfl⟩ := HO.out.some' (by omega)
      obtain ⟨y, hy⟩ : ∃ y, os[i]? = some y := ⟨_, List.getElem?_eq_getElem (by rw [HO.out.len]; exact hit.1)⟩
      have HY : Hid (os[i]? = some y) := hy
      clear hit hy
      go_wp2_with fail
      obtain ⟨X0, hX0⟩ : ∃ X0, X.drew = X0 := ⟨_, rfl⟩
      have B0 : Below X.heap.size X X0 := by rw [← hX0]; exact (Below.refl _ _).drew
      have J2 : Hid (TyS w X0 g N) := J.out.below B0
      refine wp_region_noPanic ?_
      refine wp_region_held_drew (S := fun w' => Below w.heap.size w w') (by kernel_rfl) ((J.out.below (Below.refl _ _).drew).b) (fun hHeld => ?_)
      rw [hX0] at hHeld ⊢
      clear hX0 B0
      refine wpAnyH_take (i := 0) (oi := { dst := some 31, op := Op.move (Operand.tmp 7), type := 25, pos := "law.go:79", after := #[], guard := none }) (v := ?_) rfl (by kernel_rfl) (by kernel_rfl) (by kernel_rfl) (fun _ _ _ h => h) (Or.inl ⟨by rfl, ?_⟩) hHeld ?_
      rotate_left
      · intro W_ hSw_
        first | (go_simp; done) | (go_simp; with_reducible rfl)
      rotate_left
      try simp only [Act.put, List.setIfInBounds_toArray, List.set_cons_zero, List.set_cons_succ]
      refine wpAnyH_take (i := 1) (oi := { dst := some 32, op := Op.move (Operand.tmp 0), type := 22, pos := "law.go:79", after := #[], guard := none }) (v := ?_) rfl (by kernel_rfl) (by kernel_rfl) (by kernel_rfl) (fun _ _ _ h => h) (Or.inl ⟨by rfl, ?_⟩) hHeld ?_
      rotate_left
      · intro W_ hSw_
        first | (go_simp; done) | (go_simp; with_reducible rfl)
      rotate_left
      try simp only [Act.put, List.setIfInBounds_toArray, List.set_cons_zero, List.set_cons_succ]
      refine wpAnyH_take (i := 2) (oi := { dst := some 33, op := Op.move (Operand.tmp 8), type := 3, pos := "law.go:79", after := #[], guard := none }) (v := ?_) rfl (by kernel_rfl) (by kernel_rfl) (by kernel_rfl) (fun _ _ _ h => h) (Or.inl ⟨by rfl, ?_⟩) hHeld ?_
      rotate_left
      · intro W_ hSw_
        first | (go_simp; done) | (go_simp; with_reducible rfl)
      rotate_left
      try simp only [Act.put, List.setIfInBounds_toArray, List.set_cons_zero, List.set_cons_succ]
      refine wpAnyH_take (i := 3) (oi := { dst := some 34, op := Op.indexAddr 22 (Operand.tmp 32) (Operand.tmp 33), type := 0, pos := "law.go:79", after := #[{ on := 1, ground := Ground.data }, { on := 2, ground := Ground.data }], guard := none }) (v := ?_) rfl (by kernel_rfl) (by kernel_rfl) (by kernel_rfl) (fun _ _ _ h => h) (Or.inl ⟨by rfl, ?_⟩) hHeld ?_
      rotate_left
      · intro W_ hSw_
        first | (go_simp; done) | (go_simp; with_reducible rfl)
      rotate_left
      try simp only [Act.put, List.setIfInBounds_toArray, List.set_cons_zero, List.set_cons_succ]
      refine wpAnyH_take (i := 4) (oi := { dst := some 35, op := Op.fieldAddr 34 (Operand.tmp 34) 1, type := 0, pos := "law.go:79", after := #[{ on := 3, ground := Ground.data }], guard := none }) (v := ?_) rfl (by kernel_rfl) (by kernel_rfl) (by kernel_rfl) (fun _ _ _ h => h) (Or.inl ⟨by rfl, ?_⟩) hHeld ?_
      rotate_left
      · intro W_ hSw_
        first | (go_simp; done) | (go_simp; with_reducible rfl)
      rotate_left
      try simp only [Act.put, List.setIfInBounds_toArray, List.set_cons_zero, List.set_cons_succ]
      refine wpAnyH_take (i := 5) (oi := { dst := some 36, op := Op.load 32 (Operand.tmp 35), type := 32, pos := "law.go:79", after := #[{ on := 4, ground := Ground.data }], guard := none }) (v := ?_) rfl (by kernel_rfl) (by kernel_rfl) (by kernel_rfl) (fun _ _ _ h => h) (Or.inl ⟨by rfl, ?_⟩) hHeld ?_
      rotate_left
      · intro W_ hSw_
        have l_ := lO1 (HO.out.below hSw_) HY.out
        first | (go_simp; done) | (go_simp; with_reducible rfl)
      rotate_left
      try simp only [Act.put, List.setIfInBounds_toArray, List.set_cons_zero, List.set_cons_succ]
      refine wpAnyH_take (i := 6) (oi := { dst := some 37, op := Op.move (Operand.tmp 0), type := 22, pos := "law.go:79", after := #[], guard := none }) (v := ?_) rfl (by kernel_rfl) (by kernel_rfl) (by kernel_rfl) (fun _ _ _ h => h) (Or.inl ⟨by rfl, ?_⟩) hHeld ?_
      rotate_left
      · intro W_ hSw_
        first | (go_simp; done) | (go_simp; with_reducible rfl)
      rotate_left
      try simp only [Act.put, List.setIfInBounds_toArray, List.set_cons_zero, List.set_cons_succ]
      refine wpAnyH_take (i := 7) (oi := { dst := some 38, op := Op.move (Operand.tmp 8), type := 3, pos := "law.go:79", after := #[], guard := none }) (v := ?_) rfl (by kernel_rfl) (by kernel_rfl) (by kernel_rfl) (fun _ _ _ h => h) (Or.inl ⟨by rfl, ?_⟩) hHeld ?_
      rotate_left
      · intro W_ hSw_
        first | (go_simp; done) | (go_simp; with_reducible rfl)
      rotate_left
      try simp only [Act.put, List.setIfInBounds_toArray, List.set_cons_zero, List.set_cons_succ]
      refine wpAnyH_take (i := 8) (oi := { dst := some 39, op := Op.indexAddr 22 (Operand.tmp 37) (Operand.tmp 38), type := 0, pos := "law.go:79", after := #[{ on := 6, ground := Ground.data }, { on := 7, ground := Ground.data }], guard := none }) (v := ?_) rfl (by kernel_rfl) (by kernel_rfl) (by kernel_rfl) (fun _ _ _ h => h) (Or.inl ⟨by rfl, ?_⟩) hHeld ?_
      rotate_left
      · intro W_ hSw_
        first | (go_simp; done) | (go_simp; with_reducible rfl)
      rotate_left
      try simp only [Act.put, List.setIfInBounds_toArray, List.set_cons_zero, List.set_cons_succ]
      refine wpAnyH_take (i := 9) (oi := { dst := some 40, op := Op.fieldAddr 34 (Operand.tmp 39) 2, type := 0, pos := "law.go:79", after := #[{ on := 8, ground := Ground.data }], guard := none }) (v := ?_) rfl (by kernel_rfl) (by kernel_rfl) (by kernel_rfl) (fun _ _ _ h => h) (Or.inl ⟨by rfl, ?_⟩) hHeld ?_
      rotate_left
      · intro W_ hSw_
        first | (go_simp; done) | (go_simp; with_reducible rfl)
      rotate_left
      try simp only [Act.put, List.setIfInBounds_toArray, List.set_cons_zero, List.set_cons_succ]
      refine wpAnyH_take (i := 10) (oi := { dst := some 41, op := Op.load 3 (Operand.tmp 40), type := 3, pos := "law.go:79", after := #[{ on := 9, ground := Ground.data }], guard := none }) (v := ?_) rfl (by kernel_rfl) (by kernel_rfl) (by kernel_rfl) (fun _ _ _ h => h) (Or.inl ⟨by rfl, ?_⟩) hHeld ?_
      rotate_left
      · intro W_ hSw_
        have l_ := lO2 (HO.out.below hSw_) HY.out
        first | (go_simp; done) | (go_simp; with_reducible rfl)
      rotate_left
      try simp only [Act.put, List.setIfInBounds_toArray, List.set_cons_zero, List.set_cons_succ]
      refine wpAnyH_ready (rs := [11]) (by kernel_rfl) (by simp) ?_
      refine AllReadyH.cons (o := { dst := some 42, op := Op.call { callee := Callee.value (Operand.func 13), args := #[Operand.tmp 31, Operand.tmp 36, Operand.tmp 41], argTypes := #[25, 32, 3] }, type := 35, pos := "law.go:79", after := #[{ on := 0, ground := Ground.data }, { on := 5, ground := Ground.data }, { on := 10, ground := Ground.data }], guard := none }) rfl (fun K hK => ?_) AllReadyH.nil
      go_simp
      refine (add_any J2.out.t J2.out.n y.w y.n).mono ?_
      rintro _ X3 ⟨rfl, t3, g3⟩
      have K3 : Hid (TyS w X3 g (addN N y.w y.n)) := J2.out.add t3 g3
      clear t3 g3 hHeld
      refine hK.out _ _ K3.out.b (fun hHeld => ?_)
      clear hK K
      try simp only [Act.put, List.setIfInBounds_toArray, List.set_cons_zero, List.set_cons_succ]
      refine wpAnyH_done (by kernel_rfl) ?_ _
      refine NoPanic.normal ?_
      clear hHeld
      go_wp2
      go_roundw
      case rel => exact ⟨i + 1, _, by have := HI.out; omega, by have := HI.out; omega, by go_num, K3.out⟩
      case measure => have := HI.out; simp [intOf]; omega
    · have hcond : ¬ ((i : Int) < (n : Int)) ∨ ¬ ((i : Int) < 40) := by omega
      by_cases hin : (i : Int) < (n : Int)
      · have h40 : ¬ ((i : Int) < 40) := by omega
        clear hcond hit
        go_wp2_with fail
        refine (fork_any J.out.t J.out.n).mono ?_
        rintro _ X4 ⟨g4, rfl, hg4, t4, b4⟩
        have K4 : Hid (TyS w X4 g N ∧ TAt X4 g4 N ∧ g < g4) := ⟨J.out.below b4, t4, by have := RvAt.lt J.out.t; omega⟩
        clear t4 b4 hg4 J
        go_wp2_with fail
        refine (add_any K4.out.1.t K4.out.1.n x m).mono ?_
        rintro _ X5 ⟨rfl, t5, g5⟩
        have K5 : Hid (TyS w X5 g (addN N x m) ∧ TAt X5 g4 N) := ⟨K4.out.1.add t5 g5, RvAt.keptBut K4.out.2.1 g5 (by have := K4.out.2.2; simp; omega)⟩
        obtain ⟨E, hE⟩ : ∃ e, addE N x m = e := ⟨_, rfl⟩
        rw [hE]
        have HE : Hid (addE N x m = E ∧ IsN N) := ⟨hE, K4.out.1.n⟩
        clear t5 g5 hE K4
        go_wp2_with fail
        refine (diff_any (p := some ⟨g, 0, none⟩) (q := some ⟨g4, 0, none⟩) (.inl ⟨g, rfl, K5.out.1.t, K5.out.1.n⟩) (.inl ⟨g4, rfl, K5.out.2, HE.out.2⟩)).mono ?_
        rintro _ X6 ⟨a6, c6, rfl, o6, b6⟩
        have K6 : Hid (TyS w X6 g (addN N x m) ∧ SlAt eI X6 a6 15 c6 (difN (addN N x m) N)) := ⟨K5.out.1.below b6, o6.sl15⟩
        clear o6 b6 K5
        go_wp2_with fail
        refine (diff_any (p := some ⟨g, 0, none⟩) (q := none) (.inl ⟨g, rfl, K6.out.1.t, K6.out.1.n⟩) (.inr ⟨.inl rfl, rfl⟩)).mono ?_
        rintro _ X7 ⟨a7, c7, rfl, o7, b7⟩
        rw [difN_zero K6.out.1.n K6.out.1.z] at o7
        have K7 : Hid (TyS w X7 g (addN N x m) ∧ SlAt eI X7 a6 15 c6 (difN (addN N x m) N) ∧ SlAt eI X7 a7 15 c7 (addN N x m)) := ⟨K6.out.1.below b7, K6.out.2.below b7, o7.sl15⟩
        clear o7 b7 K6
        go_wp2_with fail
        refine (all_any K7.out.1.t K7.out.1.n).mono ?_
        rintro _ X8 ⟨a8, c8, rfl, o8, b8⟩
        have K8 : Hid (TyS w X8 g (addN N x m) ∧ SlAt eI X8 a6 15 c6 (difN (addN N x m) N) ∧ SlAt eI X8 a7 15 c7 (addN N x m) ∧ SlAt eI X8 a8 15 c8 (addN N x m)) := ⟨K7.out.1.below b8, K7.out.2.1.below b8, K7.out.2.2.below b8, o8.sl15⟩
        clear o8 b8 K7
        go_wp2_with fail
        refine (rsame_yes K8.out.2.2.1 K8.out.2.2.2).mono ?_
        rintro _ X9 ⟨rfl, b9⟩
        have K9 : Hid (Below w.heap.size w X9 ∧ SlAt eI X9 a6 15 c6 (difN (addN N x m) N)) := ⟨below_over K8.out.1.b b9, K8.out.2.1.below b9⟩
        clear b9 K8
        go_wp2_with fail
        go_loopw [12] (fun v wr => ∃ j : Nat, j ≤ 15 ∧ v = .int .i64 j ∧ wr = X9) (fun v _ => 15 - (intOf v).toNat)
        case atStart => exact ⟨0, by omega, rfl, rfl⟩
        case round =>
          obtain ⟨j, hj15, rfl, rfl⟩ := hrel
          have hj0 : (0 : Int) ≤ (j : Int) := by omega
          by_cases hjt : j < 15
          · have hj1 : (j : Int) < 15 := by omega
            obtain ⟨db, dof, rfl⟩ := K9.out.2.some' (by omega)
            have c1 := lI K9.out.2 (difN_at HE.out.2 x m hjt)
            rw [HE.out.1] at c1
            have HJ : Hid (j < 15) := hjt
            clear hjt
            by_cases hc : E = 0 ∧ (j : Int) = x
            · rw [if_pos hc] at c1
              have hm0 : 0 ≤ m := addE_n (N := N) (w := x) (by rw [HE.out.1]; exact hc.1)
              obtain ⟨rfl, rfl⟩ := hc
              have mm : (m != m) = false := by simp
              have ml : ¬ m < 0 := by omega
              go_wp2
              go_roundw
              case rel => exact ⟨j + 1, by have := HJ.out; omega, by go_num, trivial⟩
              case measure => have := HJ.out; simp [intOf]; omega
            · rw [if_neg hc] at c1
              by_cases he : E = 0
              · subst he
                have hjx : ¬ (j : Int) = x := fun e => hc ⟨rfl, e⟩
                have hjx' : ((j : Int) == x) = false := by simpa using hjx
                clear hc
                go_wp2
                go_roundw
                case rel => exact ⟨j + 1, by have := HJ.out; omega, by go_num, trivial⟩
                case measure => have := HJ.out; simp [intOf]; omega
              · have he' : (E == 0) = false := by simpa using he
                clear hc
                go_wp2
                go_roundw
                case rel => exact ⟨j + 1, by have := HJ.out; omega, by go_num, trivial⟩
                case measure => have := HJ.out; simp [intOf]; omega
          · obtain rfl : j = 15 := by omega
            go_wp2
            go_ret
            exact ⟨rfl, K9.out.1⟩
      · clear hcond hit
        go_wp2_with fail
        refine (fork_any J.out.t J.out.n).mono ?_
        rintro _ X4 ⟨g4, rfl, hg4, t4, b4⟩
        have K4 : Hid (TyS w X4 g N ∧ TAt X4 g4 N ∧ g < g4) := ⟨J.out.below b4, t4, by have := RvAt.lt J.out.t; omega⟩
        clear t4 b4 hg4 J
        go_wp2_with fail
        refine (add_any K4.out.1.t K4.out.1.n x m).mono ?_
        rintro _ X5 ⟨rfl, t5, g5⟩
        have K5 : Hid (TyS w X5 g (addN N x m) ∧ TAt X5 g4 N) := ⟨K4.out.1.add t5 g5, RvAt.keptBut K4.out.2.1 g5 (by have := K4.out.2.2; simp; omega)⟩
        obtain ⟨E, hE⟩ : ∃ e, addE N x m = e := ⟨_, rfl⟩
        rw [hE]
        have HE : Hid (addE N x m = E ∧ IsN N) := ⟨hE, K4.out.1.n⟩
        clear t5 g5 hE K4
        go_wp2_with fail
        refine (diff_any (p := some ⟨g, 0, none⟩) (q := some ⟨g4, 0, none⟩) (.inl ⟨g, rfl, K5.out.1.t, K5.out.1.n⟩) (.inl ⟨g4, rfl, K5.out.2, HE.out.2⟩)).mono ?_
        rintro _ X6 ⟨a6, c6, rfl, o6, b6⟩
        have K6 : Hid (TyS w X6 g (addN N x m) ∧ SlAt eI X6 a6 15 c6 (difN (addN N x m) N)) := ⟨K5.out.1.below b6, o6.sl15⟩
        clear o6 b6 K5
        go_wp2_with fail
        refine (diff_any (p := some ⟨g, 0, none⟩) (q := none) (.inl ⟨g, rfl, K6.out.1.t, K6.out.1.n⟩) (.inr ⟨.inl rfl, rfl⟩)).mono ?_
        rintro _ X7 ⟨a7, c7, rfl, o7, b7⟩
        rw [difN_zero K6.out.1.n K6.out.1.z] at o7
        have K7 : Hid (TyS w X7 g (addN N x m) ∧ SlAt eI X7 a6 15 c6 (difN (addN N x m) N) ∧ SlAt eI X7 a7 15 c7 (addN N x m)) := ⟨K6.out.1.below b7, K6.out.2.below b7, o7.sl15⟩
        clear o7 b7 K6
        go_wp2_with fail
        refine (all_any K7.out.1.t K7.out.1.n).mono ?_
        rintro _ X8 ⟨a8, c8, rfl, o8, b8⟩
        have K8 : Hid (TyS w X8 g (addN N x m) ∧ SlAt eI X8 a6 15 c6 (difN (addN N x m) N) ∧ SlAt eI X8 a7 15 c7 (addN N x m) ∧ SlAt eI X8 a8 15 c8 (addN N x m)) := ⟨K7.out.1.below b8, K7.out.2.1.below b8, K7.out.2.2.below b8, o8.sl15⟩
        clear o8 b8 K7
        go_wp2_with fail
        refine (rsame_yes K8.out.2.2.1 K8.out.2.2.2).mono ?_
        rintro _ X9 ⟨rfl, b9⟩
        have K9 : Hid (Below w.heap.size w X9 ∧ SlAt eI X9 a6 15 c6 (difN (addN N x m) N)) := ⟨below_over K8.out.1.b b9, K8.out.2.1.below b9⟩
        clear b9 K8
        go_wp2_with fail
        go_loopw [12] (fun v wr => ∃ j : Nat, j ≤ 15 ∧ v = .int .i64 j ∧ wr = X9) (fun v _ => 15 - (intOf v).toNat)
        case atStart => exact ⟨0, by omega, rfl, rfl⟩
        case round =>
          obtain ⟨j, hj15, rfl, rfl⟩ := hrel
          have hj0 : (0 : Int) ≤ (j : Int) := by omega
          by_cases hjt : j < 15
          · have hj1 : (j : Int) < 15 := by omega
            obtain ⟨db, dof, rfl⟩ := K9.out.2.some' (by omega)
            have c1 := lI K9.out.2 (difN_at HE.out.2 x m hjt)
            rw [HE.out.1] at c1
            have HJ : Hid (j < 15) := hjt
            clear hjt
            by_cases hc : E = 0 ∧ (j : Int) = x
            · rw [if_pos hc] at c1
              have hm0 : 0 ≤ m := addE_n (N := N) (w := x) (by rw [HE.out.1]; exact hc.1)
              obtain ⟨rfl, rfl⟩ := hc
              have mm : (m != m) = false := by simp
              have ml : ¬ m < 0 := by omega
              go_wp2
              go_roundw
              case rel => exact ⟨j + 1, by have := HJ.out; omega, by go_num, trivial⟩
              case measure => have := HJ.out; simp [intOf]; omega
            · rw [if_neg hc] at c1
              by_cases he : E = 0
              · subst he
                have hjx : ¬ (j : Int) = x := fun e => hc ⟨rfl, e⟩
                have hjx' : ((j : Int) == x) = false := by simpa using hjx
                clear hc
                go_wp2
                go_roundw
                case rel => exact ⟨j + 1, by have := HJ.out; omega, by go_num, trivial⟩
                case measure => have := HJ.out; simp [intOf]; omega
              · have he' : (E == 0) = false := by simpa using he
                clear hc
                go_wp2
                go_roundw
                case rel => exact ⟨j + 1, by have := HJ.out; omega, by go_num, trivial⟩
                case measure => have := HJ.out; simp [intOf]; omega
          · obtain rfl : j = 15 := by omega
            go_wp2
            go_ret
            exact ⟨rfl, K9.out.1⟩
end Go.Proofs.Ytammaaiknjgjbaa
