/-
  What a port says: the walk of message, for every port. And what follows from it here.
-/
import Derived.Test.YtlchejbggnbccaaGreatBbb
import Derived.Test.YtlchejbggnbccaaGreatB15a
import Derived.Deep.Cut
import Derived.Deep.CutRange
namespace Go.Proofs.YtlchejbggnbccaaGreat
set_option linter.unusedVariables false
set_option linter.unusedSimpArgs false
set_option maxRecDepth 4000
section
namespace S15
open Go.RowKit
abbrev q180_10_0 : Oper := { dst := some 41, op := Op.fieldAddr 74 (Operand.tmp 1) 32, type := 0, pos := "send.go:88", after := #[], guard := none }
abbrev q180_10_1 : Oper := { dst := some 42, op := Op.load 36 (Operand.tmp 41), type := 36, pos := "send.go:88", after := #[{ on := 0, ground := Ground.data }], guard := none }
abbrev q180_10_2 : Oper := { dst := some 43, op := Op.fieldAddr 74 (Operand.tmp 1) 34, type := 0, pos := "send.go:88", after := #[{ on := 5, ground := Ground.gcOnly Departure.lateStores }], guard := none }
abbrev q180_10_3 : Oper := { dst := some 44, op := Op.load 24 (Operand.tmp 43), type := 24, pos := "send.go:88", after := #[{ on := 2, ground := Ground.data }, { on := 5, ground := Ground.gcOnly Departure.lateStores }], guard := none }
abbrev q180_10_4 : Oper := { dst := some 45, op := Op.fieldAddr 46 (Operand.tmp 3) 8, type := 0, pos := "send.go:88", after := #[{ on := 0, ground := Ground.phase }, { on := 1, ground := Ground.phase }, { on := 2, ground := Ground.textOnly Departure.lateStores }, { on := 3, ground := Ground.textOnly Departure.lateStores }], guard := none }
abbrev q180_10_5 : Oper := { dst := none, op := Op.store 36 (Operand.tmp 45) (Operand.tmp 42), type := 0, pos := "send.go:88", after := #[{ on := 4, ground := Ground.data }, { on := 1, ground := Ground.data }, { on := 0, ground := Ground.phase }, { on := 1, ground := Ground.phase }, { on := 2, ground := Ground.textOnly Departure.lateStores }, { on := 3, ground := Ground.textOnly Departure.lateStores }], guard := none }
abbrev q180_10_6 : Oper := { dst := some 46, op := Op.fieldAddr 46 (Operand.tmp 3) 9, type := 0, pos := "send.go:88", after := #[{ on := 0, ground := Ground.phase }, { on := 1, ground := Ground.phase }, { on := 2, ground := Ground.phase }, { on := 3, ground := Ground.phase }, { on := 4, ground := Ground.phase }, { on := 5, ground := Ground.phase }], guard := none }
abbrev q180_10_7 : Oper := { dst := none, op := Op.store 24 (Operand.tmp 46) (Operand.tmp 44), type := 0, pos := "send.go:88", after := #[{ on := 6, ground := Ground.data }, { on := 3, ground := Ground.data }, { on := 5, ground := Ground.chain }, { on := 0, ground := Ground.phase }, { on := 1, ground := Ground.phase }, { on := 2, ground := Ground.phase }, { on := 3, ground := Ground.phase }, { on := 4, ground := Ground.phase }, { on := 5, ground := Ground.phase }], guard := none }
abbrev q180_6_0 : Oper := { dst := some 17, op := Op.fieldAddr 74 (Operand.tmp 1) 13, type := 0, pos := "send.go:82", after := #[], guard := none }
abbrev q180_6_1 : Oper := { dst := some 18, op := Op.load 4 (Operand.tmp 17), type := 4, pos := "send.go:82", after := #[{ on := 0, ground := Ground.data }], guard := none }
abbrev q180_6_2 : Oper := { dst := some 19, op := Op.fieldAddr 74 (Operand.tmp 1) 3, type := 0, pos := "send.go:82", after := #[{ on := 5, ground := Ground.gcOnly Departure.lateStores }], guard := none }
abbrev q180_6_3 : Oper := { dst := some 20, op := Op.load 4 (Operand.tmp 19), type := 4, pos := "send.go:82", after := #[{ on := 2, ground := Ground.data }, { on := 5, ground := Ground.gcOnly Departure.lateStores }], guard := none }
abbrev q180_6_4 : Oper := { dst := some 21, op := Op.fieldAddr 46 (Operand.tmp 3) 3, type := 0, pos := "send.go:82", after := #[{ on := 0, ground := Ground.phase }, { on := 1, ground := Ground.phase }, { on := 2, ground := Ground.textOnly Departure.lateStores }, { on := 3, ground := Ground.textOnly Departure.lateStores }], guard := none }
abbrev q180_6_5 : Oper := { dst := none, op := Op.store 4 (Operand.tmp 21) (Operand.tmp 18), type := 0, pos := "send.go:82", after := #[{ on := 4, ground := Ground.data }, { on := 1, ground := Ground.data }, { on := 0, ground := Ground.phase }, { on := 1, ground := Ground.phase }, { on := 2, ground := Ground.textOnly Departure.lateStores }, { on := 3, ground := Ground.textOnly Departure.lateStores }], guard := none }
abbrev q180_6_6 : Oper := { dst := some 22, op := Op.fieldAddr 46 (Operand.tmp 3) 6, type := 0, pos := "send.go:82", after := #[{ on := 0, ground := Ground.phase }, { on := 1, ground := Ground.phase }, { on := 2, ground := Ground.phase }, { on := 3, ground := Ground.phase }, { on := 4, ground := Ground.phase }, { on := 5, ground := Ground.phase }], guard := none }
abbrev q180_6_7 : Oper := { dst := none, op := Op.store 4 (Operand.tmp 22) (Operand.tmp 20), type := 0, pos := "send.go:82", after := #[{ on := 6, ground := Ground.data }, { on := 3, ground := Ground.data }, { on := 5, ground := Ground.chain }, { on := 0, ground := Ground.phase }, { on := 1, ground := Ground.phase }, { on := 2, ground := Ground.phase }, { on := 3, ground := Ground.phase }, { on := 4, ground := Ground.phase }, { on := 5, ground := Ground.phase }], guard := none }
abbrev q180_7_0 : Oper := { dst := some 23, op := Op.fieldAddr 74 (Operand.tmp 1) 10, type := 0, pos := "send.go:83", after := #[], guard := none }
abbrev q180_7_1 : Oper := { dst := some 24, op := Op.load 4 (Operand.tmp 23), type := 4, pos := "send.go:83", after := #[{ on := 0, ground := Ground.data }], guard := none }
abbrev q180_7_2 : Oper := { dst := some 25, op := Op.fieldAddr 74 (Operand.tmp 1) 8, type := 0, pos := "send.go:83", after := #[{ on := 5, ground := Ground.gcOnly Departure.lateStores }], guard := none }
abbrev q180_7_3 : Oper := { dst := some 26, op := Op.load 4 (Operand.tmp 25), type := 4, pos := "send.go:83", after := #[{ on := 2, ground := Ground.data }, { on := 5, ground := Ground.gcOnly Departure.lateStores }], guard := none }
abbrev q180_7_4 : Oper := { dst := some 27, op := Op.fieldAddr 46 (Operand.tmp 3) 4, type := 0, pos := "send.go:83", after := #[{ on := 0, ground := Ground.phase }, { on := 1, ground := Ground.phase }, { on := 2, ground := Ground.textOnly Departure.lateStores }, { on := 3, ground := Ground.textOnly Departure.lateStores }], guard := none }
abbrev q180_7_5 : Oper := { dst := none, op := Op.store 4 (Operand.tmp 27) (Operand.tmp 24), type := 0, pos := "send.go:83", after := #[{ on := 4, ground := Ground.data }, { on := 1, ground := Ground.data }, { on := 0, ground := Ground.phase }, { on := 1, ground := Ground.phase }, { on := 2, ground := Ground.textOnly Departure.lateStores }, { on := 3, ground := Ground.textOnly Departure.lateStores }], guard := none }
abbrev q180_7_6 : Oper := { dst := some 28, op := Op.fieldAddr 46 (Operand.tmp 3) 5, type := 0, pos := "send.go:83", after := #[{ on := 0, ground := Ground.phase }, { on := 1, ground := Ground.phase }, { on := 2, ground := Ground.phase }, { on := 3, ground := Ground.phase }, { on := 4, ground := Ground.phase }, { on := 5, ground := Ground.phase }], guard := none }
abbrev q180_7_7 : Oper := { dst := none, op := Op.store 4 (Operand.tmp 28) (Operand.tmp 26), type := 0, pos := "send.go:83", after := #[{ on := 6, ground := Ground.data }, { on := 3, ground := Ground.data }, { on := 5, ground := Ground.chain }, { on := 0, ground := Ground.phase }, { on := 1, ground := Ground.phase }, { on := 2, ground := Ground.phase }, { on := 3, ground := Ground.phase }, { on := 4, ground := Ground.phase }, { on := 5, ground := Ground.phase }], guard := none }

attribute [local go_sem ↓] ldP stP stB stU stW ldT stT st32 alP alM ldM stM ldV stV ldTm stTm bdMs
attribute [local go_sem] alP_run alM_run
theorem stR (x y : Value) : Instr.storeAt 44 x y = stS 44 x y := rfl
theorem infoR : (Tryz.prog.info? 44).map (·.size) = some 1 := by kernel_rfl
attribute [local go_sem ↓] stR
set_option maxHeartbeats 8000000 in
theorem msg_any (p : Pt) (w : World) : Calls Tryz.prog 180 #[.agg p.cs] w fun r w' => r = .returned (.agg (msgP p).cs) ∧ Below w.heap.size w w' := by
  obtain ⟨M, hM⟩ : ∃ z, msgP p = z := ⟨_, rfl⟩
  rw [hM]
  have EM : Hid (msgP p = M) := hM
  obtain ⟨W, hW, r0, r1, bW, zW⟩ := new_pm w p
  have l0 := r0.pld
  have H : Hid (RvAt W w.heap.size 74 p.cs ∧ RvAt W (w.heap.size + 1) 46 zeroM.cs ∧ Below w.heap.size w W ∧ W.heap.size = w.heap.size + 2) := ⟨r0, r1, bW, zW⟩
  obtain ⟨b26, h26⟩ : ∃ z, p.bt 26 = z := ⟨_, rfl⟩
  obtain ⟨N, h71⟩ : ∃ z, p.nm 71 = z := ⟨_, rfl⟩
  have H26 : Hid (p.bt 26 = b26) := h26
  have H71 : Hid (p.nm 71 = N) := h71
  clear r0 r1 bW zW hM h26 h71
  cases h23 : p.bt 23
  · by_cases h4 : p.nm 30 = 4
    · cases b26
      · by_cases h0 : N = 0
        · subst h0
          have hT : tcB p = false := by unfold tcB; rw [H71.out]; rfl
          have E9 : Hid (((((zeroM.setN 0 km0 1 wi1).setB 1 km1 false).setB 2 km2 false).put 8 (dsg p) mq8 ml8).put 12 (dsT p) mq12 ml12 = M) := by
            rw [← EM.out]; unfold msgP; rw [if_neg (by rw [h23]; decide), if_pos h4]; unfold cfgM; rw [show tcB p = false from hT, H26.out]; exact rfl
          clear hT EM
          have HKd : Hid (kinN p = 1) := by unfold kinN; rw [if_neg (by rw [h23]; decide), if_pos h4]; exact rfl
          go_enter Tryz.func180, Tryz.ntmps180
          go_wp2_with fail
          refine (kin_any p W).mono ?_
          rintro _ W1 ⟨rfl, b1⟩
          rw [HKd.out]
          obtain ⟨W2, s2, r2, b2, z2⟩ := var_m W1 (zeroM.setN 0 km0 1 wi1)
          have q2 := bdM_kind wi1 W1
          have hz := b1.size
          obtain ⟨Z, hZ⟩ : ∃ Z, W1.heap.size = Z := ⟨_, rfl⟩
          rw [hZ] at s2 r2
          have S2 : Hid (MS w W2 w.heap.size (w.heap.size + 1) Z p (zeroM.setN 0 km0 1 wi1)) := ⟨(H.out.1.below b1).below b2, (H.out.2.1.below b1).below b2, r2, below_over (below_over H.out.2.2.1 b1) b2, by omega, by have := H.out.2.2.2; omega, by have := H.out.2.2.2; omega⟩
          have c0 := S2.out.mv.num (j := 0) (k := .i64) rfl
          rw [show Row.nm _ 0 = (1 : Int) from rfl] at c0
          clear b1 b2 r2 z2 hz l0 HKd
          have c71 := S2.out.pv.num (j := 71) (k := .u8) rfl
          rw [H71.out] at c71
          obtain ⟨V7, e7, R7⟩ := S2.out.setB km1 false
          have c26 := R7.pv.bit (j := 26) rfl
          rw [H26.out] at c26
          have cK := R7.mv.num (j := 0) (k := .i64) rfl
          rw [show Row.nm _ 0 = (1 : Int) from rfl] at cK
          obtain ⟨V8, e8, R8⟩ := R7.setB km2 false
          have T7 : Hid (MS w V8 w.heap.size (w.heap.size + 1) Z p _) := R8
          clear R7 R8
          go_upto_region 10 with fail
          clear c71 c26 cK e7 e8
          obtain ⟨X9, hX⟩ : ∃ X0, World.drew V8 = X0 := ⟨_, rfl⟩
          have Y9 := T7.out.drew' hX
          obtain ⟨A9, a9, SA9⟩ := Y9.putV (dsg p)
          obtain ⟨B9, d9, SB9⟩ := SA9.putT (dsT p)
          have D10 : Hid (RvAt X9 w.heap.size 74 p.cs ∧ RvAt A9 w.heap.size 74 p.cs ∧ RvAt B9 w.heap.size 74 p.cs) := ⟨Y9.pv, SA9.pv, SB9.pv⟩
          have S9 : Hid (MS w B9 w.heap.size (w.heap.size + 1) Z p _) := SB9
          clear Y9 SA9 SB9
          refine wp_region_noPanic ?_
          refine wp_region_held_drew (S := fun w' => RvAt w' w.heap.size 74 p.cs) (by kernel_rfl) (by rw [hX]; exact D10.out.1) (fun hHeld => ?_)
          rw [hX] at hHeld ⊢
          clear hX
          refine wpAnyH_take (i := 0) (oi := q180_10_0) (v := ?_) rfl (by kernel_rfl) (by kernel_rfl) (by kernel_rfl) (fun _ _ _ h => h) (Or.inl ⟨by rfl, ?_⟩) hHeld ?_
          rotate_left
          · intro W_ hSw_
            have xv := hSw_.pdsg; have xt := hSw_.pdsT15; clear hSw_
            first | (go_simp; done) | (go_simp; with_reducible rfl)
          rotate_left
          refine wpAnyH_take (i := 1) (oi := q180_10_1) (v := ?_) rfl (by kernel_rfl) (by kernel_rfl) (by kernel_rfl) (fun _ _ _ h => h) (Or.inl ⟨by rfl, ?_⟩) hHeld ?_
          rotate_left
          · intro W_ hSw_
            have xv := hSw_.pdsg; have xt := hSw_.pdsT15; clear hSw_
            first | (go_simp; done) | (go_simp; with_reducible rfl)
          rotate_left
          refine wpAnyH_take (i := 2) (oi := q180_10_2) (v := ?_) rfl (by kernel_rfl) (by kernel_rfl) (by kernel_rfl) (fun _ _ _ h => h) (Or.inl ⟨by rfl, ?_⟩) hHeld ?_
          rotate_left
          · intro W_ hSw_
            have xv := hSw_.pdsg; have xt := hSw_.pdsT15; clear hSw_
            first | (go_simp; done) | (go_simp; with_reducible rfl)
          rotate_left
          refine wpAnyH_take (i := 3) (oi := q180_10_3) (v := ?_) rfl (by kernel_rfl) (by kernel_rfl) (by kernel_rfl) (fun _ _ _ h => h) (Or.inl ⟨by rfl, ?_⟩) hHeld ?_
          rotate_left
          · intro W_ hSw_
            have xv := hSw_.pdsg; have xt := hSw_.pdsT15; clear hSw_
            first | (go_simp; done) | (go_simp; with_reducible rfl)
          rotate_left
          refine wpAnyH_take (i := 4) (oi := q180_10_4) (v := ?_) rfl (by kernel_rfl) (by kernel_rfl) (by kernel_rfl) (fun _ _ _ h => h) (Or.inl ⟨by rfl, ?_⟩) hHeld ?_
          rotate_left
          · intro W_ hSw_
            have xv := hSw_.pdsg; have xt := hSw_.pdsT15; clear hSw_
            first | (go_simp; done) | (go_simp; with_reducible rfl)
          rotate_left
          try simp only [Act.put, List.setIfInBounds_toArray, List.set_cons_zero, List.set_cons_succ]
          refine wpAnyH_ready (rs := [5]) (by kernel_rfl) (by simp) ?_
          refine AllReadyH.cons (o := q180_10_5) rfl (fun K hK => ?_) AllReadyH.nil
          go_simp
          clear hHeld
          refine hK.out _ _ D10.out.2.1 (fun hHeld => ?_)
          clear hK K
          refine wpAnyH_take (i := 6) (oi := q180_10_6) (v := ?_) rfl (by kernel_rfl) (by kernel_rfl) (by kernel_rfl) (fun _ _ _ h => h) (Or.inl ⟨by rfl, ?_⟩) hHeld ?_
          rotate_left
          · intro W_ hSw_
            clear hSw_
            first | (go_simp; done) | (go_simp; with_reducible rfl)
          rotate_left
          try simp only [Act.put, List.setIfInBounds_toArray, List.set_cons_zero, List.set_cons_succ]
          refine wpAnyH_ready (rs := [7]) (by kernel_rfl) (by simp) ?_
          refine AllReadyH.cons (o := q180_10_7) rfl (fun K hK => ?_) AllReadyH.nil
          go_simp
          clear hHeld
          refine hK.out _ _ D10.out.2.2 (fun hHeld => ?_)
          clear hK K
          try simp only [Act.put, List.setIfInBounds_toArray, List.set_cons_zero, List.set_cons_succ]
          refine wpAnyH_done (by kernel_rfl) ?_ _
          refine NoPanic.normal ?_
          clear hHeld
          clear a9 d9 D10
          have lm := S9.out.mv.mld
          obtain ⟨U, sU, h1, h2⟩ := S9.out.tell _
          have G : Hid (RvAt U (w.heap.size + 1) 46 M.cs ∧ Below w.heap.size w U) := by rw [← E9.out]; exact ⟨h1, h2⟩
          clear h1 h2 S9
          go_wp2
          refine bodyPost_ret (results_row rtM Tryz.results180 _ _ _ _ rfl G.out.1 (by rw [Row.csize, lenM])) rfl ?_
          exact ⟨rfl, G.out.2⟩
        · have x0 : (N == 0) = false := beq_eq_false_iff_ne.2 h0
          have y0 : (N != 0) = true := by simp [h0]
          have hT : tcB p = true := by unfold tcB; rw [H71.out, x0]; rfl
          have E9 : Hid (((((zeroM.setN 0 km0 1 wi1).setB 1 km1 true).setB 2 km2 false).put 8 (dsg p) mq8 ml8).put 12 (dsT p) mq12 ml12 = M) := by
            rw [← EM.out]; unfold msgP; rw [if_neg (by rw [h23]; decide), if_pos h4]; unfold cfgM; rw [show tcB p = true from hT, H26.out]; exact rfl
          clear hT EM h0
          have HKd : Hid (kinN p = 1) := by unfold kinN; rw [if_neg (by rw [h23]; decide), if_pos h4]; exact rfl
          go_enter Tryz.func180, Tryz.ntmps180
          go_wp2_with fail
          refine (kin_any p W).mono ?_
          rintro _ W1 ⟨rfl, b1⟩
          rw [HKd.out]
          obtain ⟨W2, s2, r2, b2, z2⟩ := var_m W1 (zeroM.setN 0 km0 1 wi1)
          have q2 := bdM_kind wi1 W1
          have hz := b1.size
          obtain ⟨Z, hZ⟩ : ∃ Z, W1.heap.size = Z := ⟨_, rfl⟩
          rw [hZ] at s2 r2
          have S2 : Hid (MS w W2 w.heap.size (w.heap.size + 1) Z p (zeroM.setN 0 km0 1 wi1)) := ⟨(H.out.1.below b1).below b2, (H.out.2.1.below b1).below b2, r2, below_over (below_over H.out.2.2.1 b1) b2, by omega, by have := H.out.2.2.2; omega, by have := H.out.2.2.2; omega⟩
          have c0 := S2.out.mv.num (j := 0) (k := .i64) rfl
          rw [show Row.nm _ 0 = (1 : Int) from rfl] at c0
          clear b1 b2 r2 z2 hz l0 HKd
          have c71 := S2.out.pv.num (j := 71) (k := .u8) rfl
          rw [H71.out] at c71
          obtain ⟨V7, e7, R7⟩ := S2.out.setB km1 true
          have c26 := R7.pv.bit (j := 26) rfl
          rw [H26.out] at c26
          have cK := R7.mv.num (j := 0) (k := .i64) rfl
          rw [show Row.nm _ 0 = (1 : Int) from rfl] at cK
          obtain ⟨V8, e8, R8⟩ := R7.setB km2 false
          have T7 : Hid (MS w V8 w.heap.size (w.heap.size + 1) Z p _) := R8
          clear R7 R8
          go_upto_region 10 with fail
          clear c71 c26 cK e7 e8
          obtain ⟨X9, hX⟩ : ∃ X0, World.drew V8 = X0 := ⟨_, rfl⟩
          have Y9 := T7.out.drew' hX
          obtain ⟨A9, a9, SA9⟩ := Y9.putV (dsg p)
          obtain ⟨B9, d9, SB9⟩ := SA9.putT (dsT p)
          have D10 : Hid (RvAt X9 w.heap.size 74 p.cs ∧ RvAt A9 w.heap.size 74 p.cs ∧ RvAt B9 w.heap.size 74 p.cs) := ⟨Y9.pv, SA9.pv, SB9.pv⟩
          have S9 : Hid (MS w B9 w.heap.size (w.heap.size + 1) Z p _) := SB9
          clear Y9 SA9 SB9
          refine wp_region_noPanic ?_
          refine wp_region_held_drew (S := fun w' => RvAt w' w.heap.size 74 p.cs) (by kernel_rfl) (by rw [hX]; exact D10.out.1) (fun hHeld => ?_)
          rw [hX] at hHeld ⊢
          clear hX
          refine wpAnyH_take (i := 0) (oi := q180_10_0) (v := ?_) rfl (by kernel_rfl) (by kernel_rfl) (by kernel_rfl) (fun _ _ _ h => h) (Or.inl ⟨by rfl, ?_⟩) hHeld ?_
          rotate_left
          · intro W_ hSw_
            have xv := hSw_.pdsg; have xt := hSw_.pdsT15; clear hSw_
            first | (go_simp; done) | (go_simp; with_reducible rfl)
          rotate_left
          refine wpAnyH_take (i := 1) (oi := q180_10_1) (v := ?_) rfl (by kernel_rfl) (by kernel_rfl) (by kernel_rfl) (fun _ _ _ h => h) (Or.inl ⟨by rfl, ?_⟩) hHeld ?_
          rotate_left
          · intro W_ hSw_
            have xv := hSw_.pdsg; have xt := hSw_.pdsT15; clear hSw_
            first | (go_simp; done) | (go_simp; with_reducible rfl)
          rotate_left
          refine wpAnyH_take (i := 2) (oi := q180_10_2) (v := ?_) rfl (by kernel_rfl) (by kernel_rfl) (by kernel_rfl) (fun _ _ _ h => h) (Or.inl ⟨by rfl, ?_⟩) hHeld ?_
          rotate_left
          · intro W_ hSw_
            have xv := hSw_.pdsg; have xt := hSw_.pdsT15; clear hSw_
            first | (go_simp; done) | (go_simp; with_reducible rfl)
          rotate_left
          refine wpAnyH_take (i := 3) (oi := q180_10_3) (v := ?_) rfl (by kernel_rfl) (by kernel_rfl) (by kernel_rfl) (fun _ _ _ h => h) (Or.inl ⟨by rfl, ?_⟩) hHeld ?_
          rotate_left
          · intro W_ hSw_
            have xv := hSw_.pdsg; have xt := hSw_.pdsT15; clear hSw_
            first | (go_simp; done) | (go_simp; with_reducible rfl)
          rotate_left
          refine wpAnyH_take (i := 4) (oi := q180_10_4) (v := ?_) rfl (by kernel_rfl) (by kernel_rfl) (by kernel_rfl) (fun _ _ _ h => h) (Or.inl ⟨by rfl, ?_⟩) hHeld ?_
          rotate_left
          · intro W_ hSw_
            have xv := hSw_.pdsg; have xt := hSw_.pdsT15; clear hSw_
            first | (go_simp; done) | (go_simp; with_reducible rfl)
          rotate_left
          try simp only [Act.put, List.setIfInBounds_toArray, List.set_cons_zero, List.set_cons_succ]
          refine wpAnyH_ready (rs := [5]) (by kernel_rfl) (by simp) ?_
          refine AllReadyH.cons (o := q180_10_5) rfl (fun K hK => ?_) AllReadyH.nil
          go_simp
          clear hHeld
          refine hK.out _ _ D10.out.2.1 (fun hHeld => ?_)
          clear hK K
          refine wpAnyH_take (i := 6) (oi := q180_10_6) (v := ?_) rfl (by kernel_rfl) (by kernel_rfl) (by kernel_rfl) (fun _ _ _ h => h) (Or.inl ⟨by rfl, ?_⟩) hHeld ?_
          rotate_left
          · intro W_ hSw_
            clear hSw_
            first | (go_simp; done) | (go_simp; with_reducible rfl)
          rotate_left
          try simp only [Act.put, List.setIfInBounds_toArray, List.set_cons_zero, List.set_cons_succ]
          refine wpAnyH_ready (rs := [7]) (by kernel_rfl) (by simp) ?_
          refine AllReadyH.cons (o := q180_10_7) rfl (fun K hK => ?_) AllReadyH.nil
          go_simp
          clear hHeld
          refine hK.out _ _ D10.out.2.2 (fun hHeld => ?_)
          clear hK K
          try simp only [Act.put, List.setIfInBounds_toArray, List.set_cons_zero, List.set_cons_succ]
          refine wpAnyH_done (by kernel_rfl) ?_ _
          refine NoPanic.normal ?_
          clear hHeld
          clear a9 d9 D10
          have lm := S9.out.mv.mld
          obtain ⟨U, sU, h1, h2⟩ := S9.out.tell _
          have G : Hid (RvAt U (w.heap.size + 1) 46 M.cs ∧ Below w.heap.size w U) := by rw [← E9.out]; exact ⟨h1, h2⟩
          clear h1 h2 S9
          go_wp2
          refine bodyPost_ret (results_row rtM Tryz.results180 _ _ _ _ rfl G.out.1 (by rw [Row.csize, lenM])) rfl ?_
          exact ⟨rfl, G.out.2⟩
      · by_cases h0 : N = 0
        · subst h0
          have hT : tcB p = false := by unfold tcB; rw [H71.out]; rfl
          have E9 : Hid (((((zeroM.setN 0 km0 1 wi1).setB 1 km1 false).setB 2 km2 true).put 8 (dsg p) mq8 ml8).put 12 (dsT p) mq12 ml12 = M) := by
            rw [← EM.out]; unfold msgP; rw [if_neg (by rw [h23]; decide), if_pos h4]; unfold cfgM; rw [show tcB p = false from hT, H26.out]; exact rfl
          clear hT EM
          have HKd : Hid (kinN p = 1) := by unfold kinN; rw [if_neg (by rw [h23]; decide), if_pos h4]; exact rfl
          go_enter Tryz.func180, Tryz.ntmps180
          go_wp2_with fail
          refine (kin_any p W).mono ?_
          rintro _ W1 ⟨rfl, b1⟩
          rw [HKd.out]
          obtain ⟨W2, s2, r2, b2, z2⟩ := var_m W1 (zeroM.setN 0 km0 1 wi1)
          have q2 := bdM_kind wi1 W1
          have hz := b1.size
          obtain ⟨Z, hZ⟩ : ∃ Z, W1.heap.size = Z := ⟨_, rfl⟩
          rw [hZ] at s2 r2
          have S2 : Hid (MS w W2 w.heap.size (w.heap.size + 1) Z p (zeroM.setN 0 km0 1 wi1)) := ⟨(H.out.1.below b1).below b2, (H.out.2.1.below b1).below b2, r2, below_over (below_over H.out.2.2.1 b1) b2, by omega, by have := H.out.2.2.2; omega, by have := H.out.2.2.2; omega⟩
          have c0 := S2.out.mv.num (j := 0) (k := .i64) rfl
          rw [show Row.nm _ 0 = (1 : Int) from rfl] at c0
          clear b1 b2 r2 z2 hz l0 HKd
          have c71 := S2.out.pv.num (j := 71) (k := .u8) rfl
          rw [H71.out] at c71
          obtain ⟨V7, e7, R7⟩ := S2.out.setB km1 false
          have c26 := R7.pv.bit (j := 26) rfl
          rw [H26.out] at c26
          have cK := R7.mv.num (j := 0) (k := .i64) rfl
          rw [show Row.nm _ 0 = (1 : Int) from rfl] at cK
          obtain ⟨V8, e8, R8⟩ := R7.setB km2 true
          have T7 : Hid (MS w V8 w.heap.size (w.heap.size + 1) Z p _) := R8
          clear R7 R8
          go_upto_region 10 with fail
          clear c71 c26 cK e7 e8
          obtain ⟨X9, hX⟩ : ∃ X0, World.drew V8 = X0 := ⟨_, rfl⟩
          have Y9 := T7.out.drew' hX
          obtain ⟨A9, a9, SA9⟩ := Y9.putV (dsg p)
          obtain ⟨B9, d9, SB9⟩ := SA9.putT (dsT p)
          have D10 : Hid (RvAt X9 w.heap.size 74 p.cs ∧ RvAt A9 w.heap.size 74 p.cs ∧ RvAt B9 w.heap.size 74 p.cs) := ⟨Y9.pv, SA9.pv, SB9.pv⟩
          have S9 : Hid (MS w B9 w.heap.size (w.heap.size + 1) Z p _) := SB9
          clear Y9 SA9 SB9
          refine wp_region_noPanic ?_
          refine wp_region_held_drew (S := fun w' => RvAt w' w.heap.size 74 p.cs) (by kernel_rfl) (by rw [hX]; exact D10.out.1) (fun hHeld => ?_)
          rw [hX] at hHeld ⊢
          clear hX
          refine wpAnyH_take (i := 0) (oi := q180_10_0) (v := ?_) rfl (by kernel_rfl) (by kernel_rfl) (by kernel_rfl) (fun _ _ _ h => h) (Or.inl ⟨by rfl, ?_⟩) hHeld ?_
          rotate_left
          · intro W_ hSw_
            have xv := hSw_.pdsg; have xt := hSw_.pdsT15; clear hSw_
            first | (go_simp; done) | (go_simp; with_reducible rfl)
          rotate_left
          refine wpAnyH_take (i := 1) (oi := q180_10_1) (v := ?_) rfl (by kernel_rfl) (by kernel_rfl) (by kernel_rfl) (fun _ _ _ h => h) (Or.inl ⟨by rfl, ?_⟩) hHeld ?_
          rotate_left
          · intro W_ hSw_
            have xv := hSw_.pdsg; have xt := hSw_.pdsT15; clear hSw_
            first | (go_simp; done) | (go_simp; with_reducible rfl)
          rotate_left
          refine wpAnyH_take (i := 2) (oi := q180_10_2) (v := ?_) rfl (by kernel_rfl) (by kernel_rfl) (by kernel_rfl) (fun _ _ _ h => h) (Or.inl ⟨by rfl, ?_⟩) hHeld ?_
          rotate_left
          · intro W_ hSw_
            have xv := hSw_.pdsg; have xt := hSw_.pdsT15; clear hSw_
            first | (go_simp; done) | (go_simp; with_reducible rfl)
          rotate_left
          refine wpAnyH_take (i := 3) (oi := q180_10_3) (v := ?_) rfl (by kernel_rfl) (by kernel_rfl) (by kernel_rfl) (fun _ _ _ h => h) (Or.inl ⟨by rfl, ?_⟩) hHeld ?_
          rotate_left
          · intro W_ hSw_
            have xv := hSw_.pdsg; have xt := hSw_.pdsT15; clear hSw_
            first | (go_simp; done) | (go_simp; with_reducible rfl)
          rotate_left
          refine wpAnyH_take (i := 4) (oi := q180_10_4) (v := ?_) rfl (by kernel_rfl) (by kernel_rfl) (by kernel_rfl) (fun _ _ _ h => h) (Or.inl ⟨by rfl, ?_⟩) hHeld ?_
          rotate_left
          · intro W_ hSw_
            have xv := hSw_.pdsg; have xt := hSw_.pdsT15; clear hSw_
            first | (go_simp; done) | (go_simp; with_reducible rfl)
          rotate_left
          try simp only [Act.put, List.setIfInBounds_toArray, List.set_cons_zero, List.set_cons_succ]
          refine wpAnyH_ready (rs := [5]) (by kernel_rfl) (by simp) ?_
          refine AllReadyH.cons (o := q180_10_5) rfl (fun K hK => ?_) AllReadyH.nil
          go_simp
          clear hHeld
          refine hK.out _ _ D10.out.2.1 (fun hHeld => ?_)
          clear hK K
          refine wpAnyH_take (i := 6) (oi := q180_10_6) (v := ?_) rfl (by kernel_rfl) (by kernel_rfl) (by kernel_rfl) (fun _ _ _ h => h) (Or.inl ⟨by rfl, ?_⟩) hHeld ?_
          rotate_left
          · intro W_ hSw_
            clear hSw_
            first | (go_simp; done) | (go_simp; with_reducible rfl)
          rotate_left
          try simp only [Act.put, List.setIfInBounds_toArray, List.set_cons_zero, List.set_cons_succ]
          refine wpAnyH_ready (rs := [7]) (by kernel_rfl) (by simp) ?_
          refine AllReadyH.cons (o := q180_10_7) rfl (fun K hK => ?_) AllReadyH.nil
          go_simp
          clear hHeld
          refine hK.out _ _ D10.out.2.2 (fun hHeld => ?_)
          clear hK K
          try simp only [Act.put, List.setIfInBounds_toArray, List.set_cons_zero, List.set_cons_succ]
          refine wpAnyH_done (by kernel_rfl) ?_ _
          refine NoPanic.normal ?_
          clear hHeld
          clear a9 d9 D10
          have lm := S9.out.mv.mld
          obtain ⟨U, sU, h1, h2⟩ := S9.out.tell _
          have G : Hid (RvAt U (w.heap.size + 1) 46 M.cs ∧ Below w.heap.size w U) := by rw [← E9.out]; exact ⟨h1, h2⟩
          clear h1 h2 S9
          go_wp2
          refine bodyPost_ret (results_row rtM Tryz.results180 _ _ _ _ rfl G.out.1 (by rw [Row.csize, lenM])) rfl ?_
          exact ⟨rfl, G.out.2⟩
        · have x0 : (N == 0) = false := beq_eq_false_iff_ne.2 h0
          have y0 : (N != 0) = true := by simp [h0]
          have hT : tcB p = true := by unfold tcB; rw [H71.out, x0]; rfl
          have E9 : Hid (((((zeroM.setN 0 km0 1 wi1).setB 1 km1 true).setB 2 km2 true).put 8 (dsg p) mq8 ml8).put 12 (dsT p) mq12 ml12 = M) := by
            rw [← EM.out]; unfold msgP; rw [if_neg (by rw [h23]; decide), if_pos h4]; unfold cfgM; rw [show tcB p = true from hT, H26.out]; exact rfl
          clear hT EM h0
          have HKd : Hid (kinN p = 1) := by unfold kinN; rw [if_neg (by rw [h23]; decide), if_pos h4]; exact rfl
          go_enter Tryz.func180, Tryz.ntmps180
          go_wp2_with fail
          refine (kin_any p W).mono ?_
          rintro _ W1 ⟨rfl, b1⟩
          rw [HKd.out]
          obtain ⟨W2, s2, r2, b2, z2⟩ := var_m W1 (zeroM.setN 0 km0 1 wi1)
          have q2 := bdM_kind wi1 W1
          have hz := b1.size
          obtain ⟨Z, hZ⟩ : ∃ Z, W1.heap.size = Z := ⟨_, rfl⟩
          rw [hZ] at s2 r2
          have S2 : Hid (MS w W2 w.heap.size (w.heap.size + 1) Z p (zeroM.setN 0 km0 1 wi1)) := ⟨(H.out.1.below b1).below b2, (H.out.2.1.below b1).below b2, r2, below_over (below_over H.out.2.2.1 b1) b2, by omega, by have := H.out.2.2.2; omega, by have := H.out.2.2.2; omega⟩
          have c0 := S2.out.mv.num (j := 0) (k := .i64) rfl
          rw [show Row.nm _ 0 = (1 : Int) from rfl] at c0
          clear b1 b2 r2 z2 hz l0 HKd
          have c71 := S2.out.pv.num (j := 71) (k := .u8) rfl
          rw [H71.out] at c71
          obtain ⟨V7, e7, R7⟩ := S2.out.setB km1 true
          have c26 := R7.pv.bit (j := 26) rfl
          rw [H26.out] at c26
          have cK := R7.mv.num (j := 0) (k := .i64) rfl
          rw [show Row.nm _ 0 = (1 : Int) from rfl] at cK
          obtain ⟨V8, e8, R8⟩ := R7.setB km2 true
          have T7 : Hid (MS w V8 w.heap.size (w.heap.size + 1) Z p _) := R8
          clear R7 R8
          go_upto_region 10 with fail
          clear c71 c26 cK e7 e8
          obtain ⟨X9, hX⟩ : ∃ X0, World.drew V8 = X0 := ⟨_, rfl⟩
          have Y9 := T7.out.drew' hX
          obtain ⟨A9, a9, SA9⟩ := Y9.putV (dsg p)
          obtain ⟨B9, d9, SB9⟩ := SA9.putT (dsT p)
          have D10 : Hid (RvAt X9 w.heap.size 74 p.cs ∧ RvAt A9 w.heap.size 74 p.cs ∧ RvAt B9 w.heap.size 74 p.cs) := ⟨Y9.pv, SA9.pv, SB9.pv⟩
          have S9 : Hid (MS w B9 w.heap.size (w.heap.size + 1) Z p _) := SB9
          clear Y9 SA9 SB9
          refine wp_region_noPanic ?_
          refine wp_region_held_drew (S := fun w' => RvAt w' w.heap.size 74 p.cs) (by kernel_rfl) (by rw [hX]; exact D10.out.1) (fun hHeld => ?_)
          rw [hX] at hHeld ⊢
          clear hX
          refine wpAnyH_take (i := 0) (oi := q180_10_0) (v := ?_) rfl (by kernel_rfl) (by kernel_rfl) (by kernel_rfl) (fun _ _ _ h => h) (Or.inl ⟨by rfl, ?_⟩) hHeld ?_
          rotate_left
          · intro W_ hSw_
            have xv := hSw_.pdsg; have xt := hSw_.pdsT15; clear hSw_
            first | (go_simp; done) | (go_simp; with_reducible rfl)
          rotate_left
          refine wpAnyH_take (i := 1) (oi := q180_10_1) (v := ?_) rfl (by kernel_rfl) (by kernel_rfl) (by kernel_rfl) (fun _ _ _ h => h) (Or.inl ⟨by rfl, ?_⟩) hHeld ?_
          rotate_left
          · intro W_ hSw_
            have xv := hSw_.pdsg; have xt := hSw_.pdsT15; clear hSw_
            first | (go_simp; done) | (go_simp; with_reducible rfl)
          rotate_left
          refine wpAnyH_take (i := 2) (oi := q180_10_2) (v := ?_) rfl (by kernel_rfl) (by kernel_rfl) (by kernel_rfl) (fun _ _ _ h => h) (Or.inl ⟨by rfl, ?_⟩) hHeld ?_
          rotate_left
          · intro W_ hSw_
            have xv := hSw_.pdsg; have xt := hSw_.pdsT15; clear hSw_
            first | (go_simp; done) | (go_simp; with_reducible rfl)
          rotate_left
          refine wpAnyH_take (i := 3) (oi := q180_10_3) (v := ?_) rfl (by kernel_rfl) (by kernel_rfl) (by kernel_rfl) (fun _ _ _ h => h) (Or.inl ⟨by rfl, ?_⟩) hHeld ?_
          rotate_left
          · intro W_ hSw_
            have xv := hSw_.pdsg; have xt := hSw_.pdsT15; clear hSw_
            first | (go_simp; done) | (go_simp; with_reducible rfl)
          rotate_left
          refine wpAnyH_take (i := 4) (oi := q180_10_4) (v := ?_) rfl (by kernel_rfl) (by kernel_rfl) (by kernel_rfl) (fun _ _ _ h => h) (Or.inl ⟨by rfl, ?_⟩) hHeld ?_
          rotate_left
          · intro W_ hSw_
            have xv := hSw_.pdsg; have xt := hSw_.pdsT15; clear hSw_
            first | (go_simp; done) | (go_simp; with_reducible rfl)
          rotate_left
          try simp only [Act.put, List.setIfInBounds_toArray, List.set_cons_zero, List.set_cons_succ]
          refine wpAnyH_ready (rs := [5]) (by kernel_rfl) (by simp) ?_
          refine AllReadyH.cons (o := q180_10_5) rfl (fun K hK => ?_) AllReadyH.nil
          go_simp
          clear hHeld
          refine hK.out _ _ D10.out.2.1 (fun hHeld => ?_)
          clear hK K
          refine wpAnyH_take (i := 6) (oi := q180_10_6) (v := ?_) rfl (by kernel_rfl) (by kernel_rfl) (by kernel_rfl) (fun _ _ _ h => h) (Or.inl ⟨by rfl, ?_⟩) hHeld ?_
          rotate_left
          · intro W_ hSw_
            clear hSw_
            first | (go_simp; done) | (go_simp; with_reducible rfl)
          rotate_left
          try simp only [Act.put, List.setIfInBounds_toArray, List.set_cons_zero, List.set_cons_succ]
          refine wpAnyH_ready (rs := [7]) (by kernel_rfl) (by simp) ?_
          refine AllReadyH.cons (o := q180_10_7) rfl (fun K hK => ?_) AllReadyH.nil
          go_simp
          clear hHeld
          refine hK.out _ _ D10.out.2.2 (fun hHeld => ?_)
          clear hK K
          try simp only [Act.put, List.setIfInBounds_toArray, List.set_cons_zero, List.set_cons_succ]
          refine wpAnyH_done (by kernel_rfl) ?_ _
          refine NoPanic.normal ?_
          clear hHeld
          clear a9 d9 D10
          have lm := S9.out.mv.mld
          obtain ⟨U, sU, h1, h2⟩ := S9.out.tell _
          have G : Hid (RvAt U (w.heap.size + 1) 46 M.cs ∧ Below w.heap.size w U) := by rw [← E9.out]; exact ⟨h1, h2⟩
          clear h1 h2 S9
          go_wp2
          refine bodyPost_ret (results_row rtM Tryz.results180 _ _ _ _ rfl G.out.1 (by rw [Row.csize, lenM])) rfl ?_
          exact ⟨rfl, G.out.2⟩
    · have E9 : Hid (tcnM = M) := by rw [← EM.out]; unfold msgP; rw [if_neg (by rw [h23]; decide), if_neg h4]; exact rfl
      have HKd : Hid (kinN p = 2) := by unfold kinN; rw [if_neg (by rw [h23]; decide), if_neg h4]; exact rfl
      go_enter Tryz.func180, Tryz.ntmps180
      go_wp2_with fail
      refine (kin_any p W).mono ?_
      rintro _ W1 ⟨rfl, b1⟩
      rw [HKd.out]
      obtain ⟨W2, s2, r2, b2, z2⟩ := var_m W1 (zeroM.setN 0 km0 2 wi2)
      have q2 := bdM_kind wi2 W1
      have hz := b1.size
      obtain ⟨Z, hZ⟩ : ∃ Z, W1.heap.size = Z := ⟨_, rfl⟩
      rw [hZ] at s2 r2
      have S2 : Hid (MS w W2 w.heap.size (w.heap.size + 1) Z p (zeroM.setN 0 km0 2 wi2)) := ⟨(H.out.1.below b1).below b2, (H.out.2.1.below b1).below b2, r2, below_over (below_over H.out.2.2.1 b1) b2, by omega, by have := H.out.2.2.2; omega, by have := H.out.2.2.2; omega⟩
      have c0 := S2.out.mv.num (j := 0) (k := .i64) rfl
      rw [show Row.nm _ 0 = (2 : Int) from rfl] at c0
      clear b1 b2 r2 z2 hz l0 HKd
      have lm := S2.out.mv.mld
      obtain ⟨U, sU, h1, h2⟩ := S2.out.tell tcnM
      have G : Hid (RvAt U (w.heap.size + 1) 46 M.cs ∧ Below w.heap.size w U) := by rw [← E9.out]; exact ⟨h1, h2⟩
      rw [show (zeroM.setN 0 km0 2 wi2).cs = tcnM.cs from rfl] at lm
      clear h1 h2 S2 h4 h23
      go_wp2
      refine bodyPost_ret (results_row rtM Tryz.results180 _ _ _ _ rfl G.out.1 (by rw [Row.csize, lenM])) rfl ?_
      exact ⟨rfl, G.out.2⟩
  · cases b26
    · by_cases h0 : N = 0
      · subst h0
        have hT : tcB p = false := by unfold tcB; rw [H71.out]; rfl
        have E9 : Hid (((((((((((zeroM.setN 0 km0 3 wi3).setN 7 km7 (rolN (p.nm 30)) (rol_wf _)).setB 3 km3 (p.bt 13)).setB 6 km6 (p.bt 3)).setB 4 km4 (p.bt 10)).setB 5 km5 (p.bt 8)).setB 1 km1 false).setB 2 km2 false).put 8 (dsg p) mq8 ml8).put 12 (dsT p) mq12 ml12) = M) := by
          rw [← EM.out]; unfold msgP; rw [if_pos h23]; unfold rstM; rw [show tcB p = false from hT]; exact rfl
        clear hT EM
        have HKd : Hid (kinN p = 3) := by unfold kinN; rw [if_pos h23]; exact rfl
        go_enter Tryz.func180, Tryz.ntmps180
        go_wp2_with fail
        refine (kin_any p W).mono ?_
        rintro _ W1 ⟨rfl, b1⟩
        rw [HKd.out]
        obtain ⟨W2, s2, r2, b2, z2⟩ := var_m W1 (zeroM.setN 0 km0 3 wi3)
        have q2 := bdM_kind wi3 W1
        have hz := b1.size
        obtain ⟨Z, hZ⟩ : ∃ Z, W1.heap.size = Z := ⟨_, rfl⟩
        rw [hZ] at s2 r2
        have S2 : Hid (MS w W2 w.heap.size (w.heap.size + 1) Z p (zeroM.setN 0 km0 3 wi3)) := ⟨(H.out.1.below b1).below b2, (H.out.2.1.below b1).below b2, r2, below_over (below_over H.out.2.2.1 b1) b2, by omega, by have := H.out.2.2.2; omega, by have := H.out.2.2.2; omega⟩
        have c0 := S2.out.mv.num (j := 0) (k := .i64) rfl
        rw [show Row.nm _ 0 = (3 : Int) from rfl] at c0
        clear b1 b2 r2 z2 hz l0 HKd
        have c30 := S2.out.pv.num (j := 30) (k := .i64) rfl
        go_wp2_with fail
        refine (tro_any (p.nm 30) W2).mono ?_
        rintro _ W3 ⟨rfl, b3⟩
        obtain ⟨V4, e4, R4⟩ := (S2.out.below b3).setN (t := 44) infoR km7 (rol_wf (p.nm 30))
        have S4 : Hid (MS w V4 w.heap.size (w.heap.size + 1) Z p _) := R4
        clear R4 b3 c0 c30
        go_upto_region 6 with fail
        clear e4
        obtain ⟨X5, hX⟩ : ∃ X0, World.drew V4 = X0 := ⟨_, rfl⟩
        have Y5 := S4.out.drew' hX
        obtain ⟨A5, a5, SA5⟩ := Y5.setB km3 (p.bt 13)
        obtain ⟨B5, d5, SB5⟩ := SA5.setB km6 (p.bt 3)
        have D6 : Hid (RvAt X5 w.heap.size 74 p.cs ∧ RvAt A5 w.heap.size 74 p.cs ∧ RvAt B5 w.heap.size 74 p.cs) := ⟨Y5.pv, SA5.pv, SB5.pv⟩
        have S5 : Hid (MS w B5 w.heap.size (w.heap.size + 1) Z p _) := SB5
        clear Y5 SA5 SB5
        refine wp_region_noPanic ?_
        refine wp_region_held_drew (S := fun w' => RvAt w' w.heap.size 74 p.cs) (by kernel_rfl) (by rw [hX]; exact D6.out.1) (fun hHeld => ?_)
        rw [hX] at hHeld ⊢
        clear hX
        refine wpAnyH_take (i := 0) (oi := q180_6_0) (v := ?_) rfl (by kernel_rfl) (by kernel_rfl) (by kernel_rfl) (fun _ _ _ h => h) (Or.inl ⟨by rfl, ?_⟩) hHeld ?_
        rotate_left
        · intro W_ hSw_
          have x13 := hSw_.bit (j := 13) rfl; have x3 := hSw_.bit (j := 3) rfl; clear hSw_
          first | (go_simp; done) | (go_simp; with_reducible rfl)
        rotate_left
        refine wpAnyH_take (i := 1) (oi := q180_6_1) (v := ?_) rfl (by kernel_rfl) (by kernel_rfl) (by kernel_rfl) (fun _ _ _ h => h) (Or.inl ⟨by rfl, ?_⟩) hHeld ?_
        rotate_left
        · intro W_ hSw_
          have x13 := hSw_.bit (j := 13) rfl; have x3 := hSw_.bit (j := 3) rfl; clear hSw_
          first | (go_simp; done) | (go_simp; with_reducible rfl)
        rotate_left
        refine wpAnyH_take (i := 2) (oi := q180_6_2) (v := ?_) rfl (by kernel_rfl) (by kernel_rfl) (by kernel_rfl) (fun _ _ _ h => h) (Or.inl ⟨by rfl, ?_⟩) hHeld ?_
        rotate_left
        · intro W_ hSw_
          have x13 := hSw_.bit (j := 13) rfl; have x3 := hSw_.bit (j := 3) rfl; clear hSw_
          first | (go_simp; done) | (go_simp; with_reducible rfl)
        rotate_left
        refine wpAnyH_take (i := 3) (oi := q180_6_3) (v := ?_) rfl (by kernel_rfl) (by kernel_rfl) (by kernel_rfl) (fun _ _ _ h => h) (Or.inl ⟨by rfl, ?_⟩) hHeld ?_
        rotate_left
        · intro W_ hSw_
          have x13 := hSw_.bit (j := 13) rfl; have x3 := hSw_.bit (j := 3) rfl; clear hSw_
          first | (go_simp; done) | (go_simp; with_reducible rfl)
        rotate_left
        refine wpAnyH_take (i := 4) (oi := q180_6_4) (v := ?_) rfl (by kernel_rfl) (by kernel_rfl) (by kernel_rfl) (fun _ _ _ h => h) (Or.inl ⟨by rfl, ?_⟩) hHeld ?_
        rotate_left
        · intro W_ hSw_
          have x13 := hSw_.bit (j := 13) rfl; have x3 := hSw_.bit (j := 3) rfl; clear hSw_
          first | (go_simp; done) | (go_simp; with_reducible rfl)
        rotate_left
        try simp only [Act.put, List.setIfInBounds_toArray, List.set_cons_zero, List.set_cons_succ]
        refine wpAnyH_ready (rs := [5]) (by kernel_rfl) (by simp) ?_
        refine AllReadyH.cons (o := q180_6_5) rfl (fun K hK => ?_) AllReadyH.nil
        go_simp
        clear hHeld
        refine hK.out _ _ D6.out.2.1 (fun hHeld => ?_)
        clear hK K
        refine wpAnyH_take (i := 6) (oi := q180_6_6) (v := ?_) rfl (by kernel_rfl) (by kernel_rfl) (by kernel_rfl) (fun _ _ _ h => h) (Or.inl ⟨by rfl, ?_⟩) hHeld ?_
        rotate_left
        · intro W_ hSw_
          clear hSw_
          first | (go_simp; done) | (go_simp; with_reducible rfl)
        rotate_left
        try simp only [Act.put, List.setIfInBounds_toArray, List.set_cons_zero, List.set_cons_succ]
        refine wpAnyH_ready (rs := [7]) (by kernel_rfl) (by simp) ?_
        refine AllReadyH.cons (o := q180_6_7) rfl (fun K hK => ?_) AllReadyH.nil
        go_simp
        clear hHeld
        refine hK.out _ _ D6.out.2.2 (fun hHeld => ?_)
        clear hK K
        try simp only [Act.put, List.setIfInBounds_toArray, List.set_cons_zero, List.set_cons_succ]
        refine wpAnyH_done (by kernel_rfl) ?_ _
        refine NoPanic.normal ?_
        clear hHeld
        clear a5 d5 D6
        go_upto_region 7 with fail
        obtain ⟨X6, hX⟩ : ∃ X0, World.drew B5 = X0 := ⟨_, rfl⟩
        have Y6 := S5.out.drew' hX
        obtain ⟨A6, a6, SA6⟩ := Y6.setB km4 (p.bt 10)
        obtain ⟨B6, d6, SB6⟩ := SA6.setB km5 (p.bt 8)
        have D7 : Hid (RvAt X6 w.heap.size 74 p.cs ∧ RvAt A6 w.heap.size 74 p.cs ∧ RvAt B6 w.heap.size 74 p.cs) := ⟨Y6.pv, SA6.pv, SB6.pv⟩
        have S6 : Hid (MS w B6 w.heap.size (w.heap.size + 1) Z p _) := SB6
        clear Y6 SA6 SB6
        refine wp_region_noPanic ?_
        refine wp_region_held_drew (S := fun w' => RvAt w' w.heap.size 74 p.cs) (by kernel_rfl) (by rw [hX]; exact D7.out.1) (fun hHeld => ?_)
        rw [hX] at hHeld ⊢
        clear hX
        refine wpAnyH_take (i := 0) (oi := q180_7_0) (v := ?_) rfl (by kernel_rfl) (by kernel_rfl) (by kernel_rfl) (fun _ _ _ h => h) (Or.inl ⟨by rfl, ?_⟩) hHeld ?_
        rotate_left
        · intro W_ hSw_
          have x10 := hSw_.bit (j := 10) rfl; have x8 := hSw_.bit (j := 8) rfl; clear hSw_
          first | (go_simp; done) | (go_simp; with_reducible rfl)
        rotate_left
        refine wpAnyH_take (i := 1) (oi := q180_7_1) (v := ?_) rfl (by kernel_rfl) (by kernel_rfl) (by kernel_rfl) (fun _ _ _ h => h) (Or.inl ⟨by rfl, ?_⟩) hHeld ?_
        rotate_left
        · intro W_ hSw_
          have x10 := hSw_.bit (j := 10) rfl; have x8 := hSw_.bit (j := 8) rfl; clear hSw_
          first | (go_simp; done) | (go_simp; with_reducible rfl)
        rotate_left
        refine wpAnyH_take (i := 2) (oi := q180_7_2) (v := ?_) rfl (by kernel_rfl) (by kernel_rfl) (by kernel_rfl) (fun _ _ _ h => h) (Or.inl ⟨by rfl, ?_⟩) hHeld ?_
        rotate_left
        · intro W_ hSw_
          have x10 := hSw_.bit (j := 10) rfl; have x8 := hSw_.bit (j := 8) rfl; clear hSw_
          first | (go_simp; done) | (go_simp; with_reducible rfl)
        rotate_left
        refine wpAnyH_take (i := 3) (oi := q180_7_3) (v := ?_) rfl (by kernel_rfl) (by kernel_rfl) (by kernel_rfl) (fun _ _ _ h => h) (Or.inl ⟨by rfl, ?_⟩) hHeld ?_
        rotate_left
        · intro W_ hSw_
          have x10 := hSw_.bit (j := 10) rfl; have x8 := hSw_.bit (j := 8) rfl; clear hSw_
          first | (go_simp; done) | (go_simp; with_reducible rfl)
        rotate_left
        refine wpAnyH_take (i := 4) (oi := q180_7_4) (v := ?_) rfl (by kernel_rfl) (by kernel_rfl) (by kernel_rfl) (fun _ _ _ h => h) (Or.inl ⟨by rfl, ?_⟩) hHeld ?_
        rotate_left
        · intro W_ hSw_
          have x10 := hSw_.bit (j := 10) rfl; have x8 := hSw_.bit (j := 8) rfl; clear hSw_
          first | (go_simp; done) | (go_simp; with_reducible rfl)
        rotate_left
        try simp only [Act.put, List.setIfInBounds_toArray, List.set_cons_zero, List.set_cons_succ]
        refine wpAnyH_ready (rs := [5]) (by kernel_rfl) (by simp) ?_
        refine AllReadyH.cons (o := q180_7_5) rfl (fun K hK => ?_) AllReadyH.nil
        go_simp
        clear hHeld
        refine hK.out _ _ D7.out.2.1 (fun hHeld => ?_)
        clear hK K
        refine wpAnyH_take (i := 6) (oi := q180_7_6) (v := ?_) rfl (by kernel_rfl) (by kernel_rfl) (by kernel_rfl) (fun _ _ _ h => h) (Or.inl ⟨by rfl, ?_⟩) hHeld ?_
        rotate_left
        · intro W_ hSw_
          clear hSw_
          first | (go_simp; done) | (go_simp; with_reducible rfl)
        rotate_left
        try simp only [Act.put, List.setIfInBounds_toArray, List.set_cons_zero, List.set_cons_succ]
        refine wpAnyH_ready (rs := [7]) (by kernel_rfl) (by simp) ?_
        refine AllReadyH.cons (o := q180_7_7) rfl (fun K hK => ?_) AllReadyH.nil
        go_simp
        clear hHeld
        refine hK.out _ _ D7.out.2.2 (fun hHeld => ?_)
        clear hK K
        try simp only [Act.put, List.setIfInBounds_toArray, List.set_cons_zero, List.set_cons_succ]
        refine wpAnyH_done (by kernel_rfl) ?_ _
        refine NoPanic.normal ?_
        clear hHeld
        clear a6 d6 D7
        have c71 := S6.out.pv.num (j := 71) (k := .u8) rfl
        rw [H71.out] at c71
        obtain ⟨V7, e7, R7⟩ := S6.out.setB km1 false
        have c26 := R7.pv.bit (j := 26) rfl
        rw [H26.out] at c26
        have cK := R7.mv.num (j := 0) (k := .i64) rfl
        rw [show Row.nm _ 0 = (3 : Int) from rfl] at cK
        obtain ⟨V8, e8, R8⟩ := R7.setB km2 false
        have T7 : Hid (MS w V8 w.heap.size (w.heap.size + 1) Z p _) := R8
        clear R7 R8
        go_upto_region 10 with fail
        clear c71 c26 cK e7 e8
        obtain ⟨X9, hX⟩ : ∃ X0, World.drew V8 = X0 := ⟨_, rfl⟩
        have Y9 := T7.out.drew' hX
        obtain ⟨A9, a9, SA9⟩ := Y9.putV (dsg p)
        obtain ⟨B9, d9, SB9⟩ := SA9.putT (dsT p)
        have D10 : Hid (RvAt X9 w.heap.size 74 p.cs ∧ RvAt A9 w.heap.size 74 p.cs ∧ RvAt B9 w.heap.size 74 p.cs) := ⟨Y9.pv, SA9.pv, SB9.pv⟩
        have S9 : Hid (MS w B9 w.heap.size (w.heap.size + 1) Z p _) := SB9
        clear Y9 SA9 SB9
        refine wp_region_noPanic ?_
        refine wp_region_held_drew (S := fun w' => RvAt w' w.heap.size 74 p.cs) (by kernel_rfl) (by rw [hX]; exact D10.out.1) (fun hHeld => ?_)
        rw [hX] at hHeld ⊢
        clear hX
        refine wpAnyH_take (i := 0) (oi := q180_10_0) (v := ?_) rfl (by kernel_rfl) (by kernel_rfl) (by kernel_rfl) (fun _ _ _ h => h) (Or.inl ⟨by rfl, ?_⟩) hHeld ?_
        rotate_left
        · intro W_ hSw_
          have xv := hSw_.pdsg; have xt := hSw_.pdsT15; clear hSw_
          first | (go_simp; done) | (go_simp; with_reducible rfl)
        rotate_left
        refine wpAnyH_take (i := 1) (oi := q180_10_1) (v := ?_) rfl (by kernel_rfl) (by kernel_rfl) (by kernel_rfl) (fun _ _ _ h => h) (Or.inl ⟨by rfl, ?_⟩) hHeld ?_
        rotate_left
        · intro W_ hSw_
          have xv := hSw_.pdsg; have xt := hSw_.pdsT15; clear hSw_
          first | (go_simp; done) | (go_simp; with_reducible rfl)
        rotate_left
        refine wpAnyH_take (i := 2) (oi := q180_10_2) (v := ?_) rfl (by kernel_rfl) (by kernel_rfl) (by kernel_rfl) (fun _ _ _ h => h) (Or.inl ⟨by rfl, ?_⟩) hHeld ?_
        rotate_left
        · intro W_ hSw_
          have xv := hSw_.pdsg; have xt := hSw_.pdsT15; clear hSw_
          first | (go_simp; done) | (go_simp; with_reducible rfl)
        rotate_left
        refine wpAnyH_take (i := 3) (oi := q180_10_3) (v := ?_) rfl (by kernel_rfl) (by kernel_rfl) (by kernel_rfl) (fun _ _ _ h => h) (Or.inl ⟨by rfl, ?_⟩) hHeld ?_
        rotate_left
        · intro W_ hSw_
          have xv := hSw_.pdsg; have xt := hSw_.pdsT15; clear hSw_
          first | (go_simp; done) | (go_simp; with_reducible rfl)
        rotate_left
        refine wpAnyH_take (i := 4) (oi := q180_10_4) (v := ?_) rfl (by kernel_rfl) (by kernel_rfl) (by kernel_rfl) (fun _ _ _ h => h) (Or.inl ⟨by rfl, ?_⟩) hHeld ?_
        rotate_left
        · intro W_ hSw_
          have xv := hSw_.pdsg; have xt := hSw_.pdsT15; clear hSw_
          first | (go_simp; done) | (go_simp; with_reducible rfl)
        rotate_left
        try simp only [Act.put, List.setIfInBounds_toArray, List.set_cons_zero, List.set_cons_succ]
        refine wpAnyH_ready (rs := [5]) (by kernel_rfl) (by simp) ?_
        refine AllReadyH.cons (o := q180_10_5) rfl (fun K hK => ?_) AllReadyH.nil
        go_simp
        clear hHeld
        refine hK.out _ _ D10.out.2.1 (fun hHeld => ?_)
        clear hK K
        refine wpAnyH_take (i := 6) (oi := q180_10_6) (v := ?_) rfl (by kernel_rfl) (by kernel_rfl) (by kernel_rfl) (fun _ _ _ h => h) (Or.inl ⟨by rfl, ?_⟩) hHeld ?_
        rotate_left
        · intro W_ hSw_
          clear hSw_
          first | (go_simp; done) | (go_simp; with_reducible rfl)
        rotate_left
        try simp only [Act.put, List.setIfInBounds_toArray, List.set_cons_zero, List.set_cons_succ]
        refine wpAnyH_ready (rs := [7]) (by kernel_rfl) (by simp) ?_
        refine AllReadyH.cons (o := q180_10_7) rfl (fun K hK => ?_) AllReadyH.nil
        go_simp
        clear hHeld
        refine hK.out _ _ D10.out.2.2 (fun hHeld => ?_)
        clear hK K
        try simp only [Act.put, List.setIfInBounds_toArray, List.set_cons_zero, List.set_cons_succ]
        refine wpAnyH_done (by kernel_rfl) ?_ _
        refine NoPanic.normal ?_
        clear hHeld
        clear a9 d9 D10
        have lm := S9.out.mv.mld
        obtain ⟨U, sU, h1, h2⟩ := S9.out.tell _
        have G : Hid (RvAt U (w.heap.size + 1) 46 M.cs ∧ Below w.heap.size w U) := by rw [← E9.out]; exact ⟨h1, h2⟩
        clear h1 h2 S9
        go_wp2
        refine bodyPost_ret (results_row rtM Tryz.results180 _ _ _ _ rfl G.out.1 (by rw [Row.csize, lenM])) rfl ?_
        exact ⟨rfl, G.out.2⟩
      · have x0 : (N == 0) = false := beq_eq_false_iff_ne.2 h0
        have y0 : (N != 0) = true := by simp [h0]
        have hT : tcB p = true := by unfold tcB; rw [H71.out, x0]; rfl
        have E9 : Hid (((((((((((zeroM.setN 0 km0 3 wi3).setN 7 km7 (rolN (p.nm 30)) (rol_wf _)).setB 3 km3 (p.bt 13)).setB 6 km6 (p.bt 3)).setB 4 km4 (p.bt 10)).setB 5 km5 (p.bt 8)).setB 1 km1 true).setB 2 km2 false).put 8 (dsg p) mq8 ml8).put 12 (dsT p) mq12 ml12) = M) := by
          rw [← EM.out]; unfold msgP; rw [if_pos h23]; unfold rstM; rw [show tcB p = true from hT]; exact rfl
        clear hT EM h0
        have HKd : Hid (kinN p = 3) := by unfold kinN; rw [if_pos h23]; exact rfl
        go_enter Tryz.func180, Tryz.ntmps180
        go_wp2_with fail
        refine (kin_any p W).mono ?_
        rintro _ W1 ⟨rfl, b1⟩
        rw [HKd.out]
        obtain ⟨W2, s2, r2, b2, z2⟩ := var_m W1 (zeroM.setN 0 km0 3 wi3)
        have q2 := bdM_kind wi3 W1
        have hz := b1.size
        obtain ⟨Z, hZ⟩ : ∃ Z, W1.heap.size = Z := ⟨_, rfl⟩
        rw [hZ] at s2 r2
        have S2 : Hid (MS w W2 w.heap.size (w.heap.size + 1) Z p (zeroM.setN 0 km0 3 wi3)) := ⟨(H.out.1.below b1).below b2, (H.out.2.1.below b1).below b2, r2, below_over (below_over H.out.2.2.1 b1) b2, by omega, by have := H.out.2.2.2; omega, by have := H.out.2.2.2; omega⟩
        have c0 := S2.out.mv.num (j := 0) (k := .i64) rfl
        rw [show Row.nm _ 0 = (3 : Int) from rfl] at c0
        clear b1 b2 r2 z2 hz l0 HKd
        have c30 := S2.out.pv.num (j := 30) (k := .i64) rfl
        go_wp2_with fail
        refine (tro_any (p.nm 30) W2).mono ?_
        rintro _ W3 ⟨rfl, b3⟩
        obtain ⟨V4, e4, R4⟩ := (S2.out.below b3).setN (t := 44) infoR km7 (rol_wf (p.nm 30))
        have S4 : Hid (MS w V4 w.heap.size (w.heap.size + 1) Z p _) := R4
        clear R4 b3 c0 c30
        go_upto_region 6 with fail
        clear e4
        obtain ⟨X5, hX⟩ : ∃ X0, World.drew V4 = X0 := ⟨_, rfl⟩
        have Y5 := S4.out.drew' hX
        obtain ⟨A5, a5, SA5⟩ := Y5.setB km3 (p.bt 13)
        obtain ⟨B5, d5, SB5⟩ := SA5.setB km6 (p.bt 3)
        have D6 : Hid (RvAt X5 w.heap.size 74 p.cs ∧ RvAt A5 w.heap.size 74 p.cs ∧ RvAt B5 w.heap.size 74 p.cs) := ⟨Y5.pv, SA5.pv, SB5.pv⟩
        have S5 : Hid (MS w B5 w.heap.size (w.heap.size + 1) Z p _) := SB5
        clear Y5 SA5 SB5
        refine wp_region_noPanic ?_
        refine wp_region_held_drew (S := fun w' => RvAt w' w.heap.size 74 p.cs) (by kernel_rfl) (by rw [hX]; exact D6.out.1) (fun hHeld => ?_)
        rw [hX] at hHeld ⊢
        clear hX
        refine wpAnyH_take (i := 0) (oi := q180_6_0) (v := ?_) rfl (by kernel_rfl) (by kernel_rfl) (by kernel_rfl) (fun _ _ _ h => h) (Or.inl ⟨by rfl, ?_⟩) hHeld ?_
        rotate_left
        · intro W_ hSw_
          have x13 := hSw_.bit (j := 13) rfl; have x3 := hSw_.bit (j := 3) rfl; clear hSw_
          first | (go_simp; done) | (go_simp; with_reducible rfl)
        rotate_left
        refine wpAnyH_take (i := 1) (oi := q180_6_1) (v := ?_) rfl (by kernel_rfl) (by kernel_rfl) (by kernel_rfl) (fun _ _ _ h => h) (Or.inl ⟨by rfl, ?_⟩) hHeld ?_
        rotate_left
        · intro W_ hSw_
          have x13 := hSw_.bit (j := 13) rfl; have x3 := hSw_.bit (j := 3) rfl; clear hSw_
          first | (go_simp; done) | (go_simp; with_reducible rfl)
        rotate_left
        refine wpAnyH_take (i := 2) (oi := q180_6_2) (v := ?_) rfl (by kernel_rfl) (by kernel_rfl) (by kernel_rfl) (fun _ _ _ h => h) (Or.inl ⟨by rfl, ?_⟩) hHeld ?_
        rotate_left
        · intro W_ hSw_
          have x13 := hSw_.bit (j := 13) rfl; have x3 := hSw_.bit (j := 3) rfl; clear hSw_
          first | (go_simp; done) | (go_simp; with_reducible rfl)
        rotate_left
        refine wpAnyH_take (i := 3) (oi := q180_6_3) (v := ?_) rfl (by kernel_rfl) (by kernel_rfl) (by kernel_rfl) (fun _ _ _ h => h) (Or.inl ⟨by rfl, ?_⟩) hHeld ?_
        rotate_left
        · intro W_ hSw_
          have x13 := hSw_.bit (j := 13) rfl; have x3 := hSw_.bit (j := 3) rfl; clear hSw_
          first | (go_simp; done) | (go_simp; with_reducible rfl)
        rotate_left
        refine wpAnyH_take (i := 4) (oi := q180_6_4) (v := ?_) rfl (by kernel_rfl) (by kernel_rfl) (by kernel_rfl) (fun _ _ _ h => h) (Or.inl ⟨by rfl, ?_⟩) hHeld ?_
        rotate_left
        · intro W_ hSw_
          have x13 := hSw_.bit (j := 13) rfl; have x3 := hSw_.bit (j := 3) rfl; clear hSw_
          first | (go_simp; done) | (go_simp; with_reducible rfl)
        rotate_left
        try simp only [Act.put, List.setIfInBounds_toArray, List.set_cons_zero, List.set_cons_succ]
        refine wpAnyH_ready (rs := [5]) (by kernel_rfl) (by simp) ?_
        refine AllReadyH.cons (o := q180_6_5) rfl (fun K hK => ?_) AllReadyH.nil
        go_simp
        clear hHeld
        refine hK.out _ _ D6.out.2.1 (fun hHeld => ?_)
        clear hK K
        refine wpAnyH_take (i := 6) (oi := q180_6_6) (v := ?_) rfl (by kernel_rfl) (by kernel_rfl) (by kernel_rfl) (fun _ _ _ h => h) (Or.inl ⟨by rfl, ?_⟩) hHeld ?_
        rotate_left
        · intro W_ hSw_
          clear hSw_
          first | (go_simp; done) | (go_simp; with_reducible rfl)
        rotate_left
        try simp only [Act.put, List.setIfInBounds_toArray, List.set_cons_zero, List.set_cons_succ]
        refine wpAnyH_ready (rs := [7]) (by kernel_rfl) (by simp) ?_
        refine AllReadyH.cons (o := q180_6_7) rfl (fun K hK => ?_) AllReadyH.nil
        go_simp
        clear hHeld
        refine hK.out _ _ D6.out.2.2 (fun hHeld => ?_)
        clear hK K
        try simp only [Act.put, List.setIfInBounds_toArray, List.set_cons_zero, List.set_cons_succ]
        refine wpAnyH_done (by kernel_rfl) ?_ _
        refine NoPanic.normal ?_
        clear hHeld
        clear a5 d5 D6
        go_upto_region 7 with fail
        obtain ⟨X6, hX⟩ : ∃ X0, World.drew B5 = X0 := ⟨_, rfl⟩
        have Y6 := S5.out.drew' hX
        obtain ⟨A6, a6, SA6⟩ := Y6.setB km4 (p.bt 10)
        obtain ⟨B6, d6, SB6⟩ := SA6.setB km5 (p.bt 8)
        have D7 : Hid (RvAt X6 w.heap.size 74 p.cs ∧ RvAt A6 w.heap.size 74 p.cs ∧ RvAt B6 w.heap.size 74 p.cs) := ⟨Y6.pv, SA6.pv, SB6.pv⟩
        have S6 : Hid (MS w B6 w.heap.size (w.heap.size + 1) Z p _) := SB6
        clear Y6 SA6 SB6
        refine wp_region_noPanic ?_
        refine wp_region_held_drew (S := fun w' => RvAt w' w.heap.size 74 p.cs) (by kernel_rfl) (by rw [hX]; exact D7.out.1) (fun hHeld => ?_)
        rw [hX] at hHeld ⊢
        clear hX
        refine wpAnyH_take (i := 0) (oi := q180_7_0) (v := ?_) rfl (by kernel_rfl) (by kernel_rfl) (by kernel_rfl) (fun _ _ _ h => h) (Or.inl ⟨by rfl, ?_⟩) hHeld ?_
        rotate_left
        · intro W_ hSw_
          have x10 := hSw_.bit (j := 10) rfl; have x8 := hSw_.bit (j := 8) rfl; clear hSw_
          first | (go_simp; done) | (go_simp; with_reducible rfl)
        rotate_left
        refine wpAnyH_take (i := 1) (oi := q180_7_1) (v := ?_) rfl (by kernel_rfl) (by kernel_rfl) (by kernel_rfl) (fun _ _ _ h => h) (Or.inl ⟨by rfl, ?_⟩) hHeld ?_
        rotate_left
        · intro W_ hSw_
          have x10 := hSw_.bit (j := 10) rfl; have x8 := hSw_.bit (j := 8) rfl; clear hSw_
          first | (go_simp; done) | (go_simp; with_reducible rfl)
        rotate_left
        refine wpAnyH_take (i := 2) (oi := q180_7_2) (v := ?_) rfl (by kernel_rfl) (by kernel_rfl) (by kernel_rfl) (fun _ _ _ h => h) (Or.inl ⟨by rfl, ?_⟩) hHeld ?_
        rotate_left
        · intro W_ hSw_
          have x10 := hSw_.bit (j := 10) rfl; have x8 := hSw_.bit (j := 8) rfl; clear hSw_
          first | (go_simp; done) | (go_simp; with_reducible rfl)
        rotate_left
        refine wpAnyH_take (i := 3) (oi := q180_7_3) (v := ?_) rfl (by kernel_rfl) (by kernel_rfl) (by kernel_rfl) (fun _ _ _ h => h) (Or.inl ⟨by rfl, ?_⟩) hHeld ?_
        rotate_left
        · intro W_ hSw_
          have x10 := hSw_.bit (j := 10) rfl; have x8 := hSw_.bit (j := 8) rfl; clear hSw_
          first | (go_simp; done) | (go_simp; with_reducible rfl)
        rotate_left
        refine wpAnyH_take (i := 4) (oi := q180_7_4) (v := ?_) rfl (by kernel_rfl) (by kernel_rfl) (by kernel_rfl) (fun _ _ _ h => h) (Or.inl ⟨by rfl, ?_⟩) hHeld ?_
        rotate_left
        · intro W_ hSw_
          have x10 := hSw_.bit (j := 10) rfl; have x8 := hSw_.bit (j := 8) rfl; clear hSw_
          first | (go_simp; done) | (go_simp; with_reducible rfl)
        rotate_left
        try simp only [Act.put, List.setIfInBounds_toArray, List.set_cons_zero, List.set_cons_succ]
        refine wpAnyH_ready (rs := [5]) (by kernel_rfl) (by simp) ?_
        refine AllReadyH.cons (o := q180_7_5) rfl (fun K hK => ?_) AllReadyH.nil
        go_simp
        clear hHeld
        refine hK.out _ _ D7.out.2.1 (fun hHeld => ?_)
        clear hK K
        refine wpAnyH_take (i := 6) (oi := q180_7_6) (v := ?_) rfl (by kernel_rfl) (by kernel_rfl) (by kernel_rfl) (fun _ _ _ h => h) (Or.inl ⟨by rfl, ?_⟩) hHeld ?_
        rotate_left
        · intro W_ hSw_
          clear hSw_
          first | (go_simp; done) | (go_simp; with_reducible rfl)
        rotate_left
        try simp only [Act.put, List.setIfInBounds_toArray, List.set_cons_zero, List.set_cons_succ]
        refine wpAnyH_ready (rs := [7]) (by kernel_rfl) (by simp) ?_
        refine AllReadyH.cons (o := q180_7_7) rfl (fun K hK => ?_) AllReadyH.nil
        go_simp
        clear hHeld
        refine hK.out _ _ D7.out.2.2 (fun hHeld => ?_)
        clear hK K
        try simp only [Act.put, List.setIfInBounds_toArray, List.set_cons_zero, List.set_cons_succ]
        refine wpAnyH_done (by kernel_rfl) ?_ _
        refine NoPanic.normal ?_
        clear hHeld
        clear a6 d6 D7
        have c71 := S6.out.pv.num (j := 71) (k := .u8) rfl
        rw [H71.out] at c71
        obtain ⟨V7, e7, R7⟩ := S6.out.setB km1 true
        have c26 := R7.pv.bit (j := 26) rfl
        rw [H26.out] at c26
        have cK := R7.mv.num (j := 0) (k := .i64) rfl
        rw [show Row.nm _ 0 = (3 : Int) from rfl] at cK
        obtain ⟨V8, e8, R8⟩ := R7.setB km2 false
        have T7 : Hid (MS w V8 w.heap.size (w.heap.size + 1) Z p _) := R8
        clear R7 R8
        go_upto_region 10 with fail
        clear c71 c26 cK e7 e8
        obtain ⟨X9, hX⟩ : ∃ X0, World.drew V8 = X0 := ⟨_, rfl⟩
        have Y9 := T7.out.drew' hX
        obtain ⟨A9, a9, SA9⟩ := Y9.putV (dsg p)
        obtain ⟨B9, d9, SB9⟩ := SA9.putT (dsT p)
        have D10 : Hid (RvAt X9 w.heap.size 74 p.cs ∧ RvAt A9 w.heap.size 74 p.cs ∧ RvAt B9 w.heap.size 74 p.cs) := ⟨Y9.pv, SA9.pv, SB9.pv⟩
        have S9 : Hid (MS w B9 w.heap.size (w.heap.size + 1) Z p _) := SB9
        clear Y9 SA9 SB9
        refine wp_region_noPanic ?_
        refine wp_region_held_drew (S := fun w' => RvAt w' w.heap.size 74 p.cs) (by kernel_rfl) (by rw [hX]; exact D10.out.1) (fun hHeld => ?_)
        rw [hX] at hHeld ⊢
        clear hX
        refine wpAnyH_take (i := 0) (oi := q180_10_0) (v := ?_) rfl (by kernel_rfl) (by kernel_rfl) (by kernel_rfl) (fun _ _ _ h => h) (Or.inl ⟨by rfl, ?_⟩) hHeld ?_
        rotate_left
        · intro W_ hSw_
          have xv := hSw_.pdsg; have xt := hSw_.pdsT15; clear hSw_
          first | (go_simp; done) | (go_simp; with_reducible rfl)
        rotate_left
        refine wpAnyH_take (i := 1) (oi := q180_10_1) (v := ?_) rfl (by kernel_rfl) (by kernel_rfl) (by kernel_rfl) (fun _ _ _ h => h) (Or.inl ⟨by rfl, ?_⟩) hHeld ?_
        rotate_left
        · intro W_ hSw_
          have xv := hSw_.pdsg; have xt := hSw_.pdsT15; clear hSw_
          first | (go_simp; done) | (go_simp; with_reducible rfl)
        rotate_left
        refine wpAnyH_take (i := 2) (oi := q180_10_2) (v := ?_) rfl (by kernel_rfl) (by kernel_rfl) (by kernel_rfl) (fun _ _ _ h => h) (Or.inl ⟨by rfl, ?_⟩) hHeld ?_
        rotate_left
        · intro W_ hSw_
          have xv := hSw_.pdsg; have xt := hSw_.pdsT15; clear hSw_
          first | (go_simp; done) | (go_simp; with_reducible rfl)
        rotate_left
        refine wpAnyH_take (i := 3) (oi := q180_10_3) (v := ?_) rfl (by kernel_rfl) (by kernel_rfl) (by kernel_rfl) (fun _ _ _ h => h) (Or.inl ⟨by rfl, ?_⟩) hHeld ?_
        rotate_left
        · intro W_ hSw_
          have xv := hSw_.pdsg; have xt := hSw_.pdsT15; clear hSw_
          first | (go_simp; done) | (go_simp; with_reducible rfl)
        rotate_left
        refine wpAnyH_take (i := 4) (oi := q180_10_4) (v := ?_) rfl (by kernel_rfl) (by kernel_rfl) (by kernel_rfl) (fun _ _ _ h => h) (Or.inl ⟨by rfl, ?_⟩) hHeld ?_
        rotate_left
        · intro W_ hSw_
          have xv := hSw_.pdsg; have xt := hSw_.pdsT15; clear hSw_
          first | (go_simp; done) | (go_simp; with_reducible rfl)
        rotate_left
        try simp only [Act.put, List.setIfInBounds_toArray, List.set_cons_zero, List.set_cons_succ]
        refine wpAnyH_ready (rs := [5]) (by kernel_rfl) (by simp) ?_
        refine AllReadyH.cons (o := q180_10_5) rfl (fun K hK => ?_) AllReadyH.nil
        go_simp
        clear hHeld
        refine hK.out _ _ D10.out.2.1 (fun hHeld => ?_)
        clear hK K
        refine wpAnyH_take (i := 6) (oi := q180_10_6) (v := ?_) rfl (by kernel_rfl) (by kernel_rfl) (by kernel_rfl) (fun _ _ _ h => h) (Or.inl ⟨by rfl, ?_⟩) hHeld ?_
        rotate_left
        · intro W_ hSw_
          clear hSw_
          first | (go_simp; done) | (go_simp; with_reducible rfl)
        rotate_left
        try simp only [Act.put, List.setIfInBounds_toArray, List.set_cons_zero, List.set_cons_succ]
        refine wpAnyH_ready (rs := [7]) (by kernel_rfl) (by simp) ?_
        refine AllReadyH.cons (o := q180_10_7) rfl (fun K hK => ?_) AllReadyH.nil
        go_simp
        clear hHeld
        refine hK.out _ _ D10.out.2.2 (fun hHeld => ?_)
        clear hK K
        try simp only [Act.put, List.setIfInBounds_toArray, List.set_cons_zero, List.set_cons_succ]
        refine wpAnyH_done (by kernel_rfl) ?_ _
        refine NoPanic.normal ?_
        clear hHeld
        clear a9 d9 D10
        have lm := S9.out.mv.mld
        obtain ⟨U, sU, h1, h2⟩ := S9.out.tell _
        have G : Hid (RvAt U (w.heap.size + 1) 46 M.cs ∧ Below w.heap.size w U) := by rw [← E9.out]; exact ⟨h1, h2⟩
        clear h1 h2 S9
        go_wp2
        refine bodyPost_ret (results_row rtM Tryz.results180 _ _ _ _ rfl G.out.1 (by rw [Row.csize, lenM])) rfl ?_
        exact ⟨rfl, G.out.2⟩
    · by_cases h0 : N = 0
      · subst h0
        have hT : tcB p = false := by unfold tcB; rw [H71.out]; rfl
        have E9 : Hid (((((((((((zeroM.setN 0 km0 3 wi3).setN 7 km7 (rolN (p.nm 30)) (rol_wf _)).setB 3 km3 (p.bt 13)).setB 6 km6 (p.bt 3)).setB 4 km4 (p.bt 10)).setB 5 km5 (p.bt 8)).setB 1 km1 false).setB 2 km2 false).put 8 (dsg p) mq8 ml8).put 12 (dsT p) mq12 ml12) = M) := by
          rw [← EM.out]; unfold msgP; rw [if_pos h23]; unfold rstM; rw [show tcB p = false from hT]; exact rfl
        clear hT EM
        have HKd : Hid (kinN p = 3) := by unfold kinN; rw [if_pos h23]; exact rfl
        go_enter Tryz.func180, Tryz.ntmps180
        go_wp2_with fail
        refine (kin_any p W).mono ?_
        rintro _ W1 ⟨rfl, b1⟩
        rw [HKd.out]
        obtain ⟨W2, s2, r2, b2, z2⟩ := var_m W1 (zeroM.setN 0 km0 3 wi3)
        have q2 := bdM_kind wi3 W1
        have hz := b1.size
        obtain ⟨Z, hZ⟩ : ∃ Z, W1.heap.size = Z := ⟨_, rfl⟩
        rw [hZ] at s2 r2
        have S2 : Hid (MS w W2 w.heap.size (w.heap.size + 1) Z p (zeroM.setN 0 km0 3 wi3)) := ⟨(H.out.1.below b1).below b2, (H.out.2.1.below b1).below b2, r2, below_over (below_over H.out.2.2.1 b1) b2, by omega, by have := H.out.2.2.2; omega, by have := H.out.2.2.2; omega⟩
        have c0 := S2.out.mv.num (j := 0) (k := .i64) rfl
        rw [show Row.nm _ 0 = (3 : Int) from rfl] at c0
        clear b1 b2 r2 z2 hz l0 HKd
        have c30 := S2.out.pv.num (j := 30) (k := .i64) rfl
        go_wp2_with fail
        refine (tro_any (p.nm 30) W2).mono ?_
        rintro _ W3 ⟨rfl, b3⟩
        obtain ⟨V4, e4, R4⟩ := (S2.out.below b3).setN (t := 44) infoR km7 (rol_wf (p.nm 30))
        have S4 : Hid (MS w V4 w.heap.size (w.heap.size + 1) Z p _) := R4
        clear R4 b3 c0 c30
        go_upto_region 6 with fail
        clear e4
        obtain ⟨X5, hX⟩ : ∃ X0, World.drew V4 = X0 := ⟨_, rfl⟩
        have Y5 := S4.out.drew' hX
        obtain ⟨A5, a5, SA5⟩ := Y5.setB km3 (p.bt 13)
        obtain ⟨B5, d5, SB5⟩ := SA5.setB km6 (p.bt 3)
        have D6 : Hid (RvAt X5 w.heap.size 74 p.cs ∧ RvAt A5 w.heap.size 74 p.cs ∧ RvAt B5 w.heap.size 74 p.cs) := ⟨Y5.pv, SA5.pv, SB5.pv⟩
        have S5 : Hid (MS w B5 w.heap.size (w.heap.size + 1) Z p _) := SB5
        clear Y5 SA5 SB5
        refine wp_region_noPanic ?_
        refine wp_region_held_drew (S := fun w' => RvAt w' w.heap.size 74 p.cs) (by kernel_rfl) (by rw [hX]; exact D6.out.1) (fun hHeld => ?_)
        rw [hX] at hHeld ⊢
        clear hX
        refine wpAnyH_take (i := 0) (oi := q180_6_0) (v := ?_) rfl (by kernel_rfl) (by kernel_rfl) (by kernel_rfl) (fun _ _ _ h => h) (Or.inl ⟨by rfl, ?_⟩) hHeld ?_
        rotate_left
        · intro W_ hSw_
          have x13 := hSw_.bit (j := 13) rfl; have x3 := hSw_.bit (j := 3) rfl; clear hSw_
          first | (go_simp; done) | (go_simp; with_reducible rfl)
        rotate_left
        refine wpAnyH_take (i := 1) (oi := q180_6_1) (v := ?_) rfl (by kernel_rfl) (by kernel_rfl) (by kernel_rfl) (fun _ _ _ h => h) (Or.inl ⟨by rfl, ?_⟩) hHeld ?_
        rotate_left
        · intro W_ hSw_
          have x13 := hSw_.bit (j := 13) rfl; have x3 := hSw_.bit (j := 3) rfl; clear hSw_
          first | (go_simp; done) | (go_simp; with_reducible rfl)
        rotate_left
        refine wpAnyH_take (i := 2) (oi := q180_6_2) (v := ?_) rfl (by kernel_rfl) (by kernel_rfl) (by kernel_rfl) (fun _ _ _ h => h) (Or.inl ⟨by rfl, ?_⟩) hHeld ?_
        rotate_left
        · intro W_ hSw_
          have x13 := hSw_.bit (j := 13) rfl; have x3 := hSw_.bit (j := 3) rfl; clear hSw_
          first | (go_simp; done) | (go_simp; with_reducible rfl)
        rotate_left
        refine wpAnyH_take (i := 3) (oi := q180_6_3) (v := ?_) rfl (by kernel_rfl) (by kernel_rfl) (by kernel_rfl) (fun _ _ _ h => h) (Or.inl ⟨by rfl, ?_⟩) hHeld ?_
        rotate_left
        · intro W_ hSw_
          have x13 := hSw_.bit (j := 13) rfl; have x3 := hSw_.bit (j := 3) rfl; clear hSw_
          first | (go_simp; done) | (go_simp; with_reducible rfl)
        rotate_left
        refine wpAnyH_take (i := 4) (oi := q180_6_4) (v := ?_) rfl (by kernel_rfl) (by kernel_rfl) (by kernel_rfl) (fun _ _ _ h => h) (Or.inl ⟨by rfl, ?_⟩) hHeld ?_
        rotate_left
        · intro W_ hSw_
          have x13 := hSw_.bit (j := 13) rfl; have x3 := hSw_.bit (j := 3) rfl; clear hSw_
          first | (go_simp; done) | (go_simp; with_reducible rfl)
        rotate_left
        try simp only [Act.put, List.setIfInBounds_toArray, List.set_cons_zero, List.set_cons_succ]
        refine wpAnyH_ready (rs := [5]) (by kernel_rfl) (by simp) ?_
        refine AllReadyH.cons (o := q180_6_5) rfl (fun K hK => ?_) AllReadyH.nil
        go_simp
        clear hHeld
        refine hK.out _ _ D6.out.2.1 (fun hHeld => ?_)
        clear hK K
        refine wpAnyH_take (i := 6) (oi := q180_6_6) (v := ?_) rfl (by kernel_rfl) (by kernel_rfl) (by kernel_rfl) (fun _ _ _ h => h) (Or.inl ⟨by rfl, ?_⟩) hHeld ?_
        rotate_left
        · intro W_ hSw_
          clear hSw_
          first | (go_simp; done) | (go_simp; with_reducible rfl)
        rotate_left
        try simp only [Act.put, List.setIfInBounds_toArray, List.set_cons_zero, List.set_cons_succ]
        refine wpAnyH_ready (rs := [7]) (by kernel_rfl) (by simp) ?_
        refine AllReadyH.cons (o := q180_6_7) rfl (fun K hK => ?_) AllReadyH.nil
        go_simp
        clear hHeld
        refine hK.out _ _ D6.out.2.2 (fun hHeld => ?_)
        clear hK K
        try simp only [Act.put, List.setIfInBounds_toArray, List.set_cons_zero, List.set_cons_succ]
        refine wpAnyH_done (by kernel_rfl) ?_ _
        refine NoPanic.normal ?_
        clear hHeld
        clear a5 d5 D6
        go_upto_region 7 with fail
        obtain ⟨X6, hX⟩ : ∃ X0, World.drew B5 = X0 := ⟨_, rfl⟩
        have Y6 := S5.out.drew' hX
        obtain ⟨A6, a6, SA6⟩ := Y6.setB km4 (p.bt 10)
        obtain ⟨B6, d6, SB6⟩ := SA6.setB km5 (p.bt 8)
        have D7 : Hid (RvAt X6 w.heap.size 74 p.cs ∧ RvAt A6 w.heap.size 74 p.cs ∧ RvAt B6 w.heap.size 74 p.cs) := ⟨Y6.pv, SA6.pv, SB6.pv⟩
        have S6 : Hid (MS w B6 w.heap.size (w.heap.size + 1) Z p _) := SB6
        clear Y6 SA6 SB6
        refine wp_region_noPanic ?_
        refine wp_region_held_drew (S := fun w' => RvAt w' w.heap.size 74 p.cs) (by kernel_rfl) (by rw [hX]; exact D7.out.1) (fun hHeld => ?_)
        rw [hX] at hHeld ⊢
        clear hX
        refine wpAnyH_take (i := 0) (oi := q180_7_0) (v := ?_) rfl (by kernel_rfl) (by kernel_rfl) (by kernel_rfl) (fun _ _ _ h => h) (Or.inl ⟨by rfl, ?_⟩) hHeld ?_
        rotate_left
        · intro W_ hSw_
          have x10 := hSw_.bit (j := 10) rfl; have x8 := hSw_.bit (j := 8) rfl; clear hSw_
          first | (go_simp; done) | (go_simp; with_reducible rfl)
        rotate_left
        refine wpAnyH_take (i := 1) (oi := q180_7_1) (v := ?_) rfl (by kernel_rfl) (by kernel_rfl) (by kernel_rfl) (fun _ _ _ h => h) (Or.inl ⟨by rfl, ?_⟩) hHeld ?_
        rotate_left
        · intro W_ hSw_
          have x10 := hSw_.bit (j := 10) rfl; have x8 := hSw_.bit (j := 8) rfl; clear hSw_
          first | (go_simp; done) | (go_simp; with_reducible rfl)
        rotate_left
        refine wpAnyH_take (i := 2) (oi := q180_7_2) (v := ?_) rfl (by kernel_rfl) (by kernel_rfl) (by kernel_rfl) (fun _ _ _ h => h) (Or.inl ⟨by rfl, ?_⟩) hHeld ?_
        rotate_left
        · intro W_ hSw_
          have x10 := hSw_.bit (j := 10) rfl; have x8 := hSw_.bit (j := 8) rfl; clear hSw_
          first | (go_simp; done) | (go_simp; with_reducible rfl)
        rotate_left
        refine wpAnyH_take (i := 3) (oi := q180_7_3) (v := ?_) rfl (by kernel_rfl) (by kernel_rfl) (by kernel_rfl) (fun _ _ _ h => h) (Or.inl ⟨by rfl, ?_⟩) hHeld ?_
        rotate_left
        · intro W_ hSw_
          have x10 := hSw_.bit (j := 10) rfl; have x8 := hSw_.bit (j := 8) rfl; clear hSw_
          first | (go_simp; done) | (go_simp; with_reducible rfl)
        rotate_left
        refine wpAnyH_take (i := 4) (oi := q180_7_4) (v := ?_) rfl (by kernel_rfl) (by kernel_rfl) (by kernel_rfl) (fun _ _ _ h => h) (Or.inl ⟨by rfl, ?_⟩) hHeld ?_
        rotate_left
        · intro W_ hSw_
          have x10 := hSw_.bit (j := 10) rfl; have x8 := hSw_.bit (j := 8) rfl; clear hSw_
          first | (go_simp; done) | (go_simp; with_reducible rfl)
        rotate_left
        try simp only [Act.put, List.setIfInBounds_toArray, List.set_cons_zero, List.set_cons_succ]
        refine wpAnyH_ready (rs := [5]) (by kernel_rfl) (by simp) ?_
        refine AllReadyH.cons (o := q180_7_5) rfl (fun K hK => ?_) AllReadyH.nil
        go_simp
        clear hHeld
        refine hK.out _ _ D7.out.2.1 (fun hHeld => ?_)
        clear hK K
        refine wpAnyH_take (i := 6) (oi := q180_7_6) (v := ?_) rfl (by kernel_rfl) (by kernel_rfl) (by kernel_rfl) (fun _ _ _ h => h) (Or.inl ⟨by rfl, ?_⟩) hHeld ?_
        rotate_left
        · intro W_ hSw_
          clear hSw_
          first | (go_simp; done) | (go_simp; with_reducible rfl)
        rotate_left
        try simp only [Act.put, List.setIfInBounds_toArray, List.set_cons_zero, List.set_cons_succ]
        refine wpAnyH_ready (rs := [7]) (by kernel_rfl) (by simp) ?_
        refine AllReadyH.cons (o := q180_7_7) rfl (fun K hK => ?_) AllReadyH.nil
        go_simp
        clear hHeld
        refine hK.out _ _ D7.out.2.2 (fun hHeld => ?_)
        clear hK K
        try simp only [Act.put, List.setIfInBounds_toArray, List.set_cons_zero, List.set_cons_succ]
        refine wpAnyH_done (by kernel_rfl) ?_ _
        refine NoPanic.normal ?_
        clear hHeld
        clear a6 d6 D7
        have c71 := S6.out.pv.num (j := 71) (k := .u8) rfl
        rw [H71.out] at c71
        obtain ⟨V7, e7, R7⟩ := S6.out.setB km1 false
        have c26 := R7.pv.bit (j := 26) rfl
        rw [H26.out] at c26
        have cK := R7.mv.num (j := 0) (k := .i64) rfl
        rw [show Row.nm _ 0 = (3 : Int) from rfl] at cK
        obtain ⟨V8, e8, R8⟩ := R7.setB km2 false
        have T7 : Hid (MS w V8 w.heap.size (w.heap.size + 1) Z p _) := R8
        clear R7 R8
        go_upto_region 10 with fail
        clear c71 c26 cK e7 e8
        obtain ⟨X9, hX⟩ : ∃ X0, World.drew V8 = X0 := ⟨_, rfl⟩
        have Y9 := T7.out.drew' hX
        obtain ⟨A9, a9, SA9⟩ := Y9.putV (dsg p)
        obtain ⟨B9, d9, SB9⟩ := SA9.putT (dsT p)
        have D10 : Hid (RvAt X9 w.heap.size 74 p.cs ∧ RvAt A9 w.heap.size 74 p.cs ∧ RvAt B9 w.heap.size 74 p.cs) := ⟨Y9.pv, SA9.pv, SB9.pv⟩
        have S9 : Hid (MS w B9 w.heap.size (w.heap.size + 1) Z p _) := SB9
        clear Y9 SA9 SB9
        refine wp_region_noPanic ?_
        refine wp_region_held_drew (S := fun w' => RvAt w' w.heap.size 74 p.cs) (by kernel_rfl) (by rw [hX]; exact D10.out.1) (fun hHeld => ?_)
        rw [hX] at hHeld ⊢
        clear hX
        refine wpAnyH_take (i := 0) (oi := q180_10_0) (v := ?_) rfl (by kernel_rfl) (by kernel_rfl) (by kernel_rfl) (fun _ _ _ h => h) (Or.inl ⟨by rfl, ?_⟩) hHeld ?_
        rotate_left
        · intro W_ hSw_
          have xv := hSw_.pdsg; have xt := hSw_.pdsT15; clear hSw_
          first | (go_simp; done) | (go_simp; with_reducible rfl)
        rotate_left
        refine wpAnyH_take (i := 1) (oi := q180_10_1) (v := ?_) rfl (by kernel_rfl) (by kernel_rfl) (by kernel_rfl) (fun _ _ _ h => h) (Or.inl ⟨by rfl, ?_⟩) hHeld ?_
        rotate_left
        · intro W_ hSw_
          have xv := hSw_.pdsg; have xt := hSw_.pdsT15; clear hSw_
          first | (go_simp; done) | (go_simp; with_reducible rfl)
        rotate_left
        refine wpAnyH_take (i := 2) (oi := q180_10_2) (v := ?_) rfl (by kernel_rfl) (by kernel_rfl) (by kernel_rfl) (fun _ _ _ h => h) (Or.inl ⟨by rfl, ?_⟩) hHeld ?_
        rotate_left
        · intro W_ hSw_
          have xv := hSw_.pdsg; have xt := hSw_.pdsT15; clear hSw_
          first | (go_simp; done) | (go_simp; with_reducible rfl)
        rotate_left
        refine wpAnyH_take (i := 3) (oi := q180_10_3) (v := ?_) rfl (by kernel_rfl) (by kernel_rfl) (by kernel_rfl) (fun _ _ _ h => h) (Or.inl ⟨by rfl, ?_⟩) hHeld ?_
        rotate_left
        · intro W_ hSw_
          have xv := hSw_.pdsg; have xt := hSw_.pdsT15; clear hSw_
          first | (go_simp; done) | (go_simp; with_reducible rfl)
        rotate_left
        refine wpAnyH_take (i := 4) (oi := q180_10_4) (v := ?_) rfl (by kernel_rfl) (by kernel_rfl) (by kernel_rfl) (fun _ _ _ h => h) (Or.inl ⟨by rfl, ?_⟩) hHeld ?_
        rotate_left
        · intro W_ hSw_
          have xv := hSw_.pdsg; have xt := hSw_.pdsT15; clear hSw_
          first | (go_simp; done) | (go_simp; with_reducible rfl)
        rotate_left
        try simp only [Act.put, List.setIfInBounds_toArray, List.set_cons_zero, List.set_cons_succ]
        refine wpAnyH_ready (rs := [5]) (by kernel_rfl) (by simp) ?_
        refine AllReadyH.cons (o := q180_10_5) rfl (fun K hK => ?_) AllReadyH.nil
        go_simp
        clear hHeld
        refine hK.out _ _ D10.out.2.1 (fun hHeld => ?_)
        clear hK K
        refine wpAnyH_take (i := 6) (oi := q180_10_6) (v := ?_) rfl (by kernel_rfl) (by kernel_rfl) (by kernel_rfl) (fun _ _ _ h => h) (Or.inl ⟨by rfl, ?_⟩) hHeld ?_
        rotate_left
        · intro W_ hSw_
          clear hSw_
          first | (go_simp; done) | (go_simp; with_reducible rfl)
        rotate_left
        try simp only [Act.put, List.setIfInBounds_toArray, List.set_cons_zero, List.set_cons_succ]
        refine wpAnyH_ready (rs := [7]) (by kernel_rfl) (by simp) ?_
        refine AllReadyH.cons (o := q180_10_7) rfl (fun K hK => ?_) AllReadyH.nil
        go_simp
        clear hHeld
        refine hK.out _ _ D10.out.2.2 (fun hHeld => ?_)
        clear hK K
        try simp only [Act.put, List.setIfInBounds_toArray, List.set_cons_zero, List.set_cons_succ]
        refine wpAnyH_done (by kernel_rfl) ?_ _
        refine NoPanic.normal ?_
        clear hHeld
        clear a9 d9 D10
        have lm := S9.out.mv.mld
        obtain ⟨U, sU, h1, h2⟩ := S9.out.tell _
        have G : Hid (RvAt U (w.heap.size + 1) 46 M.cs ∧ Below w.heap.size w U) := by rw [← E9.out]; exact ⟨h1, h2⟩
        clear h1 h2 S9
        go_wp2
        refine bodyPost_ret (results_row rtM Tryz.results180 _ _ _ _ rfl G.out.1 (by rw [Row.csize, lenM])) rfl ?_
        exact ⟨rfl, G.out.2⟩
      · have x0 : (N == 0) = false := beq_eq_false_iff_ne.2 h0
        have y0 : (N != 0) = true := by simp [h0]
        have hT : tcB p = true := by unfold tcB; rw [H71.out, x0]; rfl
        have E9 : Hid (((((((((((zeroM.setN 0 km0 3 wi3).setN 7 km7 (rolN (p.nm 30)) (rol_wf _)).setB 3 km3 (p.bt 13)).setB 6 km6 (p.bt 3)).setB 4 km4 (p.bt 10)).setB 5 km5 (p.bt 8)).setB 1 km1 true).setB 2 km2 false).put 8 (dsg p) mq8 ml8).put 12 (dsT p) mq12 ml12) = M) := by
          rw [← EM.out]; unfold msgP; rw [if_pos h23]; unfold rstM; rw [show tcB p = true from hT]; exact rfl
        clear hT EM h0
        have HKd : Hid (kinN p = 3) := by unfold kinN; rw [if_pos h23]; exact rfl
        go_enter Tryz.func180, Tryz.ntmps180
        go_wp2_with fail
        refine (kin_any p W).mono ?_
        rintro _ W1 ⟨rfl, b1⟩
        rw [HKd.out]
        obtain ⟨W2, s2, r2, b2, z2⟩ := var_m W1 (zeroM.setN 0 km0 3 wi3)
        have q2 := bdM_kind wi3 W1
        have hz := b1.size
        obtain ⟨Z, hZ⟩ : ∃ Z, W1.heap.size = Z := ⟨_, rfl⟩
        rw [hZ] at s2 r2
        have S2 : Hid (MS w W2 w.heap.size (w.heap.size + 1) Z p (zeroM.setN 0 km0 3 wi3)) := ⟨(H.out.1.below b1).below b2, (H.out.2.1.below b1).below b2, r2, below_over (below_over H.out.2.2.1 b1) b2, by omega, by have := H.out.2.2.2; omega, by have := H.out.2.2.2; omega⟩
        have c0 := S2.out.mv.num (j := 0) (k := .i64) rfl
        rw [show Row.nm _ 0 = (3 : Int) from rfl] at c0
        clear b1 b2 r2 z2 hz l0 HKd
        have c30 := S2.out.pv.num (j := 30) (k := .i64) rfl
        go_wp2_with fail
        refine (tro_any (p.nm 30) W2).mono ?_
        rintro _ W3 ⟨rfl, b3⟩
        obtain ⟨V4, e4, R4⟩ := (S2.out.below b3).setN (t := 44) infoR km7 (rol_wf (p.nm 30))
        have S4 : Hid (MS w V4 w.heap.size (w.heap.size + 1) Z p _) := R4
        clear R4 b3 c0 c30
        go_upto_region 6 with fail
        clear e4
        obtain ⟨X5, hX⟩ : ∃ X0, World.drew V4 = X0 := ⟨_, rfl⟩
        have Y5 := S4.out.drew' hX
        obtain ⟨A5, a5, SA5⟩ := Y5.setB km3 (p.bt 13)
        obtain ⟨B5, d5, SB5⟩ := SA5.setB km6 (p.bt 3)
        have D6 : Hid (RvAt X5 w.heap.size 74 p.cs ∧ RvAt A5 w.heap.size 74 p.cs ∧ RvAt B5 w.heap.size 74 p.cs) := ⟨Y5.pv, SA5.pv, SB5.pv⟩
        have S5 : Hid (MS w B5 w.heap.size (w.heap.size + 1) Z p _) := SB5
        clear Y5 SA5 SB5
        refine wp_region_noPanic ?_
        refine wp_region_held_drew (S := fun w' => RvAt w' w.heap.size 74 p.cs) (by kernel_rfl) (by rw [hX]; exact D6.out.1) (fun hHeld => ?_)
        rw [hX] at hHeld ⊢
        clear hX
        refine wpAnyH_take (i := 0) (oi := q180_6_0) (v := ?_) rfl (by kernel_rfl) (by kernel_rfl) (by kernel_rfl) (fun _ _ _ h => h) (Or.inl ⟨by rfl, ?_⟩) hHeld ?_
        rotate_left
        · intro W_ hSw_
          have x13 := hSw_.bit (j := 13) rfl; have x3 := hSw_.bit (j := 3) rfl; clear hSw_
          first | (go_simp; done) | (go_simp; with_reducible rfl)
        rotate_left
        refine wpAnyH_take (i := 1) (oi := q180_6_1) (v := ?_) rfl (by kernel_rfl) (by kernel_rfl) (by kernel_rfl) (fun _ _ _ h => h) (Or.inl ⟨by rfl, ?_⟩) hHeld ?_
        rotate_left
        · intro W_ hSw_
          have x13 := hSw_.bit (j := 13) rfl; have x3 := hSw_.bit (j := 3) rfl; clear hSw_
          first | (go_simp; done) | (go_simp; with_reducible rfl)
        rotate_left
        refine wpAnyH_take (i := 2) (oi := q180_6_2) (v := ?_) rfl (by kernel_rfl) (by kernel_rfl) (by kernel_rfl) (fun _ _ _ h => h) (Or.inl ⟨by rfl, ?_⟩) hHeld ?_
        rotate_left
        · intro W_ hSw_
          have x13 := hSw_.bit (j := 13) rfl; have x3 := hSw_.bit (j := 3) rfl; clear hSw_
          first | (go_simp; done) | (go_simp; with_reducible rfl)
        rotate_left
        refine wpAnyH_take (i := 3) (oi := q180_6_3) (v := ?_) rfl (by kernel_rfl) (by kernel_rfl) (by kernel_rfl) (fun _ _ _ h => h) (Or.inl ⟨by rfl, ?_⟩) hHeld ?_
        rotate_left
        · intro W_ hSw_
          have x13 := hSw_.bit (j := 13) rfl; have x3 := hSw_.bit (j := 3) rfl; clear hSw_
          first | (go_simp; done) | (go_simp; with_reducible rfl)
        rotate_left
        refine wpAnyH_take (i := 4) (oi := q180_6_4) (v := ?_) rfl (by kernel_rfl) (by kernel_rfl) (by kernel_rfl) (fun _ _ _ h => h) (Or.inl ⟨by rfl, ?_⟩) hHeld ?_
        rotate_left
        · intro W_ hSw_
          have x13 := hSw_.bit (j := 13) rfl; have x3 := hSw_.bit (j := 3) rfl; clear hSw_
          first | (go_simp; done) | (go_simp; with_reducible rfl)
        rotate_left
        try simp only [Act.put, List.setIfInBounds_toArray, List.set_cons_zero, List.set_cons_succ]
        refine wpAnyH_ready (rs := [5]) (by kernel_rfl) (by simp) ?_
        refine AllReadyH.cons (o := q180_6_5) rfl (fun K hK => ?_) AllReadyH.nil
        go_simp
        clear hHeld
        refine hK.out _ _ D6.out.2.1 (fun hHeld => ?_)
        clear hK K
        refine wpAnyH_take (i := 6) (oi := q180_6_6) (v := ?_) rfl (by kernel_rfl) (by kernel_rfl) (by kernel_rfl) (fun _ _ _ h => h) (Or.inl ⟨by rfl, ?_⟩) hHeld ?_
        rotate_left
        · intro W_ hSw_
          clear hSw_
          first | (go_simp; done) | (go_simp; with_reducible rfl)
        rotate_left
        try simp only [Act.put, List.setIfInBounds_toArray, List.set_cons_zero, List.set_cons_succ]
        refine wpAnyH_ready (rs := [7]) (by kernel_rfl) (by simp) ?_
        refine AllReadyH.cons (o := q180_6_7) rfl (fun K hK => ?_) AllReadyH.nil
        go_simp
        clear hHeld
        refine hK.out _ _ D6.out.2.2 (fun hHeld => ?_)
        clear hK K
        try simp only [Act.put, List.setIfInBounds_toArray, List.set_cons_zero, List.set_cons_succ]
        refine wpAnyH_done (by kernel_rfl) ?_ _
        refine NoPanic.normal ?_
        clear hHeld
        clear a5 d5 D6
        go_upto_region 7 with fail
        obtain ⟨X6, hX⟩ : ∃ X0, World.drew B5 = X0 := ⟨_, rfl⟩
        have Y6 := S5.out.drew' hX
        obtain ⟨A6, a6, SA6⟩ := Y6.setB km4 (p.bt 10)
        obtain ⟨B6, d6, SB6⟩ := SA6.setB km5 (p.bt 8)
        have D7 : Hid (RvAt X6 w.heap.size 74 p.cs ∧ RvAt A6 w.heap.size 74 p.cs ∧ RvAt B6 w.heap.size 74 p.cs) := ⟨Y6.pv, SA6.pv, SB6.pv⟩
        have S6 : Hid (MS w B6 w.heap.size (w.heap.size + 1) Z p _) := SB6
        clear Y6 SA6 SB6
        refine wp_region_noPanic ?_
        refine wp_region_held_drew (S := fun w' => RvAt w' w.heap.size 74 p.cs) (by kernel_rfl) (by rw [hX]; exact D7.out.1) (fun hHeld => ?_)
        rw [hX] at hHeld ⊢
        clear hX
        refine wpAnyH_take (i := 0) (oi := q180_7_0) (v := ?_) rfl (by kernel_rfl) (by kernel_rfl) (by kernel_rfl) (fun _ _ _ h => h) (Or.inl ⟨by rfl, ?_⟩) hHeld ?_
        rotate_left
        · intro W_ hSw_
          have x10 := hSw_.bit (j := 10) rfl; have x8 := hSw_.bit (j := 8) rfl; clear hSw_
          first | (go_simp; done) | (go_simp; with_reducible rfl)
        rotate_left
        refine wpAnyH_take (i := 1) (oi := q180_7_1) (v := ?_) rfl (by kernel_rfl) (by kernel_rfl) (by kernel_rfl) (fun _ _ _ h => h) (Or.inl ⟨by rfl, ?_⟩) hHeld ?_
        rotate_left
        · intro W_ hSw_
          have x10 := hSw_.bit (j := 10) rfl; have x8 := hSw_.bit (j := 8) rfl; clear hSw_
          first | (go_simp; done) | (go_simp; with_reducible rfl)
        rotate_left
        refine wpAnyH_take (i := 2) (oi := q180_7_2) (v := ?_) rfl (by kernel_rfl) (by kernel_rfl) (by kernel_rfl) (fun _ _ _ h => h) (Or.inl ⟨by rfl, ?_⟩) hHeld ?_
        rotate_left
        · intro W_ hSw_
          have x10 := hSw_.bit (j := 10) rfl; have x8 := hSw_.bit (j := 8) rfl; clear hSw_
          first | (go_simp; done) | (go_simp; with_reducible rfl)
        rotate_left
        refine wpAnyH_take (i := 3) (oi := q180_7_3) (v := ?_) rfl (by kernel_rfl) (by kernel_rfl) (by kernel_rfl) (fun _ _ _ h => h) (Or.inl ⟨by rfl, ?_⟩) hHeld ?_
        rotate_left
        · intro W_ hSw_
          have x10 := hSw_.bit (j := 10) rfl; have x8 := hSw_.bit (j := 8) rfl; clear hSw_
          first | (go_simp; done) | (go_simp; with_reducible rfl)
        rotate_left
        refine wpAnyH_take (i := 4) (oi := q180_7_4) (v := ?_) rfl (by kernel_rfl) (by kernel_rfl) (by kernel_rfl) (fun _ _ _ h => h) (Or.inl ⟨by rfl, ?_⟩) hHeld ?_
        rotate_left
        · intro W_ hSw_
          have x10 := hSw_.bit (j := 10) rfl; have x8 := hSw_.bit (j := 8) rfl; clear hSw_
          first | (go_simp; done) | (go_simp; with_reducible rfl)
        rotate_left
        try simp only [Act.put, List.setIfInBounds_toArray, List.set_cons_zero, List.set_cons_succ]
        refine wpAnyH_ready (rs := [5]) (by kernel_rfl) (by simp) ?_
        refine AllReadyH.cons (o := q180_7_5) rfl (fun K hK => ?_) AllReadyH.nil
        go_simp
        clear hHeld
        refine hK.out _ _ D7.out.2.1 (fun hHeld => ?_)
        clear hK K
        refine wpAnyH_take (i := 6) (oi := q180_7_6) (v := ?_) rfl (by kernel_rfl) (by kernel_rfl) (by kernel_rfl) (fun _ _ _ h => h) (Or.inl ⟨by rfl, ?_⟩) hHeld ?_
        rotate_left
        · intro W_ hSw_
          clear hSw_
          first | (go_simp; done) | (go_simp; with_reducible rfl)
        rotate_left
        try simp only [Act.put, List.setIfInBounds_toArray, List.set_cons_zero, List.set_cons_succ]
        refine wpAnyH_ready (rs := [7]) (by kernel_rfl) (by simp) ?_
        refine AllReadyH.cons (o := q180_7_7) rfl (fun K hK => ?_) AllReadyH.nil
        go_simp
        clear hHeld
        refine hK.out _ _ D7.out.2.2 (fun hHeld => ?_)
        clear hK K
        try simp only [Act.put, List.setIfInBounds_toArray, List.set_cons_zero, List.set_cons_succ]
        refine wpAnyH_done (by kernel_rfl) ?_ _
        refine NoPanic.normal ?_
        clear hHeld
        clear a6 d6 D7
        have c71 := S6.out.pv.num (j := 71) (k := .u8) rfl
        rw [H71.out] at c71
        obtain ⟨V7, e7, R7⟩ := S6.out.setB km1 true
        have c26 := R7.pv.bit (j := 26) rfl
        rw [H26.out] at c26
        have cK := R7.mv.num (j := 0) (k := .i64) rfl
        rw [show Row.nm _ 0 = (3 : Int) from rfl] at cK
        obtain ⟨V8, e8, R8⟩ := R7.setB km2 false
        have T7 : Hid (MS w V8 w.heap.size (w.heap.size + 1) Z p _) := R8
        clear R7 R8
        go_upto_region 10 with fail
        clear c71 c26 cK e7 e8
        obtain ⟨X9, hX⟩ : ∃ X0, World.drew V8 = X0 := ⟨_, rfl⟩
        have Y9 := T7.out.drew' hX
        obtain ⟨A9, a9, SA9⟩ := Y9.putV (dsg p)
        obtain ⟨B9, d9, SB9⟩ := SA9.putT (dsT p)
        have D10 : Hid (RvAt X9 w.heap.size 74 p.cs ∧ RvAt A9 w.heap.size 74 p.cs ∧ RvAt B9 w.heap.size 74 p.cs) := ⟨Y9.pv, SA9.pv, SB9.pv⟩
        have S9 : Hid (MS w B9 w.heap.size (w.heap.size + 1) Z p _) := SB9
        clear Y9 SA9 SB9
        refine wp_region_noPanic ?_
        refine wp_region_held_drew (S := fun w' => RvAt w' w.heap.size 74 p.cs) (by kernel_rfl) (by rw [hX]; exact D10.out.1) (fun hHeld => ?_)
        rw [hX] at hHeld ⊢
        clear hX
        refine wpAnyH_take (i := 0) (oi := q180_10_0) (v := ?_) rfl (by kernel_rfl) (by kernel_rfl) (by kernel_rfl) (fun _ _ _ h => h) (Or.inl ⟨by rfl, ?_⟩) hHeld ?_
        rotate_left
        · intro W_ hSw_
          have xv := hSw_.pdsg; have xt := hSw_.pdsT15; clear hSw_
          first | (go_simp; done) | (go_simp; with_reducible rfl)
        rotate_left
        refine wpAnyH_take (i := 1) (oi := q180_10_1) (v := ?_) rfl (by kernel_rfl) (by kernel_rfl) (by kernel_rfl) (fun _ _ _ h => h) (Or.inl ⟨by rfl, ?_⟩) hHeld ?_
        rotate_left
        · intro W_ hSw_
          have xv := hSw_.pdsg; have xt := hSw_.pdsT15; clear hSw_
          first | (go_simp; done) | (go_simp; with_reducible rfl)
        rotate_left
        refine wpAnyH_take (i := 2) (oi := q180_10_2) (v := ?_) rfl (by kernel_rfl) (by kernel_rfl) (by kernel_rfl) (fun _ _ _ h => h) (Or.inl ⟨by rfl, ?_⟩) hHeld ?_
        rotate_left
        · intro W_ hSw_
          have xv := hSw_.pdsg; have xt := hSw_.pdsT15; clear hSw_
          first | (go_simp; done) | (go_simp; with_reducible rfl)
        rotate_left
        refine wpAnyH_take (i := 3) (oi := q180_10_3) (v := ?_) rfl (by kernel_rfl) (by kernel_rfl) (by kernel_rfl) (fun _ _ _ h => h) (Or.inl ⟨by rfl, ?_⟩) hHeld ?_
        rotate_left
        · intro W_ hSw_
          have xv := hSw_.pdsg; have xt := hSw_.pdsT15; clear hSw_
          first | (go_simp; done) | (go_simp; with_reducible rfl)
        rotate_left
        refine wpAnyH_take (i := 4) (oi := q180_10_4) (v := ?_) rfl (by kernel_rfl) (by kernel_rfl) (by kernel_rfl) (fun _ _ _ h => h) (Or.inl ⟨by rfl, ?_⟩) hHeld ?_
        rotate_left
        · intro W_ hSw_
          have xv := hSw_.pdsg; have xt := hSw_.pdsT15; clear hSw_
          first | (go_simp; done) | (go_simp; with_reducible rfl)
        rotate_left
        try simp only [Act.put, List.setIfInBounds_toArray, List.set_cons_zero, List.set_cons_succ]
        refine wpAnyH_ready (rs := [5]) (by kernel_rfl) (by simp) ?_
        refine AllReadyH.cons (o := q180_10_5) rfl (fun K hK => ?_) AllReadyH.nil
        go_simp
        clear hHeld
        refine hK.out _ _ D10.out.2.1 (fun hHeld => ?_)
        clear hK K
        refine wpAnyH_take (i := 6) (oi := q180_10_6) (v := ?_) rfl (by kernel_rfl) (by kernel_rfl) (by kernel_rfl) (fun _ _ _ h => h) (Or.inl ⟨by rfl, ?_⟩) hHeld ?_
        rotate_left
        · intro W_ hSw_
          clear hSw_
          first | (go_simp; done) | (go_simp; with_reducible rfl)
        rotate_left
        try simp only [Act.put, List.setIfInBounds_toArray, List.set_cons_zero, List.set_cons_succ]
        refine wpAnyH_ready (rs := [7]) (by kernel_rfl) (by simp) ?_
        refine AllReadyH.cons (o := q180_10_7) rfl (fun K hK => ?_) AllReadyH.nil
        go_simp
        clear hHeld
        refine hK.out _ _ D10.out.2.2 (fun hHeld => ?_)
        clear hK K
        try simp only [Act.put, List.setIfInBounds_toArray, List.set_cons_zero, List.set_cons_succ]
        refine wpAnyH_done (by kernel_rfl) ?_ _
        refine NoPanic.normal ?_
        clear hHeld
        clear a9 d9 D10
        have lm := S9.out.mv.mld
        obtain ⟨U, sU, h1, h2⟩ := S9.out.tell _
        have G : Hid (RvAt U (w.heap.size + 1) 46 M.cs ∧ Below w.heap.size w U) := by rw [← E9.out]; exact ⟨h1, h2⟩
        clear h1 h2 S9
        go_wp2
        refine bodyPost_ret (results_row rtM Tryz.results180 _ _ _ _ rfl G.out.1 (by rw [Row.csize, lenM])) rfl ?_
        exact ⟨rfl, G.out.2⟩
end S15
end
end Go.Proofs.YtlchejbggnbccaaGreat
