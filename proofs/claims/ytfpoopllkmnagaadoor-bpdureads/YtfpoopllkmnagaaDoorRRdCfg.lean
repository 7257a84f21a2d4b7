/-
  The walk of what bytes tell by definition, of a kind.
-/
import Derived.Test.YtfpoopllkmnagaaDoorRRdA
namespace Go.Proofs.YtfpoopllkmnagaaDoor
set_option linter.unusedVariables false
set_option maxRecDepth 4000
set_option linter.unusedSimpArgs false
open Go.RowKit

attribute [local go_sem ↓] ldS32 ldS49 ldS28 ldS30 ldS83 stS32 stS49 stS28 stS30 eqP_eq nqP_eq eqM_eq nqM_eq nqV_eq nqT_eq slS_eq


set_option maxHeartbeats 8000000 in
theorem rr_cfg_bad (b o n c : Nat) (M : Bp) (l : List Int) (w : World) (h : Src w (.slice (some ⟨b, o, none⟩) n c) l) (hb : ∀ x ∈ l, 0 ≤ x ∧ x ≤ 255) (h4 : 4 ≤ l.length) (h35 : 35 ≤ l.length) (hg : ¬ gn l 2 = 2) (hM : rcand l = M) (ho : okB M = false) :
    Calls Tryd.prog 13 #[.slice (some ⟨b, o, none⟩) n c] w fun r w' => ∃ m e, r = .returned (.tuple #[.agg (Bp.cs m), .int .i64 e]) ∧ RdOut l m e ∧ Below w.heap.size w w' := by
  obtain ⟨hn, hc, hm⟩ := src_short h
  have hbl : b < w.heap.size := by
    obtain ⟨b', o', e, hb', _⟩ := src_some h (by omega)
    cases e
    exact hb'
  have hz : PvAt (w.alloc (.cells #[.int .i64 0, .bool false, .bool false, .bool false, .bool false, .bool false, .bool false, .int .i64 0, .int .u64 0, .int .u32 0, .int .u64 0, .int .u16 0, .int .u8 0, .int .u8 0, .int .u8 0, .int .u8 0] 32)) w.heap.size zeroP := alloc_at w _
  have hB : Below w.heap.size w (w.alloc (.cells #[.int .i64 0, .bool false, .bool false, .bool false, .bool false, .bool false, .bool false, .int .i64 0, .int .u64 0, .int .u32 0, .int .u64 0, .int .u16 0, .int .u8 0, .int .u8 0, .int .u8 0, .int .u8 0] 32)) := (Below.refl _ _).alloc (Nat.le_refl _) _
  obtain ⟨W0, hW0⟩ : ∃ W, w.alloc (.cells #[.int .i64 0, .bool false, .bool false, .bool false, .bool false, .bool false, .bool false, .int .i64 0, .int .u64 0, .int .u32 0, .int .u64 0, .int .u16 0, .int .u8 0, .int .u8 0, .int .u8 0, .int .u8 0] 32) = W := ⟨_, rfl⟩
  rw [hW0] at hz hB
  have hn4 : ¬ (n : Int) < 4 := by omega
  have hn35 : (35 : Int) ≤ (n : Int) := by omega
  obtain ⟨W1, st1, r1, b1, z1⟩ := row_new rt32 W0 #[.int .i64 0, .bool false, .bool false, .bool false, .bool false, .bool false, .bool false, .int .i64 0, .int .u64 0, .int .u32 0, .int .u64 0, .int .u16 0, .int .u8 0, .int .u8 0, .int .u8 0, .int .u8 0] #[.int .i64 2, .bool false, .bool false, .bool false, .bool false, .bool false, .bool false, .int .i64 0, .int .u64 0, .int .u32 0, .int .u64 0, .int .u16 0, .int .u8 0, .int .u8 0, .int .u8 0, .int .u8 0] rfl rfl (kP 2).one
  have r1' : PvAt W1 W0.heap.size (kP 2) := r1
  have hlt0 := hz.lt
  have q1 : RQ w W1 W0.heap.size (kP 2) := ⟨hz.below b1, r1', below_over hB b1, hlt0⟩
  have HB : Hid ((∀ x ∈ l, 0 ≤ x ∧ x ≤ 255) ∧ 4 ≤ l.length ∧ n = l.length ∧ b < w.heap.size ∧ b < W0.heap.size) := ⟨hb, h4, hn, hbl, by omega⟩
  have EW : Hid (Src w (.slice (some ⟨b, o, none⟩) n c) l) := h
  have Q1 : Hid (RQ w W1 W0.heap.size (kP 2)) := q1
  have EM : Hid (rcand l = M) := hM
  have EV : Hid M.wf := by show M.wf; rw [← hM]; exact rw_wf hb
  have EO : Hid (okB M = false) := ho
  have H35 : Hid (35 ≤ l.length) := h35
  have k4 : W1.cell? ⟨b, o + 4, none⟩ = some (.int .u8 (gn l 4 : Nat)) := src_cell (h.below q1.below) 4 (by omega) hb
  have F0 := (gn_eq hb 4).2
  have ER : Hid (M = cfgR l) := by
    show M = _
    rw [← hM]
    unfold rcand
    rw [if_pos h35, if_neg hg]
  have k2' : ∀ W, Below w.heap.size w W → W.cell? ⟨b, o + 2, none⟩ = some (.int .u8 (gn l 2 : Nat)) := fun W hW => src_cell (h.below hW) 2 (by omega) hb
  have K2 : Hid (∀ W, Below w.heap.size w W → W.cell? ⟨b, o + 2, none⟩ = some (.int .u8 (gn l 2 : Nat))) := k2'
  obtain ⟨F, hF⟩ : ∃ F, gn l 4 = F := ⟨_, rfl⟩
  rw [hF] at k4 F0
  have EF : Hid (gn l 4 = F) := hF
  have EG : Hid (¬ gn l 2 = 2) := hg
  have n4 : (4 : Int) < (n : Int) := by omega
  have n2 : (2 : Int) < (n : Int) := by omega
  have HN : Hid (n ≤ c ∧ c ≤ maxLen) := ⟨hc, hm⟩
  unfold maxLen at hm
  clear h hb h4 h35 hM ho hn hc r1 r1' b1 z1 hlt0 q1 hz hB hbl hg hF k2'
  go_enter Tryd.func13, Tryd.ntmps13
  go_wp2_with fail
  refine (bit_ref F _ 1 (by rfl) _ (by omega) (by omega) (by omega)).mono ?_
  rintro _ Y ⟨rfl, hY⟩
  rw [hY]
  clear hY Y
  go_wp2_with fail
  refine (bit_ref F _ 128 (by rfl) _ (by omega) (by omega) (by omega)).mono ?_
  rintro _ Y ⟨rfl, hY⟩
  rw [hY]
  clear hY Y
  obtain ⟨mB, hmB⟩ : ∃ x, W0.heap.size = x := ⟨_, rfl⟩
  rw [hmB] at Q1 HB ⊢
  clear hmB st1
  have st2 : (stS 32 (.pointer (some ⟨mB, 0, none⟩)) (.agg #[.int .i64 1, .bool (flB F 1), .bool (flB F 128), .bool false, .bool false, .bool false, .bool false, .int .i64 0, .int .u64 0, .int .u32 0, .int .u64 0, .int .u16 0, .int .u8 0, .int .u8 0, .int .u8 0, .int .u8 0])).run Tryd.prog W1 = .ok () (W1.setRow mB (⟨1, (flB F 1), (flB F 128), false, false, false, false, 0, 0, 0, 0, 0, 0, 0, 0, 0⟩ : Bp).cs) := Q1.out.pv.st (n := (⟨1, (flB F 1), (flB F 128), false, false, false, false, 0, 0, 0, 0, 0, 0, 0, 0, 0⟩ : Bp))
  have Q2 : Hid (RQ w (W1.setRow mB (⟨1, (flB F 1), (flB F 128), false, false, false, false, 0, 0, 0, 0, 0, 0, 0, 0, 0⟩ : Bp).cs) mB (⟨1, (flB F 1), (flB F 128), false, false, false, false, 0, 0, 0, 0, 0, 0, 0, 0, 0⟩ : Bp)) := Q1.out.set _
  obtain ⟨W2, hW2⟩ : ∃ W, W1.setRow mB (⟨1, (flB F 1), (flB F 128), false, false, false, false, 0, 0, 0, 0, 0, 0, 0, 0, 0⟩ : Bp).cs = W := ⟨_, rfl⟩
  rw [hW2] at st2 Q2
  have g2 := K2.out W2 Q2.out.below
  obtain ⟨G, hG⟩ : ∃ G, gn l 2 = G := ⟨_, rfl⟩
  rw [hG] at g2 EG
  have hG2 : ¬ (G : Int) = 2 := by have := EG.out; omega
  clear hW2 hG k4 Q1
  go_wp2_with fail
  clear st2 g2 hG2
  obtain ⟨m0, hm0⟩ : ∃ m, (⟨1, (flB F 1), (flB F 128), false, false, false, false, 0, 0, 0, 0, 0, 0, 0, 0, 0⟩ : Bp) = m := ⟨_, rfl⟩
  rw [hm0] at Q2
  have E0 : Hid ((⟨1, (flB F 1), (flB F 128), false, false, false, false, 0, 0, 0, 0, 0, 0, 0, 0, 0⟩ : Bp) = m0) := hm0
  clear hm0
  have QX : Hid (RQ w W2.drew mB m0) := Q2.out.drew
  obtain ⟨X, hX⟩ : ∃ X, W2.drew = X := ⟨_, rfl⟩
  rw [hX] at QX
  have SX : Hid (Src X (.slice (some ⟨b, o, none⟩) n c) l) := EW.out.below QX.out.below
  have sl5 : ∀ W, (slS (.slice (some ⟨b, o, none⟩) n c) (some (.int .i64 5)) (some (.int .i64 13)) none).run Tryd.prog W = .ok (.slice (some ⟨b, o + 5, none⟩) 8 (c - 5)) W := fun W => slS_sub b o n c 5 13 (by omega) (by omega) HN.out.1 HN.out.2 (by omega) W
  have S5 : Hid (Src X (.slice (some ⟨b, o + 5, none⟩) 8 (c - 5)) (sub l 5 8)) := src_sub SX.out 5 8 (by omega)
  have sl13 : ∀ W, (slS (.slice (some ⟨b, o, none⟩) n c) (some (.int .i64 13)) (some (.int .i64 17)) none).run Tryd.prog W = .ok (.slice (some ⟨b, o + 13, none⟩) 4 (c - 13)) W := fun W => slS_sub b o n c 13 17 (by omega) (by omega) HN.out.1 HN.out.2 (by omega) W
  have S13 : Hid (Src X (.slice (some ⟨b, o + 13, none⟩) 4 (c - 13)) (sub l 13 4)) := src_sub SX.out 13 4 (by omega)
  have sl17 : ∀ W, (slS (.slice (some ⟨b, o, none⟩) n c) (some (.int .i64 17)) (some (.int .i64 25)) none).run Tryd.prog W = .ok (.slice (some ⟨b, o + 17, none⟩) 8 (c - 17)) W := fun W => slS_sub b o n c 17 25 (by omega) (by omega) HN.out.1 HN.out.2 (by omega) W
  have S17 : Hid (Src X (.slice (some ⟨b, o + 17, none⟩) 8 (c - 17)) (sub l 17 8)) := src_sub SX.out 17 8 (by omega)
  have sl25 : ∀ W, (slS (.slice (some ⟨b, o, none⟩) n c) (some (.int .i64 25)) (some (.int .i64 27)) none).run Tryd.prog W = .ok (.slice (some ⟨b, o + 25, none⟩) 2 (c - 25)) W := fun W => slS_sub b o n c 25 27 (by omega) (by omega) HN.out.1 HN.out.2 (by omega) W
  have S25 : Hid (Src X (.slice (some ⟨b, o + 25, none⟩) 2 (c - 25)) (sub l 25 2)) := src_sub SX.out 25 2 (by omega)
  have v13 := nu_ok (sub_ok HB.out.1 13 4) 4 (sub_le _ _ _)
  have v25 := nu_ok (sub_ok HB.out.1 25 2) 2 (sub_le _ _ _)
  obtain ⟨N5, e5⟩ : ∃ N, nu (sub l 5 8) = N := ⟨_, rfl⟩
  have E5 : Hid (nu (sub l 5 8) = N5) := e5
  obtain ⟨N13, e13⟩ : ∃ N, nu (sub l 13 4) = N := ⟨_, rfl⟩
  have E13 : Hid (nu (sub l 13 4) = N13) := e13
  obtain ⟨N17, e17⟩ : ∃ N, nu (sub l 17 8) = N := ⟨_, rfl⟩
  have E17 : Hid (nu (sub l 17 8) = N17) := e17
  obtain ⟨N25, e25⟩ : ∃ N, nu (sub l 25 2) = N := ⟨_, rfl⟩
  have E25 : Hid (nu (sub l 25 2) = N25) := e25
  rw [e13] at v13
  rw [e25] at v25
  clear e5 e13 e17 e25
  have u13 : IntKind.u32.wrap (N13 : Int) = N13 := IntWalk.u32_in _ (by omega)
  have u25 : IntKind.u16.wrap (N25 : Int) = N25 := IntWalk.u16_in _ (by omega)
  have stV := QX.out.pv.stv N5 N13 N17 N25
  have QY : Hid (RQ w (X.setRow mB (withV m0 N5 N13 N17 N25).cs) mB (withV m0 N5 N13 N17 N25)) := QX.out.set _
  obtain ⟨Y9, hY9⟩ : ∃ W, X.setRow mB (withV m0 N5 N13 N17 N25).cs = W := ⟨_, rfl⟩
  rw [hY9] at QY stV
  clear hY9
  refine wp_region_noPanic ?_
  refine wp_region_held_drew (S := fun _ => True) (by kernel_rfl) trivial (fun hHeld => ?_)
  rw [hX]
  clear hX
  refine wpAnyH_take (i := 0) (oi := { dst := some 44, op := Op.move (Operand.tmp 0), type := 33, pos := "ref.go:129", after := #[], guard := none }) (v := ?_) rfl (by kernel_rfl) (by kernel_rfl) (by kernel_rfl) (fun _ _ _ h => h) (Or.inl ⟨by rfl, ?_⟩) hHeld ?_
  rotate_left
  · intro W hSw
    first | (go_simp; done) | (go_simp; with_reducible rfl)
  rotate_left
  try simp only [Act.put, List.setIfInBounds_toArray, List.set_cons_zero, List.set_cons_succ]
  refine wpAnyH_take (i := 1) (oi := { dst := some 45, op := Op.slice 33 (Operand.tmp 44) (some (Operand.const (Value.int IntKind.i64 5))) (some (Operand.const (Value.int IntKind.i64 13))) none, type := 33, pos := "ref.go:129", after := #[{ on := 0, ground := Ground.data }], guard := none }) (v := ?_) rfl (by kernel_rfl) (by kernel_rfl) (by kernel_rfl) (fun _ _ _ h => h) (Or.inl ⟨by rfl, ?_⟩) hHeld ?_
  rotate_left
  · intro W hSw
    first | (go_simp; done) | (go_simp; with_reducible rfl)
  rotate_left
  try simp only [Act.put, List.setIfInBounds_toArray, List.set_cons_zero, List.set_cons_succ]
  refine wpAnyH_take (i := 3) (oi := { dst := some 47, op := Op.move (Operand.tmp 0), type := 33, pos := "ref.go:129", after := #[], guard := none }) (v := ?_) rfl (by kernel_rfl) (by kernel_rfl) (by kernel_rfl) (fun _ _ _ h => h) (Or.inl ⟨by rfl, ?_⟩) hHeld ?_
  rotate_left
  · intro W hSw
    first | (go_simp; done) | (go_simp; with_reducible rfl)
  rotate_left
  try simp only [Act.put, List.setIfInBounds_toArray, List.set_cons_zero, List.set_cons_succ]
  refine wpAnyH_take (i := 4) (oi := { dst := some 48, op := Op.slice 33 (Operand.tmp 47) (some (Operand.const (Value.int IntKind.i64 13))) (some (Operand.const (Value.int IntKind.i64 17))) none, type := 33, pos := "ref.go:129", after := #[{ on := 3, ground := Ground.data }], guard := none }) (v := ?_) rfl (by kernel_rfl) (by kernel_rfl) (by kernel_rfl) (fun _ _ _ h => h) (Or.inl ⟨by rfl, ?_⟩) hHeld ?_
  rotate_left
  · intro W hSw
    first | (go_simp; done) | (go_simp; with_reducible rfl)
  rotate_left
  try simp only [Act.put, List.setIfInBounds_toArray, List.set_cons_zero, List.set_cons_succ]
  refine wpAnyH_take (i := 7) (oi := { dst := some 51, op := Op.move (Operand.tmp 0), type := 33, pos := "ref.go:129", after := #[], guard := none }) (v := ?_) rfl (by kernel_rfl) (by kernel_rfl) (by kernel_rfl) (fun _ _ _ h => h) (Or.inl ⟨by rfl, ?_⟩) hHeld ?_
  rotate_left
  · intro W hSw
    first | (go_simp; done) | (go_simp; with_reducible rfl)
  rotate_left
  try simp only [Act.put, List.setIfInBounds_toArray, List.set_cons_zero, List.set_cons_succ]
  refine wpAnyH_take (i := 8) (oi := { dst := some 52, op := Op.slice 33 (Operand.tmp 51) (some (Operand.const (Value.int IntKind.i64 17))) (some (Operand.const (Value.int IntKind.i64 25))) none, type := 33, pos := "ref.go:129", after := #[{ on := 7, ground := Ground.data }], guard := none }) (v := ?_) rfl (by kernel_rfl) (by kernel_rfl) (by kernel_rfl) (fun _ _ _ h => h) (Or.inl ⟨by rfl, ?_⟩) hHeld ?_
  rotate_left
  · intro W hSw
    first | (go_simp; done) | (go_simp; with_reducible rfl)
  rotate_left
  try simp only [Act.put, List.setIfInBounds_toArray, List.set_cons_zero, List.set_cons_succ]
  refine wpAnyH_take (i := 10) (oi := { dst := some 54, op := Op.move (Operand.tmp 0), type := 33, pos := "ref.go:129", after := #[], guard := none }) (v := ?_) rfl (by kernel_rfl) (by kernel_rfl) (by kernel_rfl) (fun _ _ _ h => h) (Or.inl ⟨by rfl, ?_⟩) hHeld ?_
  rotate_left
  · intro W hSw
    first | (go_simp; done) | (go_simp; with_reducible rfl)
  rotate_left
  try simp only [Act.put, List.setIfInBounds_toArray, List.set_cons_zero, List.set_cons_succ]
  refine wpAnyH_take (i := 11) (oi := { dst := some 55, op := Op.slice 33 (Operand.tmp 54) (some (Operand.const (Value.int IntKind.i64 25))) (some (Operand.const (Value.int IntKind.i64 27))) none, type := 33, pos := "ref.go:129", after := #[{ on := 10, ground := Ground.data }], guard := none }) (v := ?_) rfl (by kernel_rfl) (by kernel_rfl) (by kernel_rfl) (fun _ _ _ h => h) (Or.inl ⟨by rfl, ?_⟩) hHeld ?_
  rotate_left
  · intro W hSw
    first | (go_simp; done) | (go_simp; with_reducible rfl)
  rotate_left
  try simp only [Act.put, List.setIfInBounds_toArray, List.set_cons_zero, List.set_cons_succ]
  refine wpAnyH_ready (rs := [2]) (by kernel_rfl) (by simp) ?_
  refine AllReadyH.cons (o := { dst := some 46, op := Op.call { callee := Callee.value (Operand.func 34), args := #[Operand.tmp 45], argTypes := #[33] }, type := 24, pos := "ref.go:129", after := #[{ on := 1, ground := Ground.data }], guard := none }) rfl (fun K hK => ?_) AllReadyH.nil
  go_simp
  refine (get_ref _ _ _ (sub l 5 8) X S5.out (sub_ok HB.out.1 _ _) (by rw [sub_len _ _ _ (by have := H35.out; omega)]; omega) (by rw [sub_len _ _ _ (by have := H35.out; omega)]; omega)).mono ?_
  rintro _ Y ⟨rfl, hY⟩
  rw [hY, E5.out]
  clear hY Y
  clear hHeld
  refine hK.out _ _ trivial (fun hHeld => ?_)
  clear hK K
  try simp only [Act.put, List.setIfInBounds_toArray, List.set_cons_zero, List.set_cons_succ]
  refine wpAnyH_ready (rs := [5]) (by kernel_rfl) (by simp) ?_
  refine AllReadyH.cons (o := { dst := some 49, op := Op.call { callee := Callee.value (Operand.func 34), args := #[Operand.tmp 48], argTypes := #[33] }, type := 24, pos := "ref.go:129", after := #[{ on := 4, ground := Ground.data }, { on := 2, ground := Ground.chain }], guard := none }) rfl (fun K hK => ?_) AllReadyH.nil
  go_simp
  refine (get_ref _ _ _ (sub l 13 4) X S13.out (sub_ok HB.out.1 _ _) (by rw [sub_len _ _ _ (by have := H35.out; omega)]; omega) (by rw [sub_len _ _ _ (by have := H35.out; omega)]; omega)).mono ?_
  rintro _ Y ⟨rfl, hY⟩
  rw [hY, E13.out]
  clear hY Y
  clear hHeld
  refine hK.out _ _ trivial (fun hHeld => ?_)
  clear hK K
  try simp only [Act.put, List.setIfInBounds_toArray, List.set_cons_zero, List.set_cons_succ]
  refine wpAnyH_take (i := 6) (oi := { dst := some 50, op := Op.convert 24 25 (Operand.tmp 49), type := 25, pos := "ref.go:129", after := #[{ on := 5, ground := Ground.data }], guard := none }) (v := ?_) rfl (by kernel_rfl) (by kernel_rfl) (by kernel_rfl) (fun _ _ _ h => h) (Or.inl ⟨by rfl, ?_⟩) hHeld ?_
  rotate_left
  · intro W hSw
    first | (go_simp; done) | (go_simp; with_reducible rfl)
  rotate_left
  try simp only [Act.put, List.setIfInBounds_toArray, List.set_cons_zero, List.set_cons_succ]
  refine wpAnyH_ready (rs := [9]) (by kernel_rfl) (by simp) ?_
  refine AllReadyH.cons (o := { dst := some 53, op := Op.call { callee := Callee.value (Operand.func 34), args := #[Operand.tmp 52], argTypes := #[33] }, type := 24, pos := "ref.go:129", after := #[{ on := 8, ground := Ground.data }, { on := 5, ground := Ground.chain }], guard := none }) rfl (fun K hK => ?_) AllReadyH.nil
  go_simp
  refine (get_ref _ _ _ (sub l 17 8) X S17.out (sub_ok HB.out.1 _ _) (by rw [sub_len _ _ _ (by have := H35.out; omega)]; omega) (by rw [sub_len _ _ _ (by have := H35.out; omega)]; omega)).mono ?_
  rintro _ Y ⟨rfl, hY⟩
  rw [hY, E17.out]
  clear hY Y
  clear hHeld
  refine hK.out _ _ trivial (fun hHeld => ?_)
  clear hK K
  try simp only [Act.put, List.setIfInBounds_toArray, List.set_cons_zero, List.set_cons_succ]
  refine wpAnyH_ready (rs := [12]) (by kernel_rfl) (by simp) ?_
  refine AllReadyH.cons (o := { dst := some 56, op := Op.call { callee := Callee.value (Operand.func 34), args := #[Operand.tmp 55], argTypes := #[33] }, type := 24, pos := "ref.go:129", after := #[{ on := 11, ground := Ground.data }, { on := 9, ground := Ground.chain }], guard := none }) rfl (fun K hK => ?_) AllReadyH.nil
  go_simp
  refine (get_ref _ _ _ (sub l 25 2) X S25.out (sub_ok HB.out.1 _ _) (by rw [sub_len _ _ _ (by have := H35.out; omega)]; omega) (by rw [sub_len _ _ _ (by have := H35.out; omega)]; omega)).mono ?_
  rintro _ Y ⟨rfl, hY⟩
  rw [hY, E25.out]
  clear hY Y
  clear hHeld
  refine hK.out _ _ trivial (fun hHeld => ?_)
  clear hK K
  try simp only [Act.put, List.setIfInBounds_toArray, List.set_cons_zero, List.set_cons_succ]
  refine wpAnyH_take (i := 13) (oi := { dst := some 57, op := Op.convert 24 26 (Operand.tmp 56), type := 26, pos := "ref.go:129", after := #[{ on := 12, ground := Ground.data }], guard := none }) (v := ?_) rfl (by kernel_rfl) (by kernel_rfl) (by kernel_rfl) (fun _ _ _ h => h) (Or.inl ⟨by rfl, ?_⟩) hHeld ?_
  rotate_left
  · intro W hSw
    first | (go_simp; done) | (go_simp; with_reducible rfl)
  rotate_left
  try simp only [Act.put, List.setIfInBounds_toArray, List.set_cons_zero, List.set_cons_succ]
  refine wpAnyH_take (i := 14) (oi := { dst := some 58, op := Op.build 28 #[(0, Operand.tmp 46), (1, Operand.tmp 50), (2, Operand.tmp 53), (3, Operand.tmp 57)], type := 28, pos := "ref.go:129", after := #[{ on := 2, ground := Ground.data }, { on := 6, ground := Ground.data }, { on := 9, ground := Ground.data }, { on := 13, ground := Ground.data }], guard := none }) (v := ?_) rfl (by kernel_rfl) (by kernel_rfl) (by kernel_rfl) (fun _ _ _ h => h) (Or.inl ⟨by rfl, ?_⟩) hHeld ?_
  rotate_left
  · intro W hSw
    first | (go_simp; done) | (go_simp; with_reducible rfl)
  rotate_left
  try simp only [Act.put, List.setIfInBounds_toArray, List.set_cons_zero, List.set_cons_succ]
  refine wpAnyH_take (i := 15) (oi := { dst := some 59, op := Op.fieldAddr 32 (Operand.tmp 4) 8, type := 0, pos := "ref.go:129", after := #[{ on := 0, ground := Ground.phase }, { on := 1, ground := Ground.phase }, { on := 2, ground := Ground.phase }, { on := 3, ground := Ground.phase }, { on := 4, ground := Ground.phase }, { on := 5, ground := Ground.phase }, { on := 6, ground := Ground.phase }, { on := 7, ground := Ground.phase }, { on := 8, ground := Ground.phase }, { on := 9, ground := Ground.phase }, { on := 10, ground := Ground.phase }, { on := 11, ground := Ground.phase }, { on := 12, ground := Ground.phase }, { on := 13, ground := Ground.phase }, { on := 14, ground := Ground.phase }], guard := none }) (v := ?_) rfl (by kernel_rfl) (by kernel_rfl) (by kernel_rfl) (fun _ _ _ h => h) (Or.inl ⟨by rfl, ?_⟩) hHeld ?_
  rotate_left
  · intro W hSw
    first | (go_simp; done) | (go_simp; with_reducible rfl)
  rotate_left
  try simp only [Act.put, List.setIfInBounds_toArray, List.set_cons_zero, List.set_cons_succ]
  refine wpAnyH_ready (rs := [16]) (by kernel_rfl) (by simp) ?_
  refine AllReadyH.cons (o := { dst := none, op := Op.store 28 (Operand.tmp 59) (Operand.tmp 58), type := 0, pos := "ref.go:129", after := #[{ on := 15, ground := Ground.data }, { on := 14, ground := Ground.data }, { on := 12, ground := Ground.chain }, { on := 0, ground := Ground.phase }, { on := 1, ground := Ground.phase }, { on := 2, ground := Ground.phase }, { on := 3, ground := Ground.phase }, { on := 4, ground := Ground.phase }, { on := 5, ground := Ground.phase }, { on := 6, ground := Ground.phase }, { on := 7, ground := Ground.phase }, { on := 8, ground := Ground.phase }, { on := 9, ground := Ground.phase }, { on := 10, ground := Ground.phase }, { on := 11, ground := Ground.phase }, { on := 12, ground := Ground.phase }, { on := 13, ground := Ground.phase }, { on := 14, ground := Ground.phase }], guard := none }) rfl (fun K hK => ?_) AllReadyH.nil
  go_simp
  clear hHeld
  refine hK.out _ _ trivial (fun hHeld => ?_)
  clear hK K
  try simp only [Act.put, List.setIfInBounds_toArray, List.set_cons_zero, List.set_cons_succ]
  refine wpAnyH_done (by kernel_rfl) ?_ _
  refine NoPanic.normal ?_
  clear hHeld
  clear sl5 sl13 sl17 sl25 S5 S13 S17 S25 stV QX SX u13 u25 v13 v25
  go_wp2_with fail
  obtain ⟨m1, hm1⟩ : ∃ m, withV m0 N5 N13 N17 N25 = m := ⟨_, rfl⟩
  rw [hm1] at QY
  have E1 : Hid (withV m0 N5 N13 N17 N25 = m1) := hm1
  clear hm1
  have QU : Hid (RQ w Y9.drew mB m1) := QY.out.drew
  obtain ⟨U, hU⟩ : ∃ X, Y9.drew = X := ⟨_, rfl⟩
  rw [hU] at QU
  have SU : Hid (Src U (.slice (some ⟨b, o, none⟩) n c) l) := EW.out.below QU.out.below
  have t27 := src_cell SU.out 27 (by have := H35.out; omega) HB.out.1
  obtain ⟨B27, f27⟩ : ∃ N, gn l 27 = N := ⟨_, rfl⟩
  rw [f27] at t27
  have D27 : Hid (gn l 27 = B27) := f27
  have n27 : (27 : Int) < (n : Int) := by omega
  have t29 := src_cell SU.out 29 (by have := H35.out; omega) HB.out.1
  obtain ⟨B29, f29⟩ : ∃ N, gn l 29 = N := ⟨_, rfl⟩
  rw [f29] at t29
  have D29 : Hid (gn l 29 = B29) := f29
  have n29 : (29 : Int) < (n : Int) := by omega
  have t31 := src_cell SU.out 31 (by have := H35.out; omega) HB.out.1
  obtain ⟨B31, f31⟩ : ∃ N, gn l 31 = N := ⟨_, rfl⟩
  rw [f31] at t31
  have D31 : Hid (gn l 31 = B31) := f31
  have n31 : (31 : Int) < (n : Int) := by omega
  have t33 := src_cell SU.out 33 (by have := H35.out; omega) HB.out.1
  obtain ⟨B33, f33⟩ : ∃ N, gn l 33 = N := ⟨_, rfl⟩
  rw [f33] at t33
  have D33 : Hid (gn l 33 = B33) := f33
  have n33 : (33 : Int) < (n : Int) := by omega
  have stT := QU.out.pv.stt B27 B29 B31 B33
  have QT : Hid (RQ w (U.setRow mB (withT m1 B27 B29 B31 B33).cs) mB (withT m1 B27 B29 B31 B33)) := QU.out.set _
  obtain ⟨T, hT⟩ : ∃ W, U.setRow mB (withT m1 B27 B29 B31 B33).cs = W := ⟨_, rfl⟩
  rw [hT] at QT stT
  clear hT f27 f29 f31 f33
  have C4 : Hid (T.cell? ⟨b, o + 27, none⟩ = some (.int .u8 (B27 : Nat)) ∧ T.cell? ⟨b, o + 29, none⟩ = some (.int .u8 (B29 : Nat)) ∧ T.cell? ⟨b, o + 31, none⟩ = some (.int .u8 (B31 : Nat)) ∧ T.cell? ⟨b, o + 33, none⟩ = some (.int .u8 (B33 : Nat))) := by
    have hs := EW.out.below QT.out.below
    rw [← D27.out, ← D29.out, ← D31.out, ← D33.out]
    exact ⟨src_cell hs 27 (by have := H35.out; omega) HB.out.1, src_cell hs 29 (by have := H35.out; omega) HB.out.1, src_cell hs 31 (by have := H35.out; omega) HB.out.1, src_cell hs 33 (by have := H35.out; omega) HB.out.1⟩
  refine wp_region_noPanic ?_
  refine wp_region_held_drew (S := fun w' => w'.cell? ⟨b, o + 27, none⟩ = some (.int .u8 (B27 : Nat)) ∧ w'.cell? ⟨b, o + 29, none⟩ = some (.int .u8 (B29 : Nat)) ∧ w'.cell? ⟨b, o + 31, none⟩ = some (.int .u8 (B31 : Nat)) ∧ w'.cell? ⟨b, o + 33, none⟩ = some (.int .u8 (B33 : Nat))) (by kernel_rfl) (by rw [hU]; exact ⟨t27, t29, t31, t33⟩) (fun hHeld => ?_)
  rw [hU] at hHeld ⊢
  clear hU
  refine wpAnyH_take (i := 0) (oi := { dst := some 60, op := Op.move (Operand.tmp 0), type := 33, pos := "ref.go:130", after := #[], guard := none }) (v := ?_) rfl (by kernel_rfl) (by kernel_rfl) (by kernel_rfl) (fun _ _ _ h => h) (Or.inl ⟨by rfl, ?_⟩) hHeld ?_
  rotate_left
  · intro W hSw
    obtain ⟨l1, l2, l3, l4⟩ := hSw
    first | (go_simp; done) | (go_simp; with_reducible rfl)
  rotate_left
  try simp only [Act.put, List.setIfInBounds_toArray, List.set_cons_zero, List.set_cons_succ]
  refine wpAnyH_take (i := 1) (oi := { dst := some 61, op := Op.indexAddr 33 (Operand.tmp 60) (Operand.const (Value.int IntKind.i64 27)), type := 0, pos := "ref.go:130", after := #[{ on := 0, ground := Ground.data }], guard := none }) (v := ?_) rfl (by kernel_rfl) (by kernel_rfl) (by kernel_rfl) (fun _ _ _ h => h) (Or.inl ⟨by rfl, ?_⟩) hHeld ?_
  rotate_left
  · intro W hSw
    obtain ⟨l1, l2, l3, l4⟩ := hSw
    first | (go_simp; done) | (go_simp; with_reducible rfl)
  rotate_left
  try simp only [Act.put, List.setIfInBounds_toArray, List.set_cons_zero, List.set_cons_succ]
  refine wpAnyH_take (i := 2) (oi := { dst := some 62, op := Op.load 5 (Operand.tmp 61), type := 5, pos := "ref.go:130", after := #[{ on := 1, ground := Ground.data }], guard := none }) (v := ?_) rfl (by kernel_rfl) (by kernel_rfl) (by kernel_rfl) (fun _ _ _ h => h) (Or.inl ⟨by rfl, ?_⟩) hHeld ?_
  rotate_left
  · intro W hSw
    obtain ⟨l1, l2, l3, l4⟩ := hSw
    first | (go_simp; done) | (go_simp; with_reducible rfl)
  rotate_left
  try simp only [Act.put, List.setIfInBounds_toArray, List.set_cons_zero, List.set_cons_succ]
  refine wpAnyH_take (i := 3) (oi := { dst := some 63, op := Op.move (Operand.tmp 0), type := 33, pos := "ref.go:130", after := #[], guard := none }) (v := ?_) rfl (by kernel_rfl) (by kernel_rfl) (by kernel_rfl) (fun _ _ _ h => h) (Or.inl ⟨by rfl, ?_⟩) hHeld ?_
  rotate_left
  · intro W hSw
    obtain ⟨l1, l2, l3, l4⟩ := hSw
    first | (go_simp; done) | (go_simp; with_reducible rfl)
  rotate_left
  try simp only [Act.put, List.setIfInBounds_toArray, List.set_cons_zero, List.set_cons_succ]
  refine wpAnyH_take (i := 4) (oi := { dst := some 64, op := Op.indexAddr 33 (Operand.tmp 63) (Operand.const (Value.int IntKind.i64 29)), type := 0, pos := "ref.go:130", after := #[{ on := 3, ground := Ground.data }], guard := none }) (v := ?_) rfl (by kernel_rfl) (by kernel_rfl) (by kernel_rfl) (fun _ _ _ h => h) (Or.inl ⟨by rfl, ?_⟩) hHeld ?_
  rotate_left
  · intro W hSw
    obtain ⟨l1, l2, l3, l4⟩ := hSw
    first | (go_simp; done) | (go_simp; with_reducible rfl)
  rotate_left
  try simp only [Act.put, List.setIfInBounds_toArray, List.set_cons_zero, List.set_cons_succ]
  refine wpAnyH_take (i := 5) (oi := { dst := some 65, op := Op.load 5 (Operand.tmp 64), type := 5, pos := "ref.go:130", after := #[{ on := 4, ground := Ground.data }], guard := none }) (v := ?_) rfl (by kernel_rfl) (by kernel_rfl) (by kernel_rfl) (fun _ _ _ h => h) (Or.inl ⟨by rfl, ?_⟩) hHeld ?_
  rotate_left
  · intro W hSw
    obtain ⟨l1, l2, l3, l4⟩ := hSw
    first | (go_simp; done) | (go_simp; with_reducible rfl)
  rotate_left
  try simp only [Act.put, List.setIfInBounds_toArray, List.set_cons_zero, List.set_cons_succ]
  refine wpAnyH_take (i := 6) (oi := { dst := some 66, op := Op.move (Operand.tmp 0), type := 33, pos := "ref.go:130", after := #[], guard := none }) (v := ?_) rfl (by kernel_rfl) (by kernel_rfl) (by kernel_rfl) (fun _ _ _ h => h) (Or.inl ⟨by rfl, ?_⟩) hHeld ?_
  rotate_left
  · intro W hSw
    obtain ⟨l1, l2, l3, l4⟩ := hSw
    first | (go_simp; done) | (go_simp; with_reducible rfl)
  rotate_left
  try simp only [Act.put, List.setIfInBounds_toArray, List.set_cons_zero, List.set_cons_succ]
  refine wpAnyH_take (i := 7) (oi := { dst := some 67, op := Op.indexAddr 33 (Operand.tmp 66) (Operand.const (Value.int IntKind.i64 31)), type := 0, pos := "ref.go:130", after := #[{ on := 6, ground := Ground.data }], guard := none }) (v := ?_) rfl (by kernel_rfl) (by kernel_rfl) (by kernel_rfl) (fun _ _ _ h => h) (Or.inl ⟨by rfl, ?_⟩) hHeld ?_
  rotate_left
  · intro W hSw
    obtain ⟨l1, l2, l3, l4⟩ := hSw
    first | (go_simp; done) | (go_simp; with_reducible rfl)
  rotate_left
  try simp only [Act.put, List.setIfInBounds_toArray, List.set_cons_zero, List.set_cons_succ]
  refine wpAnyH_take (i := 8) (oi := { dst := some 68, op := Op.load 5 (Operand.tmp 67), type := 5, pos := "ref.go:130", after := #[{ on := 7, ground := Ground.data }], guard := none }) (v := ?_) rfl (by kernel_rfl) (by kernel_rfl) (by kernel_rfl) (fun _ _ _ h => h) (Or.inl ⟨by rfl, ?_⟩) hHeld ?_
  rotate_left
  · intro W hSw
    obtain ⟨l1, l2, l3, l4⟩ := hSw
    first | (go_simp; done) | (go_simp; with_reducible rfl)
  rotate_left
  try simp only [Act.put, List.setIfInBounds_toArray, List.set_cons_zero, List.set_cons_succ]
  refine wpAnyH_take (i := 9) (oi := { dst := some 69, op := Op.move (Operand.tmp 0), type := 33, pos := "ref.go:130", after := #[], guard := none }) (v := ?_) rfl (by kernel_rfl) (by kernel_rfl) (by kernel_rfl) (fun _ _ _ h => h) (Or.inl ⟨by rfl, ?_⟩) hHeld ?_
  rotate_left
  · intro W hSw
    obtain ⟨l1, l2, l3, l4⟩ := hSw
    first | (go_simp; done) | (go_simp; with_reducible rfl)
  rotate_left
  try simp only [Act.put, List.setIfInBounds_toArray, List.set_cons_zero, List.set_cons_succ]
  refine wpAnyH_take (i := 10) (oi := { dst := some 70, op := Op.indexAddr 33 (Operand.tmp 69) (Operand.const (Value.int IntKind.i64 33)), type := 0, pos := "ref.go:130", after := #[{ on := 9, ground := Ground.data }], guard := none }) (v := ?_) rfl (by kernel_rfl) (by kernel_rfl) (by kernel_rfl) (fun _ _ _ h => h) (Or.inl ⟨by rfl, ?_⟩) hHeld ?_
  rotate_left
  · intro W hSw
    obtain ⟨l1, l2, l3, l4⟩ := hSw
    first | (go_simp; done) | (go_simp; with_reducible rfl)
  rotate_left
  try simp only [Act.put, List.setIfInBounds_toArray, List.set_cons_zero, List.set_cons_succ]
  refine wpAnyH_take (i := 11) (oi := { dst := some 71, op := Op.load 5 (Operand.tmp 70), type := 5, pos := "ref.go:130", after := #[{ on := 10, ground := Ground.data }], guard := none }) (v := ?_) rfl (by kernel_rfl) (by kernel_rfl) (by kernel_rfl) (fun _ _ _ h => h) (Or.inl ⟨by rfl, ?_⟩) hHeld ?_
  rotate_left
  · intro W hSw
    obtain ⟨l1, l2, l3, l4⟩ := hSw
    first | (go_simp; done) | (go_simp; with_reducible rfl)
  rotate_left
  try simp only [Act.put, List.setIfInBounds_toArray, List.set_cons_zero, List.set_cons_succ]
  refine wpAnyH_take (i := 12) (oi := { dst := some 72, op := Op.build 30 #[(0, Operand.tmp 62), (1, Operand.tmp 65), (2, Operand.tmp 68), (3, Operand.tmp 71)], type := 30, pos := "ref.go:130", after := #[{ on := 2, ground := Ground.data }, { on := 5, ground := Ground.data }, { on := 8, ground := Ground.data }, { on := 11, ground := Ground.data }], guard := none }) (v := ?_) rfl (by kernel_rfl) (by kernel_rfl) (by kernel_rfl) (fun _ _ _ h => h) (Or.inl ⟨by rfl, ?_⟩) hHeld ?_
  rotate_left
  · intro W hSw
    obtain ⟨l1, l2, l3, l4⟩ := hSw
    first | (go_simp; done) | (go_simp; with_reducible rfl)
  rotate_left
  try simp only [Act.put, List.setIfInBounds_toArray, List.set_cons_zero, List.set_cons_succ]
  refine wpAnyH_take (i := 13) (oi := { dst := some 73, op := Op.fieldAddr 32 (Operand.tmp 4) 9, type := 0, pos := "ref.go:130", after := #[{ on := 0, ground := Ground.phase }, { on := 1, ground := Ground.phase }, { on := 2, ground := Ground.phase }, { on := 3, ground := Ground.phase }, { on := 4, ground := Ground.phase }, { on := 5, ground := Ground.phase }, { on := 6, ground := Ground.phase }, { on := 7, ground := Ground.phase }, { on := 8, ground := Ground.phase }, { on := 9, ground := Ground.phase }, { on := 10, ground := Ground.phase }, { on := 11, ground := Ground.phase }, { on := 12, ground := Ground.phase }], guard := none }) (v := ?_) rfl (by kernel_rfl) (by kernel_rfl) (by kernel_rfl) (fun _ _ _ h => h) (Or.inl ⟨by rfl, ?_⟩) hHeld ?_
  rotate_left
  · intro W hSw
    obtain ⟨l1, l2, l3, l4⟩ := hSw
    first | (go_simp; done) | (go_simp; with_reducible rfl)
  rotate_left
  try simp only [Act.put, List.setIfInBounds_toArray, List.set_cons_zero, List.set_cons_succ]
  refine wpAnyH_ready (rs := [14]) (by kernel_rfl) (by simp) ?_
  refine AllReadyH.cons (o := { dst := none, op := Op.store 30 (Operand.tmp 73) (Operand.tmp 72), type := 0, pos := "ref.go:130", after := #[{ on := 13, ground := Ground.data }, { on := 12, ground := Ground.data }, { on := 0, ground := Ground.phase }, { on := 1, ground := Ground.phase }, { on := 2, ground := Ground.phase }, { on := 3, ground := Ground.phase }, { on := 4, ground := Ground.phase }, { on := 5, ground := Ground.phase }, { on := 6, ground := Ground.phase }, { on := 7, ground := Ground.phase }, { on := 8, ground := Ground.phase }, { on := 9, ground := Ground.phase }, { on := 10, ground := Ground.phase }, { on := 11, ground := Ground.phase }, { on := 12, ground := Ground.phase }], guard := none }) rfl (fun K hK => ?_) AllReadyH.nil
  go_simp
  clear hHeld
  refine hK.out _ _ C4.out (fun hHeld => ?_)
  clear hK K
  try simp only [Act.put, List.setIfInBounds_toArray, List.set_cons_zero, List.set_cons_succ]
  refine wpAnyH_done (by kernel_rfl) ?_ _
  refine NoPanic.normal ?_
  clear hHeld
  have eM : withT m1 B27 B29 B31 B33 = M := by
    rw [ER.out, ← E1.out, ← E0.out, ← E5.out, ← E13.out, ← E17.out, ← E25.out, ← D27.out, ← D29.out, ← D31.out, ← D33.out, ← EF.out]
    rfl
  have QM : Hid (RQ w T mB M) := by rw [← eM]; exact QT.out
  have lM := QM.out.pv.ld
  clear eM QT stT t27 t29 t31 t33 n27 n29 n31 n33 C4 QU SU
  go_wp2_with fail
  refine (bref_any M _ EV.out).mono ?_
  rintro _ W5 ⟨s5, rfl, o5, b5⟩
  have Z5 : Hid (RQ w W5 mB M) := QM.out.later b5
  have HC : Hid (chkP M = 50) := by show _ = _; unfold chkP; rw [EO.out]; rfl
  rw [HC.out]
  have x1 := o5.src.string
  have x2 := (EW.out.below Z5.out.below).string
  clear o5 b5 QM lM
  clear x1 x2
  have st := Z5.out.z.stk 0
  have HF : Hid (PvAt (W5.setRow w.heap.size zeroP.cs) w.heap.size zeroP ∧ Below w.heap.size w (W5.setRow w.heap.size zeroP.cs)) := ⟨Z5.out.z.set, below_setRow Z5.out.below (Nat.le_refl _) _⟩
  go_wp2
  refine bodyPost_ret (results_row2 rt32 Tryd.results13 _ _ _ _ _ rfl rfl HF.out.1 rfl) rfl ?_
  exact ⟨zeroP, 50, rfl, rr_no HB.out.2.1 EM.out (fun h _ => by rw [EO.out] at h; cases h), HF.out.2⟩

set_option maxHeartbeats 8000000 in
theorem rr_cfg_ne (b o n c : Nat) (M : Bp) (l : List Int) (w : World) (h : Src w (.slice (some ⟨b, o, none⟩) n c) l) (hb : ∀ x ∈ l, 0 ≤ x ∧ x ≤ 255) (h4 : 4 ≤ l.length) (h35 : 35 ≤ l.length) (hg : ¬ gn l 2 = 2) (hM : rcand l = M) (ho : okB M = true) (hq : beqL (mbytes M) l = false) :
    Calls Tryd.prog 13 #[.slice (some ⟨b, o, none⟩) n c] w fun r w' => ∃ m e, r = .returned (.tuple #[.agg (Bp.cs m), .int .i64 e]) ∧ RdOut l m e ∧ Below w.heap.size w w' := by
  obtain ⟨hn, hc, hm⟩ := src_short h
  have hbl : b < w.heap.size := by
    obtain ⟨b', o', e, hb', _⟩ := src_some h (by omega)
    cases e
    exact hb'
  have hz : PvAt (w.alloc (.cells #[.int .i64 0, .bool false, .bool false, .bool false, .bool false, .bool false, .bool false, .int .i64 0, .int .u64 0, .int .u32 0, .int .u64 0, .int .u16 0, .int .u8 0, .int .u8 0, .int .u8 0, .int .u8 0] 32)) w.heap.size zeroP := alloc_at w _
  have hB : Below w.heap.size w (w.alloc (.cells #[.int .i64 0, .bool false, .bool false, .bool false, .bool false, .bool false, .bool false, .int .i64 0, .int .u64 0, .int .u32 0, .int .u64 0, .int .u16 0, .int .u8 0, .int .u8 0, .int .u8 0, .int .u8 0] 32)) := (Below.refl _ _).alloc (Nat.le_refl _) _
  obtain ⟨W0, hW0⟩ : ∃ W, w.alloc (.cells #[.int .i64 0, .bool false, .bool false, .bool false, .bool false, .bool false, .bool false, .int .i64 0, .int .u64 0, .int .u32 0, .int .u64 0, .int .u16 0, .int .u8 0, .int .u8 0, .int .u8 0, .int .u8 0] 32) = W := ⟨_, rfl⟩
  rw [hW0] at hz hB
  have hn4 : ¬ (n : Int) < 4 := by omega
  have hn35 : (35 : Int) ≤ (n : Int) := by omega
  obtain ⟨W1, st1, r1, b1, z1⟩ := row_new rt32 W0 #[.int .i64 0, .bool false, .bool false, .bool false, .bool false, .bool false, .bool false, .int .i64 0, .int .u64 0, .int .u32 0, .int .u64 0, .int .u16 0, .int .u8 0, .int .u8 0, .int .u8 0, .int .u8 0] #[.int .i64 2, .bool false, .bool false, .bool false, .bool false, .bool false, .bool false, .int .i64 0, .int .u64 0, .int .u32 0, .int .u64 0, .int .u16 0, .int .u8 0, .int .u8 0, .int .u8 0, .int .u8 0] rfl rfl (kP 2).one
  have r1' : PvAt W1 W0.heap.size (kP 2) := r1
  have hlt0 := hz.lt
  have q1 : RQ w W1 W0.heap.size (kP 2) := ⟨hz.below b1, r1', below_over hB b1, hlt0⟩
  have HB : Hid ((∀ x ∈ l, 0 ≤ x ∧ x ≤ 255) ∧ 4 ≤ l.length ∧ n = l.length ∧ b < w.heap.size ∧ b < W0.heap.size) := ⟨hb, h4, hn, hbl, by omega⟩
  have EW : Hid (Src w (.slice (some ⟨b, o, none⟩) n c) l) := h
  have Q1 : Hid (RQ w W1 W0.heap.size (kP 2)) := q1
  have EM : Hid (rcand l = M) := hM
  have EV : Hid M.wf := by show M.wf; rw [← hM]; exact rw_wf hb
  have EO : Hid (okB M = true) := ho
  have EQ : Hid (beqL (mbytes M) l = false) := hq
  have H35 : Hid (35 ≤ l.length) := h35
  have k4 : W1.cell? ⟨b, o + 4, none⟩ = some (.int .u8 (gn l 4 : Nat)) := src_cell (h.below q1.below) 4 (by omega) hb
  have F0 := (gn_eq hb 4).2
  have ER : Hid (M = cfgR l) := by
    show M = _
    rw [← hM]
    unfold rcand
    rw [if_pos h35, if_neg hg]
  have k2' : ∀ W, Below w.heap.size w W → W.cell? ⟨b, o + 2, none⟩ = some (.int .u8 (gn l 2 : Nat)) := fun W hW => src_cell (h.below hW) 2 (by omega) hb
  have K2 : Hid (∀ W, Below w.heap.size w W → W.cell? ⟨b, o + 2, none⟩ = some (.int .u8 (gn l 2 : Nat))) := k2'
  obtain ⟨F, hF⟩ : ∃ F, gn l 4 = F := ⟨_, rfl⟩
  rw [hF] at k4 F0
  have EF : Hid (gn l 4 = F) := hF
  have EG : Hid (¬ gn l 2 = 2) := hg
  have n4 : (4 : Int) < (n : Int) := by omega
  have n2 : (2 : Int) < (n : Int) := by omega
  have HN : Hid (n ≤ c ∧ c ≤ maxLen) := ⟨hc, hm⟩
  unfold maxLen at hm
  clear h hb h4 h35 hM ho hn hc r1 r1' b1 z1 hlt0 q1 hz hB hbl hg hF k2' hq
  go_enter Tryd.func13, Tryd.ntmps13
  go_wp2_with fail
  refine (bit_ref F _ 1 (by rfl) _ (by omega) (by omega) (by omega)).mono ?_
  rintro _ Y ⟨rfl, hY⟩
  rw [hY]
  clear hY Y
  go_wp2_with fail
  refine (bit_ref F _ 128 (by rfl) _ (by omega) (by omega) (by omega)).mono ?_
  rintro _ Y ⟨rfl, hY⟩
  rw [hY]
  clear hY Y
  obtain ⟨mB, hmB⟩ : ∃ x, W0.heap.size = x := ⟨_, rfl⟩
  rw [hmB] at Q1 HB ⊢
  clear hmB st1
  have st2 : (stS 32 (.pointer (some ⟨mB, 0, none⟩)) (.agg #[.int .i64 1, .bool (flB F 1), .bool (flB F 128), .bool false, .bool false, .bool false, .bool false, .int .i64 0, .int .u64 0, .int .u32 0, .int .u64 0, .int .u16 0, .int .u8 0, .int .u8 0, .int .u8 0, .int .u8 0])).run Tryd.prog W1 = .ok () (W1.setRow mB (⟨1, (flB F 1), (flB F 128), false, false, false, false, 0, 0, 0, 0, 0, 0, 0, 0, 0⟩ : Bp).cs) := Q1.out.pv.st (n := (⟨1, (flB F 1), (flB F 128), false, false, false, false, 0, 0, 0, 0, 0, 0, 0, 0, 0⟩ : Bp))
  have Q2 : Hid (RQ w (W1.setRow mB (⟨1, (flB F 1), (flB F 128), false, false, false, false, 0, 0, 0, 0, 0, 0, 0, 0, 0⟩ : Bp).cs) mB (⟨1, (flB F 1), (flB F 128), false, false, false, false, 0, 0, 0, 0, 0, 0, 0, 0, 0⟩ : Bp)) := Q1.out.set _
  obtain ⟨W2, hW2⟩ : ∃ W, W1.setRow mB (⟨1, (flB F 1), (flB F 128), false, false, false, false, 0, 0, 0, 0, 0, 0, 0, 0, 0⟩ : Bp).cs = W := ⟨_, rfl⟩
  rw [hW2] at st2 Q2
  have g2 := K2.out W2 Q2.out.below
  obtain ⟨G, hG⟩ : ∃ G, gn l 2 = G := ⟨_, rfl⟩
  rw [hG] at g2 EG
  have hG2 : ¬ (G : Int) = 2 := by have := EG.out; omega
  clear hW2 hG k4 Q1
  go_wp2_with fail
  clear st2 g2 hG2
  obtain ⟨m0, hm0⟩ : ∃ m, (⟨1, (flB F 1), (flB F 128), false, false, false, false, 0, 0, 0, 0, 0, 0, 0, 0, 0⟩ : Bp) = m := ⟨_, rfl⟩
  rw [hm0] at Q2
  have E0 : Hid ((⟨1, (flB F 1), (flB F 128), false, false, false, false, 0, 0, 0, 0, 0, 0, 0, 0, 0⟩ : Bp) = m0) := hm0
  clear hm0
  have QX : Hid (RQ w W2.drew mB m0) := Q2.out.drew
  obtain ⟨X, hX⟩ : ∃ X, W2.drew = X := ⟨_, rfl⟩
  rw [hX] at QX
  have SX : Hid (Src X (.slice (some ⟨b, o, none⟩) n c) l) := EW.out.below QX.out.below
  have sl5 : ∀ W, (slS (.slice (some ⟨b, o, none⟩) n c) (some (.int .i64 5)) (some (.int .i64 13)) none).run Tryd.prog W = .ok (.slice (some ⟨b, o + 5, none⟩) 8 (c - 5)) W := fun W => slS_sub b o n c 5 13 (by omega) (by omega) HN.out.1 HN.out.2 (by omega) W
  have S5 : Hid (Src X (.slice (some ⟨b, o + 5, none⟩) 8 (c - 5)) (sub l 5 8)) := src_sub SX.out 5 8 (by omega)
  have sl13 : ∀ W, (slS (.slice (some ⟨b, o, none⟩) n c) (some (.int .i64 13)) (some (.int .i64 17)) none).run Tryd.prog W = .ok (.slice (some ⟨b, o + 13, none⟩) 4 (c - 13)) W := fun W => slS_sub b o n c 13 17 (by omega) (by omega) HN.out.1 HN.out.2 (by omega) W
  have S13 : Hid (Src X (.slice (some ⟨b, o + 13, none⟩) 4 (c - 13)) (sub l 13 4)) := src_sub SX.out 13 4 (by omega)
  have sl17 : ∀ W, (slS (.slice (some ⟨b, o, none⟩) n c) (some (.int .i64 17)) (some (.int .i64 25)) none).run Tryd.prog W = .ok (.slice (some ⟨b, o + 17, none⟩) 8 (c - 17)) W := fun W => slS_sub b o n c 17 25 (by omega) (by omega) HN.out.1 HN.out.2 (by omega) W
  have S17 : Hid (Src X (.slice (some ⟨b, o + 17, none⟩) 8 (c - 17)) (sub l 17 8)) := src_sub SX.out 17 8 (by omega)
  have sl25 : ∀ W, (slS (.slice (some ⟨b, o, none⟩) n c) (some (.int .i64 25)) (some (.int .i64 27)) none).run Tryd.prog W = .ok (.slice (some ⟨b, o + 25, none⟩) 2 (c - 25)) W := fun W => slS_sub b o n c 25 27 (by omega) (by omega) HN.out.1 HN.out.2 (by omega) W
  have S25 : Hid (Src X (.slice (some ⟨b, o + 25, none⟩) 2 (c - 25)) (sub l 25 2)) := src_sub SX.out 25 2 (by omega)
  have v13 := nu_ok (sub_ok HB.out.1 13 4) 4 (sub_le _ _ _)
  have v25 := nu_ok (sub_ok HB.out.1 25 2) 2 (sub_le _ _ _)
  obtain ⟨N5, e5⟩ : ∃ N, nu (sub l 5 8) = N := ⟨_, rfl⟩
  have E5 : Hid (nu (sub l 5 8) = N5) := e5
  obtain ⟨N13, e13⟩ : ∃ N, nu (sub l 13 4) = N := ⟨_, rfl⟩
  have E13 : Hid (nu (sub l 13 4) = N13) := e13
  obtain ⟨N17, e17⟩ : ∃ N, nu (sub l 17 8) = N := ⟨_, rfl⟩
  have E17 : Hid (nu (sub l 17 8) = N17) := e17
  obtain ⟨N25, e25⟩ : ∃ N, nu (sub l 25 2) = N := ⟨_, rfl⟩
  have E25 : Hid (nu (sub l 25 2) = N25) := e25
  rw [e13] at v13
  rw [e25] at v25
  clear e5 e13 e17 e25
  have u13 : IntKind.u32.wrap (N13 : Int) = N13 := IntWalk.u32_in _ (by omega)
  have u25 : IntKind.u16.wrap (N25 : Int) = N25 := IntWalk.u16_in _ (by omega)
  have stV := QX.out.pv.stv N5 N13 N17 N25
  have QY : Hid (RQ w (X.setRow mB (withV m0 N5 N13 N17 N25).cs) mB (withV m0 N5 N13 N17 N25)) := QX.out.set _
  obtain ⟨Y9, hY9⟩ : ∃ W, X.setRow mB (withV m0 N5 N13 N17 N25).cs = W := ⟨_, rfl⟩
  rw [hY9] at QY stV
  clear hY9
  refine wp_region_noPanic ?_
  refine wp_region_held_drew (S := fun _ => True) (by kernel_rfl) trivial (fun hHeld => ?_)
  rw [hX]
  clear hX
  refine wpAnyH_take (i := 0) (oi := { dst := some 44, op := Op.move (Operand.tmp 0), type := 33, pos := "ref.go:129", after := #[], guard := none }) (v := ?_) rfl (by kernel_rfl) (by kernel_rfl) (by kernel_rfl) (fun _ _ _ h => h) (Or.inl ⟨by rfl, ?_⟩) hHeld ?_
  rotate_left
  · intro W hSw
    first | (go_simp; done) | (go_simp; with_reducible rfl)
  rotate_left
  try simp only [Act.put, List.setIfInBounds_toArray, List.set_cons_zero, List.set_cons_succ]
  refine wpAnyH_take (i := 1) (oi := { dst := some 45, op := Op.slice 33 (Operand.tmp 44) (some (Operand.const (Value.int IntKind.i64 5))) (some (Operand.const (Value.int IntKind.i64 13))) none, type := 33, pos := "ref.go:129", after := #[{ on := 0, ground := Ground.data }], guard := none }) (v := ?_) rfl (by kernel_rfl) (by kernel_rfl) (by kernel_rfl) (fun _ _ _ h => h) (Or.inl ⟨by rfl, ?_⟩) hHeld ?_
  rotate_left
  · intro W hSw
    first | (go_simp; done) | (go_simp; with_reducible rfl)
  rotate_left
  try simp only [Act.put, List.setIfInBounds_toArray, List.set_cons_zero, List.set_cons_succ]
  refine wpAnyH_take (i := 3) (oi := { dst := some 47, op := Op.move (Operand.tmp 0), type := 33, pos := "ref.go:129", after := #[], guard := none }) (v := ?_) rfl (by kernel_rfl) (by kernel_rfl) (by kernel_rfl) (fun _ _ _ h => h) (Or.inl ⟨by rfl, ?_⟩) hHeld ?_
  rotate_left
  · intro W hSw
    first | (go_simp; done) | (go_simp; with_reducible rfl)
  rotate_left
  try simp only [Act.put, List.setIfInBounds_toArray, List.set_cons_zero, List.set_cons_succ]
  refine wpAnyH_take (i := 4) (oi := { dst := some 48, op := Op.slice 33 (Operand.tmp 47) (some (Operand.const (Value.int IntKind.i64 13))) (some (Operand.const (Value.int IntKind.i64 17))) none, type := 33, pos := "ref.go:129", after := #[{ on := 3, ground := Ground.data }], guard := none }) (v := ?_) rfl (by kernel_rfl) (by kernel_rfl) (by kernel_rfl) (fun _ _ _ h => h) (Or.inl ⟨by rfl, ?_⟩) hHeld ?_
  rotate_left
  · intro W hSw
    first | (go_simp; done) | (go_simp; with_reducible rfl)
  rotate_left
  try simp only [Act.put, List.setIfInBounds_toArray, List.set_cons_zero, List.set_cons_succ]
  refine wpAnyH_take (i := 7) (oi := { dst := some 51, op := Op.move (Operand.tmp 0), type := 33, pos := "ref.go:129", after := #[], guard := none }) (v := ?_) rfl (by kernel_rfl) (by kernel_rfl) (by kernel_rfl) (fun _ _ _ h => h) (Or.inl ⟨by rfl, ?_⟩) hHeld ?_
  rotate_left
  · intro W hSw
    first | (go_simp; done) | (go_simp; with_reducible rfl)
  rotate_left
  try simp only [Act.put, List.setIfInBounds_toArray, List.set_cons_zero, List.set_cons_succ]
  refine wpAnyH_take (i := 8) (oi := { dst := some 52, op := Op.slice 33 (Operand.tmp 51) (some (Operand.const (Value.int IntKind.i64 17))) (some (Operand.const (Value.int IntKind.i64 25))) none, type := 33, pos := "ref.go:129", after := #[{ on := 7, ground := Ground.data }], guard := none }) (v := ?_) rfl (by kernel_rfl) (by kernel_rfl) (by kernel_rfl) (fun _ _ _ h => h) (Or.inl ⟨by rfl, ?_⟩) hHeld ?_
  rotate_left
  · intro W hSw
    first | (go_simp; done) | (go_simp; with_reducible rfl)
  rotate_left
  try simp only [Act.put, List.setIfInBounds_toArray, List.set_cons_zero, List.set_cons_succ]
  refine wpAnyH_take (i := 10) (oi := { dst := some 54, op := Op.move (Operand.tmp 0), type := 33, pos := "ref.go:129", after := #[], guard := none }) (v := ?_) rfl (by kernel_rfl) (by kernel_rfl) (by kernel_rfl) (fun _ _ _ h => h) (Or.inl ⟨by rfl, ?_⟩) hHeld ?_
  rotate_left
  · intro W hSw
    first | (go_simp; done) | (go_simp; with_reducible rfl)
  rotate_left
  try simp only [Act.put, List.setIfInBounds_toArray, List.set_cons_zero, List.set_cons_succ]
  refine wpAnyH_take (i := 11) (oi := { dst := some 55, op := Op.slice 33 (Operand.tmp 54) (some (Operand.const (Value.int IntKind.i64 25))) (some (Operand.const (Value.int IntKind.i64 27))) none, type := 33, pos := "ref.go:129", after := #[{ on := 10, ground := Ground.data }], guard := none }) (v := ?_) rfl (by kernel_rfl) (by kernel_rfl) (by kernel_rfl) (fun _ _ _ h => h) (Or.inl ⟨by rfl, ?_⟩) hHeld ?_
  rotate_left
  · intro W hSw
    first | (go_simp; done) | (go_simp; with_reducible rfl)
  rotate_left
  try simp only [Act.put, List.setIfInBounds_toArray, List.set_cons_zero, List.set_cons_succ]
  refine wpAnyH_ready (rs := [2]) (by kernel_rfl) (by simp) ?_
  refine AllReadyH.cons (o := { dst := some 46, op := Op.call { callee := Callee.value (Operand.func 34), args := #[Operand.tmp 45], argTypes := #[33] }, type := 24, pos := "ref.go:129", after := #[{ on := 1, ground := Ground.data }], guard := none }) rfl (fun K hK => ?_) AllReadyH.nil
  go_simp
  refine (get_ref _ _ _ (sub l 5 8) X S5.out (sub_ok HB.out.1 _ _) (by rw [sub_len _ _ _ (by have := H35.out; omega)]; omega) (by rw [sub_len _ _ _ (by have := H35.out; omega)]; omega)).mono ?_
  rintro _ Y ⟨rfl, hY⟩
  rw [hY, E5.out]
  clear hY Y
  clear hHeld
  refine hK.out _ _ trivial (fun hHeld => ?_)
  clear hK K
  try simp only [Act.put, List.setIfInBounds_toArray, List.set_cons_zero, List.set_cons_succ]
  refine wpAnyH_ready (rs := [5]) (by kernel_rfl) (by simp) ?_
  refine AllReadyH.cons (o := { dst := some 49, op := Op.call { callee := Callee.value (Operand.func 34), args := #[Operand.tmp 48], argTypes := #[33] }, type := 24, pos := "ref.go:129", after := #[{ on := 4, ground := Ground.data }, { on := 2, ground := Ground.chain }], guard := none }) rfl (fun K hK => ?_) AllReadyH.nil
  go_simp
  refine (get_ref _ _ _ (sub l 13 4) X S13.out (sub_ok HB.out.1 _ _) (by rw [sub_len _ _ _ (by have := H35.out; omega)]; omega) (by rw [sub_len _ _ _ (by have := H35.out; omega)]; omega)).mono ?_
  rintro _ Y ⟨rfl, hY⟩
  rw [hY, E13.out]
  clear hY Y
  clear hHeld
  refine hK.out _ _ trivial (fun hHeld => ?_)
  clear hK K
  try simp only [Act.put, List.setIfInBounds_toArray, List.set_cons_zero, List.set_cons_succ]
  refine wpAnyH_take (i := 6) (oi := { dst := some 50, op := Op.convert 24 25 (Operand.tmp 49), type := 25, pos := "ref.go:129", after := #[{ on := 5, ground := Ground.data }], guard := none }) (v := ?_) rfl (by kernel_rfl) (by kernel_rfl) (by kernel_rfl) (fun _ _ _ h => h) (Or.inl ⟨by rfl, ?_⟩) hHeld ?_
  rotate_left
  · intro W hSw
    first | (go_simp; done) | (go_simp; with_reducible rfl)
  rotate_left
  try simp only [Act.put, List.setIfInBounds_toArray, List.set_cons_zero, List.set_cons_succ]
  refine wpAnyH_ready (rs := [9]) (by kernel_rfl) (by simp) ?_
  refine AllReadyH.cons (o := { dst := some 53, op := Op.call { callee := Callee.value (Operand.func 34), args := #[Operand.tmp 52], argTypes := #[33] }, type := 24, pos := "ref.go:129", after := #[{ on := 8, ground := Ground.data }, { on := 5, ground := Ground.chain }], guard := none }) rfl (fun K hK => ?_) AllReadyH.nil
  go_simp
  refine (get_ref _ _ _ (sub l 17 8) X S17.out (sub_ok HB.out.1 _ _) (by rw [sub_len _ _ _ (by have := H35.out; omega)]; omega) (by rw [sub_len _ _ _ (by have := H35.out; omega)]; omega)).mono ?_
  rintro _ Y ⟨rfl, hY⟩
  rw [hY, E17.out]
  clear hY Y
  clear hHeld
  refine hK.out _ _ trivial (fun hHeld => ?_)
  clear hK K
  try simp only [Act.put, List.setIfInBounds_toArray, List.set_cons_zero, List.set_cons_succ]
  refine wpAnyH_ready (rs := [12]) (by kernel_rfl) (by simp) ?_
  refine AllReadyH.cons (o := { dst := some 56, op := Op.call { callee := Callee.value (Operand.func 34), args := #[Operand.tmp 55], argTypes := #[33] }, type := 24, pos := "ref.go:129", after := #[{ on := 11, ground := Ground.data }, { on := 9, ground := Ground.chain }], guard := none }) rfl (fun K hK => ?_) AllReadyH.nil
  go_simp
  refine (get_ref _ _ _ (sub l 25 2) X S25.out (sub_ok HB.out.1 _ _) (by rw [sub_len _ _ _ (by have := H35.out; omega)]; omega) (by rw [sub_len _ _ _ (by have := H35.out; omega)]; omega)).mono ?_
  rintro _ Y ⟨rfl, hY⟩
  rw [hY, E25.out]
  clear hY Y
  clear hHeld
  refine hK.out _ _ trivial (fun hHeld => ?_)
  clear hK K
  try simp only [Act.put, List.setIfInBounds_toArray, List.set_cons_zero, List.set_cons_succ]
  refine wpAnyH_take (i := 13) (oi := { dst := some 57, op := Op.convert 24 26 (Operand.tmp 56), type := 26, pos := "ref.go:129", after := #[{ on := 12, ground := Ground.data }], guard := none }) (v := ?_) rfl (by kernel_rfl) (by kernel_rfl) (by kernel_rfl) (fun _ _ _ h => h) (Or.inl ⟨by rfl, ?_⟩) hHeld ?_
  rotate_left
  · intro W hSw
    first | (go_simp; done) | (go_simp; with_reducible rfl)
  rotate_left
  try simp only [Act.put, List.setIfInBounds_toArray, List.set_cons_zero, List.set_cons_succ]
  refine wpAnyH_take (i := 14) (oi := { dst := some 58, op := Op.build 28 #[(0, Operand.tmp 46), (1, Operand.tmp 50), (2, Operand.tmp 53), (3, Operand.tmp 57)], type := 28, pos := "ref.go:129", after := #[{ on := 2, ground := Ground.data }, { on := 6, ground := Ground.data }, { on := 9, ground := Ground.data }, { on := 13, ground := Ground.data }], guard := none }) (v := ?_) rfl (by kernel_rfl) (by kernel_rfl) (by kernel_rfl) (fun _ _ _ h => h) (Or.inl ⟨by rfl, ?_⟩) hHeld ?_
  rotate_left
  · intro W hSw
    first | (go_simp; done) | (go_simp; with_reducible rfl)
  rotate_left
  try simp only [Act.put, List.setIfInBounds_toArray, List.set_cons_zero, List.set_cons_succ]
  refine wpAnyH_take (i := 15) (oi := { dst := some 59, op := Op.fieldAddr 32 (Operand.tmp 4) 8, type := 0, pos := "ref.go:129", after := #[{ on := 0, ground := Ground.phase }, { on := 1, ground := Ground.phase }, { on := 2, ground := Ground.phase }, { on := 3, ground := Ground.phase }, { on := 4, ground := Ground.phase }, { on := 5, ground := Ground.phase }, { on := 6, ground := Ground.phase }, { on := 7, ground := Ground.phase }, { on := 8, ground := Ground.phase }, { on := 9, ground := Ground.phase }, { on := 10, ground := Ground.phase }, { on := 11, ground := Ground.phase }, { on := 12, ground := Ground.phase }, { on := 13, ground := Ground.phase }, { on := 14, ground := Ground.phase }], guard := none }) (v := ?_) rfl (by kernel_rfl) (by kernel_rfl) (by kernel_rfl) (fun _ _ _ h => h) (Or.inl ⟨by rfl, ?_⟩) hHeld ?_
  rotate_left
  · intro W hSw
    first | (go_simp; done) | (go_simp; with_reducible rfl)
  rotate_left
  try simp only [Act.put, List.setIfInBounds_toArray, List.set_cons_zero, List.set_cons_succ]
  refine wpAnyH_ready (rs := [16]) (by kernel_rfl) (by simp) ?_
  refine AllReadyH.cons (o := { dst := none, op := Op.store 28 (Operand.tmp 59) (Operand.tmp 58), type := 0, pos := "ref.go:129", after := #[{ on := 15, ground := Ground.data }, { on := 14, ground := Ground.data }, { on := 12, ground := Ground.chain }, { on := 0, ground := Ground.phase }, { on := 1, ground := Ground.phase }, { on := 2, ground := Ground.phase }, { on := 3, ground := Ground.phase }, { on := 4, ground := Ground.phase }, { on := 5, ground := Ground.phase }, { on := 6, ground := Ground.phase }, { on := 7, ground := Ground.phase }, { on := 8, ground := Ground.phase }, { on := 9, ground := Ground.phase }, { on := 10, ground := Ground.phase }, { on := 11, ground := Ground.phase }, { on := 12, ground := Ground.phase }, { on := 13, ground := Ground.phase }, { on := 14, ground := Ground.phase }], guard := none }) rfl (fun K hK => ?_) AllReadyH.nil
  go_simp
  clear hHeld
  refine hK.out _ _ trivial (fun hHeld => ?_)
  clear hK K
  try simp only [Act.put, List.setIfInBounds_toArray, List.set_cons_zero, List.set_cons_succ]
  refine wpAnyH_done (by kernel_rfl) ?_ _
  refine NoPanic.normal ?_
  clear hHeld
  clear sl5 sl13 sl17 sl25 S5 S13 S17 S25 stV QX SX u13 u25 v13 v25
  go_wp2_with fail
  obtain ⟨m1, hm1⟩ : ∃ m, withV m0 N5 N13 N17 N25 = m := ⟨_, rfl⟩
  rw [hm1] at QY
  have E1 : Hid (withV m0 N5 N13 N17 N25 = m1) := hm1
  clear hm1
  have QU : Hid (RQ w Y9.drew mB m1) := QY.out.drew
  obtain ⟨U, hU⟩ : ∃ X, Y9.drew = X := ⟨_, rfl⟩
  rw [hU] at QU
  have SU : Hid (Src U (.slice (some ⟨b, o, none⟩) n c) l) := EW.out.below QU.out.below
  have t27 := src_cell SU.out 27 (by have := H35.out; omega) HB.out.1
  obtain ⟨B27, f27⟩ : ∃ N, gn l 27 = N := ⟨_, rfl⟩
  rw [f27] at t27
  have D27 : Hid (gn l 27 = B27) := f27
  have n27 : (27 : Int) < (n : Int) := by omega
  have t29 := src_cell SU.out 29 (by have := H35.out; omega) HB.out.1
  obtain ⟨B29, f29⟩ : ∃ N, gn l 29 = N := ⟨_, rfl⟩
  rw [f29] at t29
  have D29 : Hid (gn l 29 = B29) := f29
  have n29 : (29 : Int) < (n : Int) := by omega
  have t31 := src_cell SU.out 31 (by have := H35.out; omega) HB.out.1
  obtain ⟨B31, f31⟩ : ∃ N, gn l 31 = N := ⟨_, rfl⟩
  rw [f31] at t31
  have D31 : Hid (gn l 31 = B31) := f31
  have n31 : (31 : Int) < (n : Int) := by omega
  have t33 := src_cell SU.out 33 (by have := H35.out; omega) HB.out.1
  obtain ⟨B33, f33⟩ : ∃ N, gn l 33 = N := ⟨_, rfl⟩
  rw [f33] at t33
  have D33 : Hid (gn l 33 = B33) := f33
  have n33 : (33 : Int) < (n : Int) := by omega
  have stT := QU.out.pv.stt B27 B29 B31 B33
  have QT : Hid (RQ w (U.setRow mB (withT m1 B27 B29 B31 B33).cs) mB (withT m1 B27 B29 B31 B33)) := QU.out.set _
  obtain ⟨T, hT⟩ : ∃ W, U.setRow mB (withT m1 B27 B29 B31 B33).cs = W := ⟨_, rfl⟩
  rw [hT] at QT stT
  clear hT f27 f29 f31 f33
  have C4 : Hid (T.cell? ⟨b, o + 27, none⟩ = some (.int .u8 (B27 : Nat)) ∧ T.cell? ⟨b, o + 29, none⟩ = some (.int .u8 (B29 : Nat)) ∧ T.cell? ⟨b, o + 31, none⟩ = some (.int .u8 (B31 : Nat)) ∧ T.cell? ⟨b, o + 33, none⟩ = some (.int .u8 (B33 : Nat))) := by
    have hs := EW.out.below QT.out.below
    rw [← D27.out, ← D29.out, ← D31.out, ← D33.out]
    exact ⟨src_cell hs 27 (by have := H35.out; omega) HB.out.1, src_cell hs 29 (by have := H35.out; omega) HB.out.1, src_cell hs 31 (by have := H35.out; omega) HB.out.1, src_cell hs 33 (by have := H35.out; omega) HB.out.1⟩
  refine wp_region_noPanic ?_
  refine wp_region_held_drew (S := fun w' => w'.cell? ⟨b, o + 27, none⟩ = some (.int .u8 (B27 : Nat)) ∧ w'.cell? ⟨b, o + 29, none⟩ = some (.int .u8 (B29 : Nat)) ∧ w'.cell? ⟨b, o + 31, none⟩ = some (.int .u8 (B31 : Nat)) ∧ w'.cell? ⟨b, o + 33, none⟩ = some (.int .u8 (B33 : Nat))) (by kernel_rfl) (by rw [hU]; exact ⟨t27, t29, t31, t33⟩) (fun hHeld => ?_)
  rw [hU] at hHeld ⊢
  clear hU
  refine wpAnyH_take (i := 0) (oi := { dst := some 60, op := Op.move (Operand.tmp 0), type := 33, pos := "ref.go:130", after := #[], guard := none }) (v := ?_) rfl (by kernel_rfl) (by kernel_rfl) (by kernel_rfl) (fun _ _ _ h => h) (Or.inl ⟨by rfl, ?_⟩) hHeld ?_
  rotate_left
  · intro W hSw
    obtain ⟨l1, l2, l3, l4⟩ := hSw
    first | (go_simp; done) | (go_simp; with_reducible rfl)
  rotate_left
  try simp only [Act.put, List.setIfInBounds_toArray, List.set_cons_zero, List.set_cons_succ]
  refine wpAnyH_take (i := 1) (oi := { dst := some 61, op := Op.indexAddr 33 (Operand.tmp 60) (Operand.const (Value.int IntKind.i64 27)), type := 0, pos := "ref.go:130", after := #[{ on := 0, ground := Ground.data }], guard := none }) (v := ?_) rfl (by kernel_rfl) (by kernel_rfl) (by kernel_rfl) (fun _ _ _ h => h) (Or.inl ⟨by rfl, ?_⟩) hHeld ?_
  rotate_left
  · intro W hSw
    obtain ⟨l1, l2, l3, l4⟩ := hSw
    first | (go_simp; done) | (go_simp; with_reducible rfl)
  rotate_left
  try simp only [Act.put, List.setIfInBounds_toArray, List.set_cons_zero, List.set_cons_succ]
  refine wpAnyH_take (i := 2) (oi := { dst := some 62, op := Op.load 5 (Operand.tmp 61), type := 5, pos := "ref.go:130", after := #[{ on := 1, ground := Ground.data }], guard := none }) (v := ?_) rfl (by kernel_rfl) (by kernel_rfl) (by kernel_rfl) (fun _ _ _ h => h) (Or.inl ⟨by rfl, ?_⟩) hHeld ?_
  rotate_left
  · intro W hSw
    obtain ⟨l1, l2, l3, l4⟩ := hSw
    first | (go_simp; done) | (go_simp; with_reducible rfl)
  rotate_left
  try simp only [Act.put, List.setIfInBounds_toArray, List.set_cons_zero, List.set_cons_succ]
  refine wpAnyH_take (i := 3) (oi := { dst := some 63, op := Op.move (Operand.tmp 0), type := 33, pos := "ref.go:130", after := #[], guard := none }) (v := ?_) rfl (by kernel_rfl) (by kernel_rfl) (by kernel_rfl) (fun _ _ _ h => h) (Or.inl ⟨by rfl, ?_⟩) hHeld ?_
  rotate_left
  · intro W hSw
    obtain ⟨l1, l2, l3, l4⟩ := hSw
    first | (go_simp; done) | (go_simp; with_reducible rfl)
  rotate_left
  try simp only [Act.put, List.setIfInBounds_toArray, List.set_cons_zero, List.set_cons_succ]
  refine wpAnyH_take (i := 4) (oi := { dst := some 64, op := Op.indexAddr 33 (Operand.tmp 63) (Operand.const (Value.int IntKind.i64 29)), type := 0, pos := "ref.go:130", after := #[{ on := 3, ground := Ground.data }], guard := none }) (v := ?_) rfl (by kernel_rfl) (by kernel_rfl) (by kernel_rfl) (fun _ _ _ h => h) (Or.inl ⟨by rfl, ?_⟩) hHeld ?_
  rotate_left
  · intro W hSw
    obtain ⟨l1, l2, l3, l4⟩ := hSw
    first | (go_simp; done) | (go_simp; with_reducible rfl)
  rotate_left
  try simp only [Act.put, List.setIfInBounds_toArray, List.set_cons_zero, List.set_cons_succ]
  refine wpAnyH_take (i := 5) (oi := { dst := some 65, op := Op.load 5 (Operand.tmp 64), type := 5, pos := "ref.go:130", after := #[{ on := 4, ground := Ground.data }], guard := none }) (v := ?_) rfl (by kernel_rfl) (by kernel_rfl) (by kernel_rfl) (fun _ _ _ h => h) (Or.inl ⟨by rfl, ?_⟩) hHeld ?_
  rotate_left
  · intro W hSw
    obtain ⟨l1, l2, l3, l4⟩ := hSw
    first | (go_simp; done) | (go_simp; with_reducible rfl)
  rotate_left
  try simp only [Act.put, List.setIfInBounds_toArray, List.set_cons_zero, List.set_cons_succ]
  refine wpAnyH_take (i := 6) (oi := { dst := some 66, op := Op.move (Operand.tmp 0), type := 33, pos := "ref.go:130", after := #[], guard := none }) (v := ?_) rfl (by kernel_rfl) (by kernel_rfl) (by kernel_rfl) (fun _ _ _ h => h) (Or.inl ⟨by rfl, ?_⟩) hHeld ?_
  rotate_left
  · intro W hSw
    obtain ⟨l1, l2, l3, l4⟩ := hSw
    first | (go_simp; done) | (go_simp; with_reducible rfl)
  rotate_left
  try simp only [Act.put, List.setIfInBounds_toArray, List.set_cons_zero, List.set_cons_succ]
  refine wpAnyH_take (i := 7) (oi := { dst := some 67, op := Op.indexAddr 33 (Operand.tmp 66) (Operand.const (Value.int IntKind.i64 31)), type := 0, pos := "ref.go:130", after := #[{ on := 6, ground := Ground.data }], guard := none }) (v := ?_) rfl (by kernel_rfl) (by kernel_rfl) (by kernel_rfl) (fun _ _ _ h => h) (Or.inl ⟨by rfl, ?_⟩) hHeld ?_
  rotate_left
  · intro W hSw
    obtain ⟨l1, l2, l3, l4⟩ := hSw
    first | (go_simp; done) | (go_simp; with_reducible rfl)
  rotate_left
  try simp only [Act.put, List.setIfInBounds_toArray, List.set_cons_zero, List.set_cons_succ]
  refine wpAnyH_take (i := 8) (oi := { dst := some 68, op := Op.load 5 (Operand.tmp 67), type := 5, pos := "ref.go:130", after := #[{ on := 7, ground := Ground.data }], guard := none }) (v := ?_) rfl (by kernel_rfl) (by kernel_rfl) (by kernel_rfl) (fun _ _ _ h => h) (Or.inl ⟨by rfl, ?_⟩) hHeld ?_
  rotate_left
  · intro W hSw
    obtain ⟨l1, l2, l3, l4⟩ := hSw
    first | (go_simp; done) | (go_simp; with_reducible rfl)
  rotate_left
  try simp only [Act.put, List.setIfInBounds_toArray, List.set_cons_zero, List.set_cons_succ]
  refine wpAnyH_take (i := 9) (oi := { dst := some 69, op := Op.move (Operand.tmp 0), type := 33, pos := "ref.go:130", after := #[], guard := none }) (v := ?_) rfl (by kernel_rfl) (by kernel_rfl) (by kernel_rfl) (fun _ _ _ h => h) (Or.inl ⟨by rfl, ?_⟩) hHeld ?_
  rotate_left
  · intro W hSw
    obtain ⟨l1, l2, l3, l4⟩ := hSw
    first | (go_simp; done) | (go_simp; with_reducible rfl)
  rotate_left
  try simp only [Act.put, List.setIfInBounds_toArray, List.set_cons_zero, List.set_cons_succ]
  refine wpAnyH_take (i := 10) (oi := { dst := some 70, op := Op.indexAddr 33 (Operand.tmp 69) (Operand.const (Value.int IntKind.i64 33)), type := 0, pos := "ref.go:130", after := #[{ on := 9, ground := Ground.data }], guard := none }) (v := ?_) rfl (by kernel_rfl) (by kernel_rfl) (by kernel_rfl) (fun _ _ _ h => h) (Or.inl ⟨by rfl, ?_⟩) hHeld ?_
  rotate_left
  · intro W hSw
    obtain ⟨l1, l2, l3, l4⟩ := hSw
    first | (go_simp; done) | (go_simp; with_reducible rfl)
  rotate_left
  try simp only [Act.put, List.setIfInBounds_toArray, List.set_cons_zero, List.set_cons_succ]
  refine wpAnyH_take (i := 11) (oi := { dst := some 71, op := Op.load 5 (Operand.tmp 70), type := 5, pos := "ref.go:130", after := #[{ on := 10, ground := Ground.data }], guard := none }) (v := ?_) rfl (by kernel_rfl) (by kernel_rfl) (by kernel_rfl) (fun _ _ _ h => h) (Or.inl ⟨by rfl, ?_⟩) hHeld ?_
  rotate_left
  · intro W hSw
    obtain ⟨l1, l2, l3, l4⟩ := hSw
    first | (go_simp; done) | (go_simp; with_reducible rfl)
  rotate_left
  try simp only [Act.put, List.setIfInBounds_toArray, List.set_cons_zero, List.set_cons_succ]
  refine wpAnyH_take (i := 12) (oi := { dst := some 72, op := Op.build 30 #[(0, Operand.tmp 62), (1, Operand.tmp 65), (2, Operand.tmp 68), (3, Operand.tmp 71)], type := 30, pos := "ref.go:130", after := #[{ on := 2, ground := Ground.data }, { on := 5, ground := Ground.data }, { on := 8, ground := Ground.data }, { on := 11, ground := Ground.data }], guard := none }) (v := ?_) rfl (by kernel_rfl) (by kernel_rfl) (by kernel_rfl) (fun _ _ _ h => h) (Or.inl ⟨by rfl, ?_⟩) hHeld ?_
  rotate_left
  · intro W hSw
    obtain ⟨l1, l2, l3, l4⟩ := hSw
    first | (go_simp; done) | (go_simp; with_reducible rfl)
  rotate_left
  try simp only [Act.put, List.setIfInBounds_toArray, List.set_cons_zero, List.set_cons_succ]
  refine wpAnyH_take (i := 13) (oi := { dst := some 73, op := Op.fieldAddr 32 (Operand.tmp 4) 9, type := 0, pos := "ref.go:130", after := #[{ on := 0, ground := Ground.phase }, { on := 1, ground := Ground.phase }, { on := 2, ground := Ground.phase }, { on := 3, ground := Ground.phase }, { on := 4, ground := Ground.phase }, { on := 5, ground := Ground.phase }, { on := 6, ground := Ground.phase }, { on := 7, ground := Ground.phase }, { on := 8, ground := Ground.phase }, { on := 9, ground := Ground.phase }, { on := 10, ground := Ground.phase }, { on := 11, ground := Ground.phase }, { on := 12, ground := Ground.phase }], guard := none }) (v := ?_) rfl (by kernel_rfl) (by kernel_rfl) (by kernel_rfl) (fun _ _ _ h => h) (Or.inl ⟨by rfl, ?_⟩) hHeld ?_
  rotate_left
  · intro W hSw
    obtain ⟨l1, l2, l3, l4⟩ := hSw
    first | (go_simp; done) | (go_simp; with_reducible rfl)
  rotate_left
  try simp only [Act.put, List.setIfInBounds_toArray, List.set_cons_zero, List.set_cons_succ]
  refine wpAnyH_ready (rs := [14]) (by kernel_rfl) (by simp) ?_
  refine AllReadyH.cons (o := { dst := none, op := Op.store 30 (Operand.tmp 73) (Operand.tmp 72), type := 0, pos := "ref.go:130", after := #[{ on := 13, ground := Ground.data }, { on := 12, ground := Ground.data }, { on := 0, ground := Ground.phase }, { on := 1, ground := Ground.phase }, { on := 2, ground := Ground.phase }, { on := 3, ground := Ground.phase }, { on := 4, ground := Ground.phase }, { on := 5, ground := Ground.phase }, { on := 6, ground := Ground.phase }, { on := 7, ground := Ground.phase }, { on := 8, ground := Ground.phase }, { on := 9, ground := Ground.phase }, { on := 10, ground := Ground.phase }, { on := 11, ground := Ground.phase }, { on := 12, ground := Ground.phase }], guard := none }) rfl (fun K hK => ?_) AllReadyH.nil
  go_simp
  clear hHeld
  refine hK.out _ _ C4.out (fun hHeld => ?_)
  clear hK K
  try simp only [Act.put, List.setIfInBounds_toArray, List.set_cons_zero, List.set_cons_succ]
  refine wpAnyH_done (by kernel_rfl) ?_ _
  refine NoPanic.normal ?_
  clear hHeld
  have eM : withT m1 B27 B29 B31 B33 = M := by
    rw [ER.out, ← E1.out, ← E0.out, ← E5.out, ← E13.out, ← E17.out, ← E25.out, ← D27.out, ← D29.out, ← D31.out, ← D33.out, ← EF.out]
    rfl
  have QM : Hid (RQ w T mB M) := by rw [← eM]; exact QT.out
  have lM := QM.out.pv.ld
  clear eM QT stT t27 t29 t31 t33 n27 n29 n31 n33 C4 QU SU
  go_wp2_with fail
  refine (bref_any M _ EV.out).mono ?_
  rintro _ W5 ⟨s5, rfl, o5, b5⟩
  have Z5 : Hid (RQ w W5 mB M) := QM.out.later b5
  have HC : Hid (chkP M = 0) := by show _ = _; unfold chkP; rw [EO.out]; rfl
  rw [HC.out]
  have x1 := o5.src.string
  have x2 := (EW.out.below Z5.out.below).string
  clear o5 b5 QM lM
  have e6 : mbO M = mbytes M := by
    unfold mbO
    rw [EO.out]
    rfl
  rw [e6] at x1
  have hq : ((bs (mbytes M)).toList == (bs l).toList) = false := EQ.out
  clear e6
  have st := Z5.out.z.stk 0
  have HF : Hid (PvAt (W5.setRow w.heap.size zeroP.cs) w.heap.size zeroP ∧ Below w.heap.size w (W5.setRow w.heap.size zeroP.cs)) := ⟨Z5.out.z.set, below_setRow Z5.out.below (Nat.le_refl _) _⟩
  go_wp2
  refine bodyPost_ret (results_row2 rt32 Tryd.results13 _ _ _ _ _ rfl rfl HF.out.1 rfl) rfl ?_
  exact ⟨zeroP, 50, rfl, rr_no HB.out.2.1 EM.out (fun _ h => by have := EQ.out; rw [h, beqL_self] at this; cases this), HF.out.2⟩

set_option maxHeartbeats 8000000 in
theorem rr_cfg_ok (b o n c : Nat) (M : Bp) (l : List Int) (w : World) (h : Src w (.slice (some ⟨b, o, none⟩) n c) l) (hb : ∀ x ∈ l, 0 ≤ x ∧ x ≤ 255) (h4 : 4 ≤ l.length) (h35 : 35 ≤ l.length) (hg : ¬ gn l 2 = 2) (hM : rcand l = M) (ho : okB M = true) (hq : beqL (mbytes M) l = true) :
    Calls Tryd.prog 13 #[.slice (some ⟨b, o, none⟩) n c] w fun r w' => ∃ m e, r = .returned (.tuple #[.agg (Bp.cs m), .int .i64 e]) ∧ RdOut l m e ∧ Below w.heap.size w w' := by
  obtain ⟨hn, hc, hm⟩ := src_short h
  have hbl : b < w.heap.size := by
    obtain ⟨b', o', e, hb', _⟩ := src_some h (by omega)
    cases e
    exact hb'
  have hz : PvAt (w.alloc (.cells #[.int .i64 0, .bool false, .bool false, .bool false, .bool false, .bool false, .bool false, .int .i64 0, .int .u64 0, .int .u32 0, .int .u64 0, .int .u16 0, .int .u8 0, .int .u8 0, .int .u8 0, .int .u8 0] 32)) w.heap.size zeroP := alloc_at w _
  have hB : Below w.heap.size w (w.alloc (.cells #[.int .i64 0, .bool false, .bool false, .bool false, .bool false, .bool false, .bool false, .int .i64 0, .int .u64 0, .int .u32 0, .int .u64 0, .int .u16 0, .int .u8 0, .int .u8 0, .int .u8 0, .int .u8 0] 32)) := (Below.refl _ _).alloc (Nat.le_refl _) _
  obtain ⟨W0, hW0⟩ : ∃ W, w.alloc (.cells #[.int .i64 0, .bool false, .bool false, .bool false, .bool false, .bool false, .bool false, .int .i64 0, .int .u64 0, .int .u32 0, .int .u64 0, .int .u16 0, .int .u8 0, .int .u8 0, .int .u8 0, .int .u8 0] 32) = W := ⟨_, rfl⟩
  rw [hW0] at hz hB
  have hn4 : ¬ (n : Int) < 4 := by omega
  have hn35 : (35 : Int) ≤ (n : Int) := by omega
  obtain ⟨W1, st1, r1, b1, z1⟩ := row_new rt32 W0 #[.int .i64 0, .bool false, .bool false, .bool false, .bool false, .bool false, .bool false, .int .i64 0, .int .u64 0, .int .u32 0, .int .u64 0, .int .u16 0, .int .u8 0, .int .u8 0, .int .u8 0, .int .u8 0] #[.int .i64 2, .bool false, .bool false, .bool false, .bool false, .bool false, .bool false, .int .i64 0, .int .u64 0, .int .u32 0, .int .u64 0, .int .u16 0, .int .u8 0, .int .u8 0, .int .u8 0, .int .u8 0] rfl rfl (kP 2).one
  have r1' : PvAt W1 W0.heap.size (kP 2) := r1
  have hlt0 := hz.lt
  have q1 : RQ w W1 W0.heap.size (kP 2) := ⟨hz.below b1, r1', below_over hB b1, hlt0⟩
  have HB : Hid ((∀ x ∈ l, 0 ≤ x ∧ x ≤ 255) ∧ 4 ≤ l.length ∧ n = l.length ∧ b < w.heap.size ∧ b < W0.heap.size) := ⟨hb, h4, hn, hbl, by omega⟩
  have EW : Hid (Src w (.slice (some ⟨b, o, none⟩) n c) l) := h
  have Q1 : Hid (RQ w W1 W0.heap.size (kP 2)) := q1
  have EM : Hid (rcand l = M) := hM
  have EV : Hid M.wf := by show M.wf; rw [← hM]; exact rw_wf hb
  have EO : Hid (okB M = true) := ho
  have EQ : Hid (beqL (mbytes M) l = true) := hq
  have H35 : Hid (35 ≤ l.length) := h35
  have k4 : W1.cell? ⟨b, o + 4, none⟩ = some (.int .u8 (gn l 4 : Nat)) := src_cell (h.below q1.below) 4 (by omega) hb
  have F0 := (gn_eq hb 4).2
  have ER : Hid (M = cfgR l) := by
    show M = _
    rw [← hM]
    unfold rcand
    rw [if_pos h35, if_neg hg]
  have k2' : ∀ W, Below w.heap.size w W → W.cell? ⟨b, o + 2, none⟩ = some (.int .u8 (gn l 2 : Nat)) := fun W hW => src_cell (h.below hW) 2 (by omega) hb
  have K2 : Hid (∀ W, Below w.heap.size w W → W.cell? ⟨b, o + 2, none⟩ = some (.int .u8 (gn l 2 : Nat))) := k2'
  obtain ⟨F, hF⟩ : ∃ F, gn l 4 = F := ⟨_, rfl⟩
  rw [hF] at k4 F0
  have EF : Hid (gn l 4 = F) := hF
  have EG : Hid (¬ gn l 2 = 2) := hg
  have n4 : (4 : Int) < (n : Int) := by omega
  have n2 : (2 : Int) < (n : Int) := by omega
  have HN : Hid (n ≤ c ∧ c ≤ maxLen) := ⟨hc, hm⟩
  unfold maxLen at hm
  clear h hb h4 h35 hM ho hn hc r1 r1' b1 z1 hlt0 q1 hz hB hbl hg hF k2' hq
  go_enter Tryd.func13, Tryd.ntmps13
  go_wp2_with fail
  refine (bit_ref F _ 1 (by rfl) _ (by omega) (by omega) (by omega)).mono ?_
  rintro _ Y ⟨rfl, hY⟩
  rw [hY]
  clear hY Y
  go_wp2_with fail
  refine (bit_ref F _ 128 (by rfl) _ (by omega) (by omega) (by omega)).mono ?_
  rintro _ Y ⟨rfl, hY⟩
  rw [hY]
  clear hY Y
  obtain ⟨mB, hmB⟩ : ∃ x, W0.heap.size = x := ⟨_, rfl⟩
  rw [hmB] at Q1 HB ⊢
  clear hmB st1
  have st2 : (stS 32 (.pointer (some ⟨mB, 0, none⟩)) (.agg #[.int .i64 1, .bool (flB F 1), .bool (flB F 128), .bool false, .bool false, .bool false, .bool false, .int .i64 0, .int .u64 0, .int .u32 0, .int .u64 0, .int .u16 0, .int .u8 0, .int .u8 0, .int .u8 0, .int .u8 0])).run Tryd.prog W1 = .ok () (W1.setRow mB (⟨1, (flB F 1), (flB F 128), false, false, false, false, 0, 0, 0, 0, 0, 0, 0, 0, 0⟩ : Bp).cs) := Q1.out.pv.st (n := (⟨1, (flB F 1), (flB F 128), false, false, false, false, 0, 0, 0, 0, 0, 0, 0, 0, 0⟩ : Bp))
  have Q2 : Hid (RQ w (W1.setRow mB (⟨1, (flB F 1), (flB F 128), false, false, false, false, 0, 0, 0, 0, 0, 0, 0, 0, 0⟩ : Bp).cs) mB (⟨1, (flB F 1), (flB F 128), false, false, false, false, 0, 0, 0, 0, 0, 0, 0, 0, 0⟩ : Bp)) := Q1.out.set _
  obtain ⟨W2, hW2⟩ : ∃ W, W1.setRow mB (⟨1, (flB F 1), (flB F 128), false, false, false, false, 0, 0, 0, 0, 0, 0, 0, 0, 0⟩ : Bp).cs = W := ⟨_, rfl⟩
  rw [hW2] at st2 Q2
  have g2 := K2.out W2 Q2.out.below
  obtain ⟨G, hG⟩ : ∃ G, gn l 2 = G := ⟨_, rfl⟩
  rw [hG] at g2 EG
  have hG2 : ¬ (G : Int) = 2 := by have := EG.out; omega
  clear hW2 hG k4 Q1
  go_wp2_with fail
  clear st2 g2 hG2
  obtain ⟨m0, hm0⟩ : ∃ m, (⟨1, (flB F 1), (flB F 128), false, false, false, false, 0, 0, 0, 0, 0, 0, 0, 0, 0⟩ : Bp) = m := ⟨_, rfl⟩
  rw [hm0] at Q2
  have E0 : Hid ((⟨1, (flB F 1), (flB F 128), false, false, false, false, 0, 0, 0, 0, 0, 0, 0, 0, 0⟩ : Bp) = m0) := hm0
  clear hm0
  have QX : Hid (RQ w W2.drew mB m0) := Q2.out.drew
  obtain ⟨X, hX⟩ : ∃ X, W2.drew = X := ⟨_, rfl⟩
  rw [hX] at QX
  have SX : Hid (Src X (.slice (some ⟨b, o, none⟩) n c) l) := EW.out.below QX.out.below
  have sl5 : ∀ W, (slS (.slice (some ⟨b, o, none⟩) n c) (some (.int .i64 5)) (some (.int .i64 13)) none).run Tryd.prog W = .ok (.slice (some ⟨b, o + 5, none⟩) 8 (c - 5)) W := fun W => slS_sub b o n c 5 13 (by omega) (by omega) HN.out.1 HN.out.2 (by omega) W
  have S5 : Hid (Src X (.slice (some ⟨b, o + 5, none⟩) 8 (c - 5)) (sub l 5 8)) := src_sub SX.out 5 8 (by omega)
  have sl13 : ∀ W, (slS (.slice (some ⟨b, o, none⟩) n c) (some (.int .i64 13)) (some (.int .i64 17)) none).run Tryd.prog W = .ok (.slice (some ⟨b, o + 13, none⟩) 4 (c - 13)) W := fun W => slS_sub b o n c 13 17 (by omega) (by omega) HN.out.1 HN.out.2 (by omega) W
  have S13 : Hid (Src X (.slice (some ⟨b, o + 13, none⟩) 4 (c - 13)) (sub l 13 4)) := src_sub SX.out 13 4 (by omega)
  have sl17 : ∀ W, (slS (.slice (some ⟨b, o, none⟩) n c) (some (.int .i64 17)) (some (.int .i64 25)) none).run Tryd.prog W = .ok (.slice (some ⟨b, o + 17, none⟩) 8 (c - 17)) W := fun W => slS_sub b o n c 17 25 (by omega) (by omega) HN.out.1 HN.out.2 (by omega) W
  have S17 : Hid (Src X (.slice (some ⟨b, o + 17, none⟩) 8 (c - 17)) (sub l 17 8)) := src_sub SX.out 17 8 (by omega)
  have sl25 : ∀ W, (slS (.slice (some ⟨b, o, none⟩) n c) (some (.int .i64 25)) (some (.int .i64 27)) none).run Tryd.prog W = .ok (.slice (some ⟨b, o + 25, none⟩) 2 (c - 25)) W := fun W => slS_sub b o n c 25 27 (by omega) (by omega) HN.out.1 HN.out.2 (by omega) W
  have S25 : Hid (Src X (.slice (some ⟨b, o + 25, none⟩) 2 (c - 25)) (sub l 25 2)) := src_sub SX.out 25 2 (by omega)
  have v13 := nu_ok (sub_ok HB.out.1 13 4) 4 (sub_le _ _ _)
  have v25 := nu_ok (sub_ok HB.out.1 25 2) 2 (sub_le _ _ _)
  obtain ⟨N5, e5⟩ : ∃ N, nu (sub l 5 8) = N := ⟨_, rfl⟩
  have E5 : Hid (nu (sub l 5 8) = N5) := e5
  obtain ⟨N13, e13⟩ : ∃ N, nu (sub l 13 4) = N := ⟨_, rfl⟩
  have E13 : Hid (nu (sub l 13 4) = N13) := e13
  obtain ⟨N17, e17⟩ : ∃ N, nu (sub l 17 8) = N := ⟨_, rfl⟩
  have E17 : Hid (nu (sub l 17 8) = N17) := e17
  obtain ⟨N25, e25⟩ : ∃ N, nu (sub l 25 2) = N := ⟨_, rfl⟩
  have E25 : Hid (nu (sub l 25 2) = N25) := e25
  rw [e13] at v13
  rw [e25] at v25
  clear e5 e13 e17 e25
  have u13 : IntKind.u32.wrap (N13 : Int) = N13 := IntWalk.u32_in _ (by omega)
  have u25 : IntKind.u16.wrap (N25 : Int) = N25 := IntWalk.u16_in _ (by omega)
  have stV := QX.out.pv.stv N5 N13 N17 N25
  have QY : Hid (RQ w (X.setRow mB (withV m0 N5 N13 N17 N25).cs) mB (withV m0 N5 N13 N17 N25)) := QX.out.set _
  obtain ⟨Y9, hY9⟩ : ∃ W, X.setRow mB (withV m0 N5 N13 N17 N25).cs = W := ⟨_, rfl⟩
  rw [hY9] at QY stV
  clear hY9
  refine wp_region_noPanic ?_
  refine wp_region_held_drew (S := fun _ => True) (by kernel_rfl) trivial (fun hHeld => ?_)
  rw [hX]
  clear hX
  refine wpAnyH_take (i := 0) (oi := { dst := some 44, op := Op.move (Operand.tmp 0), type := 33, pos := "ref.go:129", after := #[], guard := none }) (v := ?_) rfl (by kernel_rfl) (by kernel_rfl) (by kernel_rfl) (fun _ _ _ h => h) (Or.inl ⟨by rfl, ?_⟩) hHeld ?_
  rotate_left
  · intro W hSw
    first | (go_simp; done) | (go_simp; with_reducible rfl)
  rotate_left
  try simp only [Act.put, List.setIfInBounds_toArray, List.set_cons_zero, List.set_cons_succ]
  refine wpAnyH_take (i := 1) (oi := { dst := some 45, op := Op.slice 33 (Operand.tmp 44) (some (Operand.const (Value.int IntKind.i64 5))) (some (Operand.const (Value.int IntKind.i64 13))) none, type := 33, pos := "ref.go:129", after := #[{ on := 0, ground := Ground.data }], guard := none }) (v := ?_) rfl (by kernel_rfl) (by kernel_rfl) (by kernel_rfl) (fun _ _ _ h => h) (Or.inl ⟨by rfl, ?_⟩) hHeld ?_
  rotate_left
  · intro W hSw
    first | (go_simp; done) | (go_simp; with_reducible rfl)
  rotate_left
  try simp only [Act.put, List.setIfInBounds_toArray, List.set_cons_zero, List.set_cons_succ]
  refine wpAnyH_take (i := 3) (oi := { dst := some 47, op := Op.move (Operand.tmp 0), type := 33, pos := "ref.go:129", after := #[], guard := none }) (v := ?_) rfl (by kernel_rfl) (by kernel_rfl) (by kernel_rfl) (fun _ _ _ h => h) (Or.inl ⟨by rfl, ?_⟩) hHeld ?_
  rotate_left
  · intro W hSw
    first | (go_simp; done) | (go_simp; with_reducible rfl)
  rotate_left
  try simp only [Act.put, List.setIfInBounds_toArray, List.set_cons_zero, List.set_cons_succ]
  refine wpAnyH_take (i := 4) (oi := { dst := some 48, op := Op.slice 33 (Operand.tmp 47) (some (Operand.const (Value.int IntKind.i64 13))) (some (Operand.const (Value.int IntKind.i64 17))) none, type := 33, pos := "ref.go:129", after := #[{ on := 3, ground := Ground.data }], guard := none }) (v := ?_) rfl (by kernel_rfl) (by kernel_rfl) (by kernel_rfl) (fun _ _ _ h => h) (Or.inl ⟨by rfl, ?_⟩) hHeld ?_
  rotate_left
  · intro W hSw
    first | (go_simp; done) | (go_simp; with_reducible rfl)
  rotate_left
  try simp only [Act.put, List.setIfInBounds_toArray, List.set_cons_zero, List.set_cons_succ]
  refine wpAnyH_take (i := 7) (oi := { dst := some 51, op := Op.move (Operand.tmp 0), type := 33, pos := "ref.go:129", after := #[], guard := none }) (v := ?_) rfl (by kernel_rfl) (by kernel_rfl) (by kernel_rfl) (fun _ _ _ h => h) (Or.inl ⟨by rfl, ?_⟩) hHeld ?_
  rotate_left
  · intro W hSw
    first | (go_simp; done) | (go_simp; with_reducible rfl)
  rotate_left
  try simp only [Act.put, List.setIfInBounds_toArray, List.set_cons_zero, List.set_cons_succ]
  refine wpAnyH_take (i := 8) (oi := { dst := some 52, op := Op.slice 33 (Operand.tmp 51) (some (Operand.const (Value.int IntKind.i64 17))) (some (Operand.const (Value.int IntKind.i64 25))) none, type := 33, pos := "ref.go:129", after := #[{ on := 7, ground := Ground.data }], guard := none }) (v := ?_) rfl (by kernel_rfl) (by kernel_rfl) (by kernel_rfl) (fun _ _ _ h => h) (Or.inl ⟨by rfl, ?_⟩) hHeld ?_
  rotate_left
  · intro W hSw
    first | (go_simp; done) | (go_simp; with_reducible rfl)
  rotate_left
  try simp only [Act.put, List.setIfInBounds_toArray, List.set_cons_zero, List.set_cons_succ]
  refine wpAnyH_take (i := 10) (oi := { dst := some 54, op := Op.move (Operand.tmp 0), type := 33, pos := "ref.go:129", after := #[], guard := none }) (v := ?_) rfl (by kernel_rfl) (by kernel_rfl) (by kernel_rfl) (fun _ _ _ h => h) (Or.inl ⟨by rfl, ?_⟩) hHeld ?_
  rotate_left
  · intro W hSw
    first | (go_simp; done) | (go_simp; with_reducible rfl)
  rotate_left
  try simp only [Act.put, List.setIfInBounds_toArray, List.set_cons_zero, List.set_cons_succ]
  refine wpAnyH_take (i := 11) (oi := { dst := some 55, op := Op.slice 33 (Operand.tmp 54) (some (Operand.const (Value.int IntKind.i64 25))) (some (Operand.const (Value.int IntKind.i64 27))) none, type := 33, pos := "ref.go:129", after := #[{ on := 10, ground := Ground.data }], guard := none }) (v := ?_) rfl (by kernel_rfl) (by kernel_rfl) (by kernel_rfl) (fun _ _ _ h => h) (Or.inl ⟨by rfl, ?_⟩) hHeld ?_
  rotate_left
  · intro W hSw
    first | (go_simp; done) | (go_simp; with_reducible rfl)
  rotate_left
  try simp only [Act.put, List.setIfInBounds_toArray, List.set_cons_zero, List.set_cons_succ]
  refine wpAnyH_ready (rs := [2]) (by kernel_rfl) (by simp) ?_
  refine AllReadyH.cons (o := { dst := some 46, op := Op.call { callee := Callee.value (Operand.func 34), args := #[Operand.tmp 45], argTypes := #[33] }, type := 24, pos := "ref.go:129", after := #[{ on := 1, ground := Ground.data }], guard := none }) rfl (fun K hK => ?_) AllReadyH.nil
  go_simp
  refine (get_ref _ _ _ (sub l 5 8) X S5.out (sub_ok HB.out.1 _ _) (by rw [sub_len _ _ _ (by have := H35.out; omega)]; omega) (by rw [sub_len _ _ _ (by have := H35.out; omega)]; omega)).mono ?_
  rintro _ Y ⟨rfl, hY⟩
  rw [hY, E5.out]
  clear hY Y
  clear hHeld
  refine hK.out _ _ trivial (fun hHeld => ?_)
  clear hK K
  try simp only [Act.put, List.setIfInBounds_toArray, List.set_cons_zero, List.set_cons_succ]
  refine wpAnyH_ready (rs := [5]) (by kernel_rfl) (by simp) ?_
  refine AllReadyH.cons (o := { dst := some 49, op := Op.call { callee := Callee.value (Operand.func 34), args := #[Operand.tmp 48], argTypes := #[33] }, type := 24, pos := "ref.go:129", after := #[{ on := 4, ground := Ground.data }, { on := 2, ground := Ground.chain }], guard := none }) rfl (fun K hK => ?_) AllReadyH.nil
  go_simp
  refine (get_ref _ _ _ (sub l 13 4) X S13.out (sub_ok HB.out.1 _ _) (by rw [sub_len _ _ _ (by have := H35.out; omega)]; omega) (by rw [sub_len _ _ _ (by have := H35.out; omega)]; omega)).mono ?_
  rintro _ Y ⟨rfl, hY⟩
  rw [hY, E13.out]
  clear hY Y
  clear hHeld
  refine hK.out _ _ trivial (fun hHeld => ?_)
  clear hK K
  try simp only [Act.put, List.setIfInBounds_toArray, List.set_cons_zero, List.set_cons_succ]
  refine wpAnyH_take (i := 6) (oi := { dst := some 50, op := Op.convert 24 25 (Operand.tmp 49), type := 25, pos := "ref.go:129", after := #[{ on := 5, ground := Ground.data }], guard := none }) (v := ?_) rfl (by kernel_rfl) (by kernel_rfl) (by kernel_rfl) (fun _ _ _ h => h) (Or.inl ⟨by rfl, ?_⟩) hHeld ?_
  rotate_left
  · intro W hSw
    first | (go_simp; done) | (go_simp; with_reducible rfl)
  rotate_left
  try simp only [Act.put, List.setIfInBounds_toArray, List.set_cons_zero, List.set_cons_succ]
  refine wpAnyH_ready (rs := [9]) (by kernel_rfl) (by simp) ?_
  refine AllReadyH.cons (o := { dst := some 53, op := Op.call { callee := Callee.value (Operand.func 34), args := #[Operand.tmp 52], argTypes := #[33] }, type := 24, pos := "ref.go:129", after := #[{ on := 8, ground := Ground.data }, { on := 5, ground := Ground.chain }], guard := none }) rfl (fun K hK => ?_) AllReadyH.nil
  go_simp
  refine (get_ref _ _ _ (sub l 17 8) X S17.out (sub_ok HB.out.1 _ _) (by rw [sub_len _ _ _ (by have := H35.out; omega)]; omega) (by rw [sub_len _ _ _ (by have := H35.out; omega)]; omega)).mono ?_
  rintro _ Y ⟨rfl, hY⟩
  rw [hY, E17.out]
  clear hY Y
  clear hHeld
  refine hK.out _ _ trivial (fun hHeld => ?_)
  clear hK K
  try simp only [Act.put, List.setIfInBounds_toArray, List.set_cons_zero, List.set_cons_succ]
  refine wpAnyH_ready (rs := [12]) (by kernel_rfl) (by simp) ?_
  refine AllReadyH.cons (o := { dst := some 56, op := Op.call { callee := Callee.value (Operand.func 34), args := #[Operand.tmp 55], argTypes := #[33] }, type := 24, pos := "ref.go:129", after := #[{ on := 11, ground := Ground.data }, { on := 9, ground := Ground.chain }], guard := none }) rfl (fun K hK => ?_) AllReadyH.nil
  go_simp
  refine (get_ref _ _ _ (sub l 25 2) X S25.out (sub_ok HB.out.1 _ _) (by rw [sub_len _ _ _ (by have := H35.out; omega)]; omega) (by rw [sub_len _ _ _ (by have := H35.out; omega)]; omega)).mono ?_
  rintro _ Y ⟨rfl, hY⟩
  rw [hY, E25.out]
  clear hY Y
  clear hHeld
  refine hK.out _ _ trivial (fun hHeld => ?_)
  clear hK K
  try simp only [Act.put, List.setIfInBounds_toArray, List.set_cons_zero, List.set_cons_succ]
  refine wpAnyH_take (i := 13) (oi := { dst := some 57, op := Op.convert 24 26 (Operand.tmp 56), type := 26, pos := "ref.go:129", after := #[{ on := 12, ground := Ground.data }], guard := none }) (v := ?_) rfl (by kernel_rfl) (by kernel_rfl) (by kernel_rfl) (fun _ _ _ h => h) (Or.inl ⟨by rfl, ?_⟩) hHeld ?_
  rotate_left
  · intro W hSw
    first | (go_simp; done) | (go_simp; with_reducible rfl)
  rotate_left
  try simp only [Act.put, List.setIfInBounds_toArray, List.set_cons_zero, List.set_cons_succ]
  refine wpAnyH_take (i := 14) (oi := { dst := some 58, op := Op.build 28 #[(0, Operand.tmp 46), (1, Operand.tmp 50), (2, Operand.tmp 53), (3, Operand.tmp 57)], type := 28, pos := "ref.go:129", after := #[{ on := 2, ground := Ground.data }, { on := 6, ground := Ground.data }, { on := 9, ground := Ground.data }, { on := 13, ground := Ground.data }], guard := none }) (v := ?_) rfl (by kernel_rfl) (by kernel_rfl) (by kernel_rfl) (fun _ _ _ h => h) (Or.inl ⟨by rfl, ?_⟩) hHeld ?_
  rotate_left
  · intro W hSw
    first | (go_simp; done) | (go_simp; with_reducible rfl)
  rotate_left
  try simp only [Act.put, List.setIfInBounds_toArray, List.set_cons_zero, List.set_cons_succ]
  refine wpAnyH_take (i := 15) (oi := { dst := some 59, op := Op.fieldAddr 32 (Operand.tmp 4) 8, type := 0, pos := "ref.go:129", after := #[{ on := 0, ground := Ground.phase }, { on := 1, ground := Ground.phase }, { on := 2, ground := Ground.phase }, { on := 3, ground := Ground.phase }, { on := 4, ground := Ground.phase }, { on := 5, ground := Ground.phase }, { on := 6, ground := Ground.phase }, { on := 7, ground := Ground.phase }, { on := 8, ground := Ground.phase }, { on := 9, ground := Ground.phase }, { on := 10, ground := Ground.phase }, { on := 11, ground := Ground.phase }, { on := 12, ground := Ground.phase }, { on := 13, ground := Ground.phase }, { on := 14, ground := Ground.phase }], guard := none }) (v := ?_) rfl (by kernel_rfl) (by kernel_rfl) (by kernel_rfl) (fun _ _ _ h => h) (Or.inl ⟨by rfl, ?_⟩) hHeld ?_
  rotate_left
  · intro W hSw
    first | (go_simp; done) | (go_simp; with_reducible rfl)
  rotate_left
  try simp only [Act.put, List.setIfInBounds_toArray, List.set_cons_zero, List.set_cons_succ]
  refine wpAnyH_ready (rs := [16]) (by kernel_rfl) (by simp) ?_
  refine AllReadyH.cons (o := { dst := none, op := Op.store 28 (Operand.tmp 59) (Operand.tmp 58), type := 0, pos := "ref.go:129", after := #[{ on := 15, ground := Ground.data }, { on := 14, ground := Ground.data }, { on := 12, ground := Ground.chain }, { on := 0, ground := Ground.phase }, { on := 1, ground := Ground.phase }, { on := 2, ground := Ground.phase }, { on := 3, ground := Ground.phase }, { on := 4, ground := Ground.phase }, { on := 5, ground := Ground.phase }, { on := 6, ground := Ground.phase }, { on := 7, ground := Ground.phase }, { on := 8, ground := Ground.phase }, { on := 9, ground := Ground.phase }, { on := 10, ground := Ground.phase }, { on := 11, ground := Ground.phase }, { on := 12, ground := Ground.phase }, { on := 13, ground := Ground.phase }, { on := 14, ground := Ground.phase }], guard := none }) rfl (fun K hK => ?_) AllReadyH.nil
  go_simp
  clear hHeld
  refine hK.out _ _ trivial (fun hHeld => ?_)
  clear hK K
  try simp only [Act.put, List.setIfInBounds_toArray, List.set_cons_zero, List.set_cons_succ]
  refine wpAnyH_done (by kernel_rfl) ?_ _
  refine NoPanic.normal ?_
  clear hHeld
  clear sl5 sl13 sl17 sl25 S5 S13 S17 S25 stV QX SX u13 u25 v13 v25
  go_wp2_with fail
  obtain ⟨m1, hm1⟩ : ∃ m, withV m0 N5 N13 N17 N25 = m := ⟨_, rfl⟩
  rw [hm1] at QY
  have E1 : Hid (withV m0 N5 N13 N17 N25 = m1) := hm1
  clear hm1
  have QU : Hid (RQ w Y9.drew mB m1) := QY.out.drew
  obtain ⟨U, hU⟩ : ∃ X, Y9.drew = X := ⟨_, rfl⟩
  rw [hU] at QU
  have SU : Hid (Src U (.slice (some ⟨b, o, none⟩) n c) l) := EW.out.below QU.out.below
  have t27 := src_cell SU.out 27 (by have := H35.out; omega) HB.out.1
  obtain ⟨B27, f27⟩ : ∃ N, gn l 27 = N := ⟨_, rfl⟩
  rw [f27] at t27
  have D27 : Hid (gn l 27 = B27) := f27
  have n27 : (27 : Int) < (n : Int) := by omega
  have t29 := src_cell SU.out 29 (by have := H35.out; omega) HB.out.1
  obtain ⟨B29, f29⟩ : ∃ N, gn l 29 = N := ⟨_, rfl⟩
  rw [f29] at t29
  have D29 : Hid (gn l 29 = B29) := f29
  have n29 : (29 : Int) < (n : Int) := by omega
  have t31 := src_cell SU.out 31 (by have := H35.out; omega) HB.out.1
  obtain ⟨B31, f31⟩ : ∃ N, gn l 31 = N := ⟨_, rfl⟩
  rw [f31] at t31
  have D31 : Hid (gn l 31 = B31) := f31
  have n31 : (31 : Int) < (n : Int) := by omega
  have t33 := src_cell SU.out 33 (by have := H35.out; omega) HB.out.1
  obtain ⟨B33, f33⟩ : ∃ N, gn l 33 = N := ⟨_, rfl⟩
  rw [f33] at t33
  have D33 : Hid (gn l 33 = B33) := f33
  have n33 : (33 : Int) < (n : Int) := by omega
  have stT := QU.out.pv.stt B27 B29 B31 B33
  have QT : Hid (RQ w (U.setRow mB (withT m1 B27 B29 B31 B33).cs) mB (withT m1 B27 B29 B31 B33)) := QU.out.set _
  obtain ⟨T, hT⟩ : ∃ W, U.setRow mB (withT m1 B27 B29 B31 B33).cs = W := ⟨_, rfl⟩
  rw [hT] at QT stT
  clear hT f27 f29 f31 f33
  have C4 : Hid (T.cell? ⟨b, o + 27, none⟩ = some (.int .u8 (B27 : Nat)) ∧ T.cell? ⟨b, o + 29, none⟩ = some (.int .u8 (B29 : Nat)) ∧ T.cell? ⟨b, o + 31, none⟩ = some (.int .u8 (B31 : Nat)) ∧ T.cell? ⟨b, o + 33, none⟩ = some (.int .u8 (B33 : Nat))) := by
    have hs := EW.out.below QT.out.below
    rw [← D27.out, ← D29.out, ← D31.out, ← D33.out]
    exact ⟨src_cell hs 27 (by have := H35.out; omega) HB.out.1, src_cell hs 29 (by have := H35.out; omega) HB.out.1, src_cell hs 31 (by have := H35.out; omega) HB.out.1, src_cell hs 33 (by have := H35.out; omega) HB.out.1⟩
  refine wp_region_noPanic ?_
  refine wp_region_held_drew (S := fun w' => w'.cell? ⟨b, o + 27, none⟩ = some (.int .u8 (B27 : Nat)) ∧ w'.cell? ⟨b, o + 29, none⟩ = some (.int .u8 (B29 : Nat)) ∧ w'.cell? ⟨b, o + 31, none⟩ = some (.int .u8 (B31 : Nat)) ∧ w'.cell? ⟨b, o + 33, none⟩ = some (.int .u8 (B33 : Nat))) (by kernel_rfl) (by rw [hU]; exact ⟨t27, t29, t31, t33⟩) (fun hHeld => ?_)
  rw [hU] at hHeld ⊢
  clear hU
  refine wpAnyH_take (i := 0) (oi := { dst := some 60, op := Op.move (Operand.tmp 0), type := 33, pos := "ref.go:130", after := #[], guard := none }) (v := ?_) rfl (by kernel_rfl) (by kernel_rfl) (by kernel_rfl) (fun _ _ _ h => h) (Or.inl ⟨by rfl, ?_⟩) hHeld ?_
  rotate_left
  · intro W hSw
    obtain ⟨l1, l2, l3, l4⟩ := hSw
    first | (go_simp; done) | (go_simp; with_reducible rfl)
  rotate_left
  try simp only [Act.put, List.setIfInBounds_toArray, List.set_cons_zero, List.set_cons_succ]
  refine wpAnyH_take (i := 1) (oi := { dst := some 61, op := Op.indexAddr 33 (Operand.tmp 60) (Operand.const (Value.int IntKind.i64 27)), type := 0, pos := "ref.go:130", after := #[{ on := 0, ground := Ground.data }], guard := none }) (v := ?_) rfl (by kernel_rfl) (by kernel_rfl) (by kernel_rfl) (fun _ _ _ h => h) (Or.inl ⟨by rfl, ?_⟩) hHeld ?_
  rotate_left
  · intro W hSw
    obtain ⟨l1, l2, l3, l4⟩ := hSw
    first | (go_simp; done) | (go_simp; with_reducible rfl)
  rotate_left
  try simp only [Act.put, List.setIfInBounds_toArray, List.set_cons_zero, List.set_cons_succ]
  refine wpAnyH_take (i := 2) (oi := { dst := some 62, op := Op.load 5 (Operand.tmp 61), type := 5, pos := "ref.go:130", after := #[{ on := 1, ground := Ground.data }], guard := none }) (v := ?_) rfl (by kernel_rfl) (by kernel_rfl) (by kernel_rfl) (fun _ _ _ h => h) (Or.inl ⟨by rfl, ?_⟩) hHeld ?_
  rotate_left
  · intro W hSw
    obtain ⟨l1, l2, l3, l4⟩ := hSw
    first | (go_simp; done) | (go_simp; with_reducible rfl)
  rotate_left
  try simp only [Act.put, List.setIfInBounds_toArray, List.set_cons_zero, List.set_cons_succ]
  refine wpAnyH_take (i := 3) (oi := { dst := some 63, op := Op.move (Operand.tmp 0), type := 33, pos := "ref.go:130", after := #[], guard := none }) (v := ?_) rfl (by kernel_rfl) (by kernel_rfl) (by kernel_rfl) (fun _ _ _ h => h) (Or.inl ⟨by rfl, ?_⟩) hHeld ?_
  rotate_left
  · intro W hSw
    obtain ⟨l1, l2, l3, l4⟩ := hSw
    first | (go_simp; done) | (go_simp; with_reducible rfl)
  rotate_left
  try simp only [Act.put, List.setIfInBounds_toArray, List.set_cons_zero, List.set_cons_succ]
  refine wpAnyH_take (i := 4) (oi := { dst := some 64, op := Op.indexAddr 33 (Operand.tmp 63) (Operand.const (Value.int IntKind.i64 29)), type := 0, pos := "ref.go:130", after := #[{ on := 3, ground := Ground.data }], guard := none }) (v := ?_) rfl (by kernel_rfl) (by kernel_rfl) (by kernel_rfl) (fun _ _ _ h => h) (Or.inl ⟨by rfl, ?_⟩) hHeld ?_
  rotate_left
  · intro W hSw
    obtain ⟨l1, l2, l3, l4⟩ := hSw
    first | (go_simp; done) | (go_simp; with_reducible rfl)
  rotate_left
  try simp only [Act.put, List.setIfInBounds_toArray, List.set_cons_zero, List.set_cons_succ]
  refine wpAnyH_take (i := 5) (oi := { dst := some 65, op := Op.load 5 (Operand.tmp 64), type := 5, pos := "ref.go:130", after := #[{ on := 4, ground := Ground.data }], guard := none }) (v := ?_) rfl (by kernel_rfl) (by kernel_rfl) (by kernel_rfl) (fun _ _ _ h => h) (Or.inl ⟨by rfl, ?_⟩) hHeld ?_
  rotate_left
  · intro W hSw
    obtain ⟨l1, l2, l3, l4⟩ := hSw
    first | (go_simp; done) | (go_simp; with_reducible rfl)
  rotate_left
  try simp only [Act.put, List.setIfInBounds_toArray, List.set_cons_zero, List.set_cons_succ]
  refine wpAnyH_take (i := 6) (oi := { dst := some 66, op := Op.move (Operand.tmp 0), type := 33, pos := "ref.go:130", after := #[], guard := none }) (v := ?_) rfl (by kernel_rfl) (by kernel_rfl) (by kernel_rfl) (fun _ _ _ h => h) (Or.inl ⟨by rfl, ?_⟩) hHeld ?_
  rotate_left
  · intro W hSw
    obtain ⟨l1, l2, l3, l4⟩ := hSw
    first | (go_simp; done) | (go_simp; with_reducible rfl)
  rotate_left
  try simp only [Act.put, List.setIfInBounds_toArray, List.set_cons_zero, List.set_cons_succ]
  refine wpAnyH_take (i := 7) (oi := { dst := some 67, op := Op.indexAddr 33 (Operand.tmp 66) (Operand.const (Value.int IntKind.i64 31)), type := 0, pos := "ref.go:130", after := #[{ on := 6, ground := Ground.data }], guard := none }) (v := ?_) rfl (by kernel_rfl) (by kernel_rfl) (by kernel_rfl) (fun _ _ _ h => h) (Or.inl ⟨by rfl, ?_⟩) hHeld ?_
  rotate_left
  · intro W hSw
    obtain ⟨l1, l2, l3, l4⟩ := hSw
    first | (go_simp; done) | (go_simp; with_reducible rfl)
  rotate_left
  try simp only [Act.put, List.setIfInBounds_toArray, List.set_cons_zero, List.set_cons_succ]
  refine wpAnyH_take (i := 8) (oi := { dst := some 68, op := Op.load 5 (Operand.tmp 67), type := 5, pos := "ref.go:130", after := #[{ on := 7, ground := Ground.data }], guard := none }) (v := ?_) rfl (by kernel_rfl) (by kernel_rfl) (by kernel_rfl) (fun _ _ _ h => h) (Or.inl ⟨by rfl, ?_⟩) hHeld ?_
  rotate_left
  · intro W hSw
    obtain ⟨l1, l2, l3, l4⟩ := hSw
    first | (go_simp; done) | (go_simp; with_reducible rfl)
  rotate_left
  try simp only [Act.put, List.setIfInBounds_toArray, List.set_cons_zero, List.set_cons_succ]
  refine wpAnyH_take (i := 9) (oi := { dst := some 69, op := Op.move (Operand.tmp 0), type := 33, pos := "ref.go:130", after := #[], guard := none }) (v := ?_) rfl (by kernel_rfl) (by kernel_rfl) (by kernel_rfl) (fun _ _ _ h => h) (Or.inl ⟨by rfl, ?_⟩) hHeld ?_
  rotate_left
  · intro W hSw
    obtain ⟨l1, l2, l3, l4⟩ := hSw
    first | (go_simp; done) | (go_simp; with_reducible rfl)
  rotate_left
  try simp only [Act.put, List.setIfInBounds_toArray, List.set_cons_zero, List.set_cons_succ]
  refine wpAnyH_take (i := 10) (oi := { dst := some 70, op := Op.indexAddr 33 (Operand.tmp 69) (Operand.const (Value.int IntKind.i64 33)), type := 0, pos := "ref.go:130", after := #[{ on := 9, ground := Ground.data }], guard := none }) (v := ?_) rfl (by kernel_rfl) (by kernel_rfl) (by kernel_rfl) (fun _ _ _ h => h) (Or.inl ⟨by rfl, ?_⟩) hHeld ?_
  rotate_left
  · intro W hSw
    obtain ⟨l1, l2, l3, l4⟩ := hSw
    first | (go_simp; done) | (go_simp; with_reducible rfl)
  rotate_left
  try simp only [Act.put, List.setIfInBounds_toArray, List.set_cons_zero, List.set_cons_succ]
  refine wpAnyH_take (i := 11) (oi := { dst := some 71, op := Op.load 5 (Operand.tmp 70), type := 5, pos := "ref.go:130", after := #[{ on := 10, ground := Ground.data }], guard := none }) (v := ?_) rfl (by kernel_rfl) (by kernel_rfl) (by kernel_rfl) (fun _ _ _ h => h) (Or.inl ⟨by rfl, ?_⟩) hHeld ?_
  rotate_left
  · intro W hSw
    obtain ⟨l1, l2, l3, l4⟩ := hSw
    first | (go_simp; done) | (go_simp; with_reducible rfl)
  rotate_left
  try simp only [Act.put, List.setIfInBounds_toArray, List.set_cons_zero, List.set_cons_succ]
  refine wpAnyH_take (i := 12) (oi := { dst := some 72, op := Op.build 30 #[(0, Operand.tmp 62), (1, Operand.tmp 65), (2, Operand.tmp 68), (3, Operand.tmp 71)], type := 30, pos := "ref.go:130", after := #[{ on := 2, ground := Ground.data }, { on := 5, ground := Ground.data }, { on := 8, ground := Ground.data }, { on := 11, ground := Ground.data }], guard := none }) (v := ?_) rfl (by kernel_rfl) (by kernel_rfl) (by kernel_rfl) (fun _ _ _ h => h) (Or.inl ⟨by rfl, ?_⟩) hHeld ?_
  rotate_left
  · intro W hSw
    obtain ⟨l1, l2, l3, l4⟩ := hSw
    first | (go_simp; done) | (go_simp; with_reducible rfl)
  rotate_left
  try simp only [Act.put, List.setIfInBounds_toArray, List.set_cons_zero, List.set_cons_succ]
  refine wpAnyH_take (i := 13) (oi := { dst := some 73, op := Op.fieldAddr 32 (Operand.tmp 4) 9, type := 0, pos := "ref.go:130", after := #[{ on := 0, ground := Ground.phase }, { on := 1, ground := Ground.phase }, { on := 2, ground := Ground.phase }, { on := 3, ground := Ground.phase }, { on := 4, ground := Ground.phase }, { on := 5, ground := Ground.phase }, { on := 6, ground := Ground.phase }, { on := 7, ground := Ground.phase }, { on := 8, ground := Ground.phase }, { on := 9, ground := Ground.phase }, { on := 10, ground := Ground.phase }, { on := 11, ground := Ground.phase }, { on := 12, ground := Ground.phase }], guard := none }) (v := ?_) rfl (by kernel_rfl) (by kernel_rfl) (by kernel_rfl) (fun _ _ _ h => h) (Or.inl ⟨by rfl, ?_⟩) hHeld ?_
  rotate_left
  · intro W hSw
    obtain ⟨l1, l2, l3, l4⟩ := hSw
    first | (go_simp; done) | (go_simp; with_reducible rfl)
  rotate_left
  try simp only [Act.put, List.setIfInBounds_toArray, List.set_cons_zero, List.set_cons_succ]
  refine wpAnyH_ready (rs := [14]) (by kernel_rfl) (by simp) ?_
  refine AllReadyH.cons (o := { dst := none, op := Op.store 30 (Operand.tmp 73) (Operand.tmp 72), type := 0, pos := "ref.go:130", after := #[{ on := 13, ground := Ground.data }, { on := 12, ground := Ground.data }, { on := 0, ground := Ground.phase }, { on := 1, ground := Ground.phase }, { on := 2, ground := Ground.phase }, { on := 3, ground := Ground.phase }, { on := 4, ground := Ground.phase }, { on := 5, ground := Ground.phase }, { on := 6, ground := Ground.phase }, { on := 7, ground := Ground.phase }, { on := 8, ground := Ground.phase }, { on := 9, ground := Ground.phase }, { on := 10, ground := Ground.phase }, { on := 11, ground := Ground.phase }, { on := 12, ground := Ground.phase }], guard := none }) rfl (fun K hK => ?_) AllReadyH.nil
  go_simp
  clear hHeld
  refine hK.out _ _ C4.out (fun hHeld => ?_)
  clear hK K
  try simp only [Act.put, List.setIfInBounds_toArray, List.set_cons_zero, List.set_cons_succ]
  refine wpAnyH_done (by kernel_rfl) ?_ _
  refine NoPanic.normal ?_
  clear hHeld
  have eM : withT m1 B27 B29 B31 B33 = M := by
    rw [ER.out, ← E1.out, ← E0.out, ← E5.out, ← E13.out, ← E17.out, ← E25.out, ← D27.out, ← D29.out, ← D31.out, ← D33.out, ← EF.out]
    rfl
  have QM : Hid (RQ w T mB M) := by rw [← eM]; exact QT.out
  have lM := QM.out.pv.ld
  clear eM QT stT t27 t29 t31 t33 n27 n29 n31 n33 C4 QU SU
  go_wp2_with fail
  refine (bref_any M _ EV.out).mono ?_
  rintro _ W5 ⟨s5, rfl, o5, b5⟩
  have Z5 : Hid (RQ w W5 mB M) := QM.out.later b5
  have HC : Hid (chkP M = 0) := by show _ = _; unfold chkP; rw [EO.out]; rfl
  rw [HC.out]
  have x1 := o5.src.string
  have x2 := (EW.out.below Z5.out.below).string
  clear o5 b5 QM lM
  have e6 : mbO M = mbytes M := by
    unfold mbO
    rw [EO.out]
    rfl
  rw [e6] at x1
  have hq : ((bs (mbytes M)).toList == (bs l).toList) = true := EQ.out
  clear e6
  have st := Z5.out.z.st (n := M)
  have l5 := Z5.out.pv.ld
  have HF : Hid (PvAt (W5.setRow w.heap.size M.cs) w.heap.size M ∧ Below w.heap.size w (W5.setRow w.heap.size M.cs)) := ⟨Z5.out.z.set, below_setRow Z5.out.below (Nat.le_refl _) _⟩
  go_wp2
  refine bodyPost_ret (results_row2 rt32 Tryd.results13 _ _ _ _ _ rfl rfl HF.out.1 rfl) rfl ?_
  exact ⟨M, 0, rfl, rd_yes HB.out.2.1 EV.out EO.out ((beqL_iff (mbytes_ok EV.out) HB.out.1).1 EQ.out), HF.out.2⟩
end Go.Proofs.YtfpoopllkmnagaaDoor
