/-
  The walk of a message's bytes by definition: for every message.
-/
import Derived.Test.YtfpoopllkmnagaaDoorRefA
import Derived.Test.YtfpoopllkmnagaaDoorFine
import Derived.Test.YtfpoopllkmnagaaDoorBytesm
namespace Go.Proofs.YtfpoopllkmnagaaDoor
set_option linter.unusedVariables false
set_option maxRecDepth 4000
set_option linter.unusedSimpArgs false
open Go.RowKit

attribute [local go_sem ↓] ldS32 ldS49 ldS28 ldS30 ldS83 stS32 stS49 stS28 stS30 eqP_eq nqP_eq eqM_eq nqM_eq nqV_eq nqT_eq slS_eq


theorem bref_no (m : Bp) (w : World) (ho : okB m = false) :
    Calls Tryd.prog 8 #[.agg m.cs] w fun r w' => r = .returned (.tuple #[.slice none 0 0, .int .i64 50]) ∧ Below w.heap.size w w' := by
  have hB : Below w.heap.size w (w.alloc (.cells m.cs 32)) := (Below.refl _ _).alloc (Nat.le_refl _) _
  have hp := PvAt.new w m
  have ld := hp.ld
  have H : Hid (QSt w (w.alloc (.cells m.cs 32)) m) := ⟨hp, hB⟩
  clear hB hp
  go_enter Tryd.func8, Tryd.ntmps8
  go_wp2_with fail
  refine (fine_any m _).mono ?_
  rintro _ W1 ⟨rfl, b1⟩
  rw [ho]
  have H1 : Hid (QSt w W1 m) := H.out.later b1
  clear b1 H ld ho
  go_wp2
  go_ret2
  exact ⟨rfl, H1.out.below⟩

theorem bref_tcn (m : Bp) (w : World) (ho : okB m = true) (hk : m.k = 2) :
    Calls Tryd.prog 8 #[.agg m.cs] w fun r w' => ∃ s, r = .returned (.tuple #[s, .int .i64 0]) ∧ Own w' w.heap.size s (mbytes m) ∧ Below w.heap.size w w' := by
  have hB : Below w.heap.size w (w.alloc (.cells m.cs 32)) := (Below.refl _ _).alloc (Nat.le_refl _) _
  have hp := PvAt.new w m
  have ld := hp.ld
  have H : Hid (QSt w (w.alloc (.cells m.cs 32)) m) := ⟨hp, hB⟩
  have HE : Hid (mbytes m = [0, 0, 0, 128]) := by show _ = _; unfold mbytes; rw [if_pos hk]
  clear hB hp
  go_enter Tryd.func8, Tryd.ntmps8
  go_wp2_with fail
  refine (fine_any m _).mono ?_
  rintro _ W1 ⟨rfl, b1⟩
  rw [ho]
  have H1 : Hid (QSt w W1 m) := H.out.later b1
  have k1 := H1.out.pv.c0
  rw [hk] at k1
  clear b1 H ld ho hk
  go_wp2
  go_ret2
  rw [HE.out]
  exact ⟨_, rfl, own_new W1 [0, 0, 0, 128] _ _ _ rfl rfl H1.out.below.size (by simp), H1.out.below.alloc H1.out.below.size _⟩

set_option maxHeartbeats 8000000 in
theorem bref_cfg (m : Bp) (w : World) (hm : m.wf) (ho : okB m = true) (hk : m.k = 1) :
    Calls Tryd.prog 8 #[.agg m.cs] w fun r w' => ∃ s, r = .returned (.tuple #[s, .int .i64 0]) ∧ Own w' w.heap.size s (mbytes m) ∧ Below w.heap.size w w' := by
  have hB : Below w.heap.size w (w.alloc (.cells m.cs 32)) := (Below.refl _ _).alloc (Nat.le_refl _) _
  have hp := PvAt.new w m
  have ld := hp.ld
  have H : Hid (QSt w (w.alloc (.cells m.cs 32)) m) := ⟨hp, hB⟩
  have HLN : Hid True := trivial
  have HM : Hid (m.wf ∧ okB m = true ∧ m.k = 1) := ⟨hm, ho, hk⟩
  have d1 : 0 ≤ bitI m.tc 1 ∧ bitI m.tc 1 ≤ 1 := by cases m.tc <;> simp [bitI]
  have d2 : 0 ≤ bitI m.ak 128 ∧ bitI m.ak 128 ≤ 128 := by cases m.ak <;> simp [bitI]
  have EF : Hid (bitI m.tc 1 + bitI m.ak 128 = (flN m : Nat)) := by
    show _ = _
    unfold okB badC at ho
    rw [hk] at ho
    simp at ho
    obtain ⟨h1, h2, h3, h4, h5⟩ := ho
    unfold flN
    rw [h1, h2, h3, h4, h5]
    cases m.tc <;> cases m.ak <;> simp [bitI, bitB, roN]
  have HF : Hid (flN m < 256) := flN_lt m
  have HE : Hid ([0, 0, 0, 0] ++ [((flN m : Nat) : Int)] ++ be 8 m.rt ++ be 4 m.co ++ be 8 m.br ++ be 2 m.po ++ [(m.a : Int), 0, (m.x : Int), 0, (m.h : Int), 0, (m.d : Int), 0] = mbytes m) := by
    show _ = _
    unfold mbytes bodyL restL
    rw [if_neg (by omega), if_neg (by omega)]
    simp
  have wa := hm.a
  have wx := hm.x
  have wh := hm.h
  have wd := hm.d
  have wc := hm.co
  have wp := hm.po
  clear hB hp hm
  go_enter Tryd.func8, Tryd.ntmps8
  go_wp2_with fail
  refine (fine_any m _).mono ?_
  rintro _ W1 ⟨rfl, b1⟩
  rw [ho]
  have H1 : Hid (QSt w W1 m) := H.out.later b1
  have k0 := H1.out.pv.c0
  have k1 := H1.out.pv.c1
  have k2 := H1.out.pv.c2
  rw [hk] at k0
  have hlt := H1.out.pv.lt
  clear b1 H ld ho
  go_wp2_with fail
  go_quiet ((go_at_call 24; refine Calls.quiet_of_same (flag_ref _ _ _)))
  obtain ⟨V, hV⟩ : ∃ V, (W1.alloc (.cells #[.int .u8 0, .int .u8 0, .int .u8 0, .int .u8 0] 5)).drewN nq = V := ⟨_, rfl⟩
  have QV : Hid (QSt w V m) := by
    show QSt _ _ _
    rw [← hV]
    exact ⟨(H1.out.alloc _).pv, below_dn (H1.out.alloc _).below nq⟩
  have OV : Hid (Own V (w.heap.size + 1) (.slice (some ⟨W1.heap.size, 0, none⟩) 4 4) [0, 0, 0, 0]) := by
    show Own _ _ _ _
    rw [← hV]
    exact (own_new W1 [0, 0, 0, 0] _ _ _ rfl rfl H1.out.sz (by simp)).of_block (fun _ _ => rfl)
  rw [hV]
  clear hV k0 k1 k2 H1
  have k0 := QV.out.pv.c0
  have k1 := QV.out.pv.c1
  have k2 := QV.out.pv.c2
  rw [hk] at k0
  have hlv := QV.out.pv.lt
  clear hk
  go_wp2_with fail
  rw [EF.out]
  clear k0 k1 k2 d1 d2 hlt hlv
  obtain ⟨F, hF⟩ : ∃ F, flN m = F := ⟨_, rfl⟩
  rw [hF] at HE ⊢
  have hF2 : F < 256 := by have := HF.out; omega
  have uF : IntKind.u8.wrap (F : Int) = F := IntWalk.u8_in _ (by omega)
  have uC : IntKind.u64.wrap (m.co : Int) = m.co := IntWalk.u64_in _ (by omega)
  have uP : IntKind.u64.wrap (m.po : Int) = m.po := IntWalk.u64_in _ (by omega)
  have Q0 : Hid (QSt w V.drew m) := ⟨QV.out.pv, QV.out.below.drew⟩
  have O0 : Hid (Own V.drew (w.heap.size + 1) (.slice (some ⟨W1.heap.size, 0, none⟩) 4 4) [0, 0, 0, 0]) := OV.out.of_block (fun _ _ => rfl)
  obtain ⟨X0, hX0⟩ : ∃ X, V.drew = X := ⟨_, rfl⟩
  rw [hX0] at Q0 O0
  clear QV OV hF HF EF
  refine wp_region_noPanic ?_
  refine wp_region_held_drew (S := fun w' => w'.cell? ⟨w.heap.size, 8, none⟩ = some (.int .u64 m.rt)) (by kernel_rfl) (by rw [hX0]; exact Q0.out.pv.c8) (fun hHeld => ?_)
  rw [hX0] at hHeld ⊢
  clear hX0
  refine wpAnyH_take (i := 0) (oi := { dst := some 49, op := Op.move (Operand.tmp 4), type := 33, pos := "ref.go:83", after := #[], guard := none }) (v := ?_) rfl (by kernel_rfl) (by kernel_rfl) (by kernel_rfl) (fun _ _ _ h => h) (Or.inl ⟨by rfl, ?_⟩) hHeld ?_
  rotate_left
  · intro W hSw
    first | (go_simp; done) | (go_simp; with_reducible rfl)
  rotate_left
  try simp only [Act.put, List.setIfInBounds_toArray, List.set_cons_zero, List.set_cons_succ]
  refine wpAnyH_take (i := 1) (oi := { dst := some 50, op := Op.move (Operand.tmp 5), type := 3, pos := "ref.go:83", after := #[], guard := none }) (v := ?_) rfl (by kernel_rfl) (by kernel_rfl) (by kernel_rfl) (fun _ _ _ h => h) (Or.inl ⟨by rfl, ?_⟩) hHeld ?_
  rotate_left
  · intro W hSw
    first | (go_simp; done) | (go_simp; with_reducible rfl)
  rotate_left
  try simp only [Act.put, List.setIfInBounds_toArray, List.set_cons_zero, List.set_cons_succ]
  refine wpAnyH_take (i := 2) (oi := { dst := some 51, op := Op.convert 3 5 (Operand.tmp 50), type := 5, pos := "ref.go:83", after := #[{ on := 1, ground := Ground.data }], guard := none }) (v := ?_) rfl (by kernel_rfl) (by kernel_rfl) (by kernel_rfl) (fun _ _ _ h => h) (Or.inl ⟨by rfl, ?_⟩) hHeld ?_
  rotate_left
  · intro W hSw
    first | (go_simp; done) | (go_simp; with_reducible rfl)
  rotate_left
  try simp only [Act.put, List.setIfInBounds_toArray, List.set_cons_zero, List.set_cons_succ]
  refine wpAnyH_take (i := 5) (oi := { dst := some 54, op := Op.fieldAddr 32 (Operand.tmp 1) 8, type := 0, pos := "ref.go:83", after := #[], guard := none }) (v := ?_) rfl (by kernel_rfl) (by kernel_rfl) (by kernel_rfl) (fun _ _ _ h => h) (Or.inl ⟨by rfl, ?_⟩) hHeld ?_
  rotate_left
  · intro W hSw
    first | (go_simp; done) | (go_simp; with_reducible rfl)
  rotate_left
  try simp only [Act.put, List.setIfInBounds_toArray, List.set_cons_zero, List.set_cons_succ]
  refine wpAnyH_take (i := 6) (oi := { dst := some 55, op := Op.fieldAddr 28 (Operand.tmp 54) 0, type := 0, pos := "ref.go:83", after := #[{ on := 5, ground := Ground.data }], guard := none }) (v := ?_) rfl (by kernel_rfl) (by kernel_rfl) (by kernel_rfl) (fun _ _ _ h => h) (Or.inl ⟨by rfl, ?_⟩) hHeld ?_
  rotate_left
  · intro W hSw
    first | (go_simp; done) | (go_simp; with_reducible rfl)
  rotate_left
  try simp only [Act.put, List.setIfInBounds_toArray, List.set_cons_zero, List.set_cons_succ]
  refine wpAnyH_take (i := 7) (oi := { dst := some 56, op := Op.load 24 (Operand.tmp 55), type := 24, pos := "ref.go:83", after := #[{ on := 6, ground := Ground.data }], guard := none }) (v := ?_) rfl (by kernel_rfl) (by kernel_rfl) (by kernel_rfl) (fun _ _ _ h => h) (Or.inl ⟨by rfl, ?_⟩) hHeld ?_
  rotate_left
  · intro W hSw
    first | (go_simp; done) | (go_simp; with_reducible rfl)
  rotate_left
  try simp only [Act.put, List.setIfInBounds_toArray, List.set_cons_zero, List.set_cons_succ]
  refine wpAnyH_ready (rs := [3]) (by kernel_rfl) (by simp) ?_
  refine AllReadyH.cons (o := { dst := some 52, op := Op.buildSlice 33 1 #[(0, Operand.tmp 51)], type := 33, pos := "ref.go:83", after := #[{ on := 2, ground := Ground.data }], guard := none }) rfl (fun K hK => ?_) AllReadyH.nil
  go_simp
  have Q1 : Hid (QSt w (X0.alloc (.cells #[.int .u8 (F : Int)] 5)) m) := Q0.out.alloc _
  have O1 : Hid (Own (X0.alloc (.cells #[.int .u8 (F : Int)] 5)) (w.heap.size + 1) (.slice (some ⟨W1.heap.size, 0, none⟩) 4 4) [0, 0, 0, 0]) := own_alloc O0.out _
  have S1 : Hid (Src (X0.alloc (.cells #[.int .u8 (F : Int)] 5)) (.slice (some ⟨X0.heap.size, 0, none⟩) 1 1) [(F : Int)]) := (own_new X0 [(F : Int)] _ _ _ rfl rfl (Nat.le_refl _) (by simp)).src
  clear hHeld
  refine hK.out _ _ Q1.out.pv.c8 (fun hHeld => ?_)
  clear hK K
  try simp only [Act.put, List.setIfInBounds_toArray, List.set_cons_zero, List.set_cons_succ]
  refine wpAnyH_ready (rs := [4]) (by kernel_rfl) (by simp) ?_
  refine AllReadyH.cons (o := { dst := some 53, op := Op.call { callee := Callee.builtin Builtin.append, args := #[Operand.tmp 49, Operand.tmp 52], argTypes := #[33, 33] }, type := 33, pos := "ref.go:83", after := #[{ on := 0, ground := Ground.data }, { on := 3, ground := Ground.data }], guard := none }) rfl (fun K hK => ?_) AllReadyH.nil
  refine step_app (by rfl) _ _ (by rfl) (by rfl) (by rfl) O1.out S1.out (by have := HLN.out; simp [be_len]) Q1.out.sz ?_
  intro v2 W2 o2 g2 _
  have Q2 : Hid (QSt w W2 m) := Q1.out.own (grown_below O1.out g2 Q1.out.sz)
  obtain ⟨a2, n2, c2, rfl⟩ := src_form o2.src
  have O2 : Hid (Own W2 (w.heap.size + 1) (.slice a2 n2 c2) ([0, 0, 0, 0] ++ [(F : Int)])) := o2
  clear o2 g2
  clear hHeld
  refine hK.out _ _ Q2.out.pv.c8 (fun hHeld => ?_)
  clear hK K
  try simp only [Act.put, List.setIfInBounds_toArray, List.set_cons_zero, List.set_cons_succ]
  refine wpAnyH_ready (rs := [8]) (by kernel_rfl) (by simp) ?_
  refine AllReadyH.cons (o := { dst := some 57, op := Op.call { callee := Callee.value (Operand.func 26), args := #[Operand.tmp 56, Operand.const (Value.int IntKind.i64 8)], argTypes := #[24, 3] }, type := 33, pos := "ref.go:83", after := #[{ on := 7, ground := Ground.data }, { on := 4, ground := Ground.chain }], guard := none }) rfl (fun K hK => ?_) AllReadyH.nil
  go_simp
  refine (put_ref m.rt 8 _ (by omega) HM.out.1.rt).mono ?_
  rintro _ W3 ⟨x3, rfl, o3, b3⟩
  have Q3 : Hid (QSt w W3 m) := Q2.out.later b3
  have O3 : Hid (Own W3 (w.heap.size + 1) (.slice a2 n2 c2) ([0, 0, 0, 0] ++ [(F : Int)])) := O2.out.below b3
  have S3 : Hid (Src W3 x3 (be 8 m.rt)) := o3.src
  clear o3 b3
  clear hHeld
  refine hK.out _ _ Q3.out.pv.c8 (fun hHeld => ?_)
  clear hK K
  try simp only [Act.put, List.setIfInBounds_toArray, List.set_cons_zero, List.set_cons_succ]
  refine wpAnyH_ready (rs := [9]) (by kernel_rfl) (by simp) ?_
  refine AllReadyH.cons (o := { dst := some 58, op := Op.call { callee := Callee.builtin Builtin.append, args := #[Operand.tmp 53, Operand.tmp 57], argTypes := #[33, 33] }, type := 33, pos := "ref.go:83", after := #[{ on := 4, ground := Ground.data }, { on := 8, ground := Ground.data }, { on := 8, ground := Ground.chain }], guard := none }) rfl (fun K hK => ?_) AllReadyH.nil
  refine step_app (by rfl) _ _ (by rfl) (by rfl) (by rfl) O3.out S3.out (by have := HLN.out; simp [be_len]) Q3.out.sz ?_
  intro v4 W4 o4 g4 _
  have Q4 : Hid (QSt w W4 m) := Q3.out.own (grown_below O3.out g4 Q3.out.sz)
  obtain ⟨a4, n4, c4, rfl⟩ := src_form o4.src
  have O4 : Hid (Own W4 (w.heap.size + 1) (.slice a4 n4 c4) ([0, 0, 0, 0] ++ [(F : Int)] ++ be 8 m.rt)) := o4
  clear o4 g4
  clear hHeld
  refine hK.out _ _ Q4.out.pv.c8 (fun hHeld => ?_)
  clear hK K
  try simp only [Act.put, List.setIfInBounds_toArray, List.set_cons_zero, List.set_cons_succ]
  refine wpAnyH_ready (rs := [10]) (by kernel_rfl) (by simp) ?_
  refine AllReadyH.cons (o := { dst := some 4, op := Op.assign (Operand.tmp 58), type := 33, pos := "ref.go:83", after := #[{ on := 9, ground := Ground.data }, { on := 9, ground := Ground.chain }, { on := 0, ground := Ground.phase }, { on := 1, ground := Ground.phase }, { on := 2, ground := Ground.phase }, { on := 3, ground := Ground.phase }, { on := 4, ground := Ground.phase }, { on := 5, ground := Ground.phase }, { on := 6, ground := Ground.phase }, { on := 7, ground := Ground.phase }, { on := 8, ground := Ground.phase }, { on := 9, ground := Ground.phase }], guard := none }) rfl (fun K hK => ?_) AllReadyH.nil
  go_simp
  clear hHeld
  refine hK.out _ _ Q4.out.pv.c8 (fun hHeld => ?_)
  clear hK K
  try simp only [Act.put, List.setIfInBounds_toArray, List.set_cons_zero, List.set_cons_succ]
  refine wpAnyH_done (by kernel_rfl) ?_ _
  refine NoPanic.normal ?_
  clear hHeld
  clear Q0 O0 Q1 O1 S1 Q2 O2 Q3 O3 S3
  go_wp2_with fail
  have Q5 : Hid (QSt w W4.drew m) := ⟨Q4.out.pv, Q4.out.below.drew⟩
  have O5 : Hid (Own W4.drew (w.heap.size + 1) (.slice a4 n4 c4) ([0, 0, 0, 0] ++ [(F : Int)] ++ be 8 m.rt)) := O4.out.of_block (fun _ _ => rfl)
  obtain ⟨X5, hX5⟩ : ∃ X, W4.drew = X := ⟨_, rfl⟩
  rw [hX5] at Q5 O5
  clear Q4 O4
  refine wp_region_noPanic ?_
  refine wp_region_held_drew (S := fun w' => w'.cell? ⟨w.heap.size, 9, none⟩ = some (.int .u32 m.co) ∧ w'.cell? ⟨w.heap.size, 10, none⟩ = some (.int .u64 m.br)) (by kernel_rfl) (by rw [hX5]; exact ⟨Q5.out.pv.c9, Q5.out.pv.c10⟩) (fun hHeld => ?_)
  rw [hX5] at hHeld ⊢
  clear hX5
  refine wpAnyH_take (i := 0) (oi := { dst := some 59, op := Op.move (Operand.tmp 4), type := 33, pos := "ref.go:84", after := #[], guard := none }) (v := ?_) rfl (by kernel_rfl) (by kernel_rfl) (by kernel_rfl) (fun _ _ _ h => h) (Or.inl ⟨by rfl, ?_⟩) hHeld ?_
  rotate_left
  · intro W hSw
    obtain ⟨l1, l2⟩ := hSw
    first | (go_simp; done) | (go_simp; with_reducible rfl)
  rotate_left
  try simp only [Act.put, List.setIfInBounds_toArray, List.set_cons_zero, List.set_cons_succ]
  refine wpAnyH_take (i := 1) (oi := { dst := some 60, op := Op.fieldAddr 32 (Operand.tmp 1) 8, type := 0, pos := "ref.go:84", after := #[], guard := none }) (v := ?_) rfl (by kernel_rfl) (by kernel_rfl) (by kernel_rfl) (fun _ _ _ h => h) (Or.inl ⟨by rfl, ?_⟩) hHeld ?_
  rotate_left
  · intro W hSw
    obtain ⟨l1, l2⟩ := hSw
    first | (go_simp; done) | (go_simp; with_reducible rfl)
  rotate_left
  try simp only [Act.put, List.setIfInBounds_toArray, List.set_cons_zero, List.set_cons_succ]
  refine wpAnyH_take (i := 2) (oi := { dst := some 61, op := Op.fieldAddr 28 (Operand.tmp 60) 1, type := 0, pos := "ref.go:84", after := #[{ on := 1, ground := Ground.data }], guard := none }) (v := ?_) rfl (by kernel_rfl) (by kernel_rfl) (by kernel_rfl) (fun _ _ _ h => h) (Or.inl ⟨by rfl, ?_⟩) hHeld ?_
  rotate_left
  · intro W hSw
    obtain ⟨l1, l2⟩ := hSw
    first | (go_simp; done) | (go_simp; with_reducible rfl)
  rotate_left
  try simp only [Act.put, List.setIfInBounds_toArray, List.set_cons_zero, List.set_cons_succ]
  refine wpAnyH_take (i := 3) (oi := { dst := some 62, op := Op.load 25 (Operand.tmp 61), type := 25, pos := "ref.go:84", after := #[{ on := 2, ground := Ground.data }], guard := none }) (v := ?_) rfl (by kernel_rfl) (by kernel_rfl) (by kernel_rfl) (fun _ _ _ h => h) (Or.inl ⟨by rfl, ?_⟩) hHeld ?_
  rotate_left
  · intro W hSw
    obtain ⟨l1, l2⟩ := hSw
    first | (go_simp; done) | (go_simp; with_reducible rfl)
  rotate_left
  try simp only [Act.put, List.setIfInBounds_toArray, List.set_cons_zero, List.set_cons_succ]
  refine wpAnyH_take (i := 4) (oi := { dst := some 63, op := Op.convert 25 24 (Operand.tmp 62), type := 24, pos := "ref.go:84", after := #[{ on := 3, ground := Ground.data }], guard := none }) (v := ?_) rfl (by kernel_rfl) (by kernel_rfl) (by kernel_rfl) (fun _ _ _ h => h) (Or.inl ⟨by rfl, ?_⟩) hHeld ?_
  rotate_left
  · intro W hSw
    obtain ⟨l1, l2⟩ := hSw
    first | (go_simp; done) | (go_simp; with_reducible rfl)
  rotate_left
  try simp only [Act.put, List.setIfInBounds_toArray, List.set_cons_zero, List.set_cons_succ]
  refine wpAnyH_take (i := 7) (oi := { dst := some 66, op := Op.fieldAddr 32 (Operand.tmp 1) 8, type := 0, pos := "ref.go:84", after := #[], guard := none }) (v := ?_) rfl (by kernel_rfl) (by kernel_rfl) (by kernel_rfl) (fun _ _ _ h => h) (Or.inl ⟨by rfl, ?_⟩) hHeld ?_
  rotate_left
  · intro W hSw
    obtain ⟨l1, l2⟩ := hSw
    first | (go_simp; done) | (go_simp; with_reducible rfl)
  rotate_left
  try simp only [Act.put, List.setIfInBounds_toArray, List.set_cons_zero, List.set_cons_succ]
  refine wpAnyH_take (i := 8) (oi := { dst := some 67, op := Op.fieldAddr 28 (Operand.tmp 66) 2, type := 0, pos := "ref.go:84", after := #[{ on := 7, ground := Ground.data }], guard := none }) (v := ?_) rfl (by kernel_rfl) (by kernel_rfl) (by kernel_rfl) (fun _ _ _ h => h) (Or.inl ⟨by rfl, ?_⟩) hHeld ?_
  rotate_left
  · intro W hSw
    obtain ⟨l1, l2⟩ := hSw
    first | (go_simp; done) | (go_simp; with_reducible rfl)
  rotate_left
  try simp only [Act.put, List.setIfInBounds_toArray, List.set_cons_zero, List.set_cons_succ]
  refine wpAnyH_take (i := 9) (oi := { dst := some 68, op := Op.load 24 (Operand.tmp 67), type := 24, pos := "ref.go:84", after := #[{ on := 8, ground := Ground.data }], guard := none }) (v := ?_) rfl (by kernel_rfl) (by kernel_rfl) (by kernel_rfl) (fun _ _ _ h => h) (Or.inl ⟨by rfl, ?_⟩) hHeld ?_
  rotate_left
  · intro W hSw
    obtain ⟨l1, l2⟩ := hSw
    first | (go_simp; done) | (go_simp; with_reducible rfl)
  rotate_left
  try simp only [Act.put, List.setIfInBounds_toArray, List.set_cons_zero, List.set_cons_succ]
  refine wpAnyH_ready (rs := [5]) (by kernel_rfl) (by simp) ?_
  refine AllReadyH.cons (o := { dst := some 64, op := Op.call { callee := Callee.value (Operand.func 26), args := #[Operand.tmp 63, Operand.const (Value.int IntKind.i64 4)], argTypes := #[24, 3] }, type := 33, pos := "ref.go:84", after := #[{ on := 4, ground := Ground.data }], guard := none }) rfl (fun K hK => ?_) AllReadyH.nil
  go_simp
  refine (put_ref m.co 4 _ (by omega) (by have := HM.out.1.co; omega)).mono ?_
  rintro _ W6 ⟨x6, rfl, o6, b6⟩
  have Q6 : Hid (QSt w W6 m) := Q5.out.later b6
  have O6 : Hid (Own W6 (w.heap.size + 1) (.slice a4 n4 c4) ([0, 0, 0, 0] ++ [(F : Int)] ++ be 8 m.rt)) := O5.out.below b6
  have S6 : Hid (Src W6 x6 (be 4 m.co)) := o6.src
  clear o6 b6
  clear hHeld
  refine hK.out _ _ ⟨Q6.out.pv.c9, Q6.out.pv.c10⟩ (fun hHeld => ?_)
  clear hK K
  try simp only [Act.put, List.setIfInBounds_toArray, List.set_cons_zero, List.set_cons_succ]
  refine wpAnyH_ready (rs := [6]) (by kernel_rfl) (by simp) ?_
  refine AllReadyH.cons (o := { dst := some 65, op := Op.call { callee := Callee.builtin Builtin.append, args := #[Operand.tmp 59, Operand.tmp 64], argTypes := #[33, 33] }, type := 33, pos := "ref.go:84", after := #[{ on := 0, ground := Ground.data }, { on := 5, ground := Ground.data }, { on := 5, ground := Ground.chain }], guard := none }) rfl (fun K hK => ?_) AllReadyH.nil
  refine step_app (by rfl) _ _ (by rfl) (by rfl) (by rfl) O6.out S6.out (by have := HLN.out; simp [be_len]) Q6.out.sz ?_
  intro v7 W7 o7 g7 _
  have Q7 : Hid (QSt w W7 m) := Q6.out.own (grown_below O6.out g7 Q6.out.sz)
  obtain ⟨a7, n7, c7, rfl⟩ := src_form o7.src
  have O7 : Hid (Own W7 (w.heap.size + 1) (.slice a7 n7 c7) ([0, 0, 0, 0] ++ [(F : Int)] ++ be 8 m.rt ++ be 4 m.co)) := o7
  clear o7 g7
  clear hHeld
  refine hK.out _ _ ⟨Q7.out.pv.c9, Q7.out.pv.c10⟩ (fun hHeld => ?_)
  clear hK K
  try simp only [Act.put, List.setIfInBounds_toArray, List.set_cons_zero, List.set_cons_succ]
  refine wpAnyH_ready (rs := [10]) (by kernel_rfl) (by simp) ?_
  refine AllReadyH.cons (o := { dst := some 69, op := Op.call { callee := Callee.value (Operand.func 26), args := #[Operand.tmp 68, Operand.const (Value.int IntKind.i64 8)], argTypes := #[24, 3] }, type := 33, pos := "ref.go:84", after := #[{ on := 9, ground := Ground.data }, { on := 6, ground := Ground.chain }], guard := none }) rfl (fun K hK => ?_) AllReadyH.nil
  go_simp
  refine (put_ref m.br 8 _ (by omega) HM.out.1.br).mono ?_
  rintro _ W8 ⟨x8, rfl, o8, b8⟩
  have Q8 : Hid (QSt w W8 m) := Q7.out.later b8
  have O8 : Hid (Own W8 (w.heap.size + 1) (.slice a7 n7 c7) ([0, 0, 0, 0] ++ [(F : Int)] ++ be 8 m.rt ++ be 4 m.co)) := O7.out.below b8
  have S8 : Hid (Src W8 x8 (be 8 m.br)) := o8.src
  clear o8 b8
  clear hHeld
  refine hK.out _ _ ⟨Q8.out.pv.c9, Q8.out.pv.c10⟩ (fun hHeld => ?_)
  clear hK K
  try simp only [Act.put, List.setIfInBounds_toArray, List.set_cons_zero, List.set_cons_succ]
  refine wpAnyH_ready (rs := [11]) (by kernel_rfl) (by simp) ?_
  refine AllReadyH.cons (o := { dst := some 70, op := Op.call { callee := Callee.builtin Builtin.append, args := #[Operand.tmp 65, Operand.tmp 69], argTypes := #[33, 33] }, type := 33, pos := "ref.go:84", after := #[{ on := 6, ground := Ground.data }, { on := 10, ground := Ground.data }, { on := 10, ground := Ground.chain }], guard := none }) rfl (fun K hK => ?_) AllReadyH.nil
  refine step_app (by rfl) _ _ (by rfl) (by rfl) (by rfl) O8.out S8.out (by have := HLN.out; simp [be_len]) Q8.out.sz ?_
  intro v9 W9 o9 g9 _
  have Q9 : Hid (QSt w W9 m) := Q8.out.own (grown_below O8.out g9 Q8.out.sz)
  obtain ⟨a9, n9, c9, rfl⟩ := src_form o9.src
  have O9 : Hid (Own W9 (w.heap.size + 1) (.slice a9 n9 c9) ([0, 0, 0, 0] ++ [(F : Int)] ++ be 8 m.rt ++ be 4 m.co ++ be 8 m.br)) := o9
  clear o9 g9
  clear hHeld
  refine hK.out _ _ ⟨Q9.out.pv.c9, Q9.out.pv.c10⟩ (fun hHeld => ?_)
  clear hK K
  try simp only [Act.put, List.setIfInBounds_toArray, List.set_cons_zero, List.set_cons_succ]
  refine wpAnyH_ready (rs := [12]) (by kernel_rfl) (by simp) ?_
  refine AllReadyH.cons (o := { dst := some 4, op := Op.assign (Operand.tmp 70), type := 33, pos := "ref.go:84", after := #[{ on := 11, ground := Ground.data }, { on := 11, ground := Ground.chain }, { on := 0, ground := Ground.phase }, { on := 1, ground := Ground.phase }, { on := 2, ground := Ground.phase }, { on := 3, ground := Ground.phase }, { on := 4, ground := Ground.phase }, { on := 5, ground := Ground.phase }, { on := 6, ground := Ground.phase }, { on := 7, ground := Ground.phase }, { on := 8, ground := Ground.phase }, { on := 9, ground := Ground.phase }, { on := 10, ground := Ground.phase }, { on := 11, ground := Ground.phase }], guard := none }) rfl (fun K hK => ?_) AllReadyH.nil
  go_simp
  clear hHeld
  refine hK.out _ _ ⟨Q9.out.pv.c9, Q9.out.pv.c10⟩ (fun hHeld => ?_)
  clear hK K
  try simp only [Act.put, List.setIfInBounds_toArray, List.set_cons_zero, List.set_cons_succ]
  refine wpAnyH_done (by kernel_rfl) ?_ _
  refine NoPanic.normal ?_
  clear hHeld
  clear Q5 O5 Q6 O6 S6 Q7 O7 Q8 O8 S8
  go_wp2_with fail
  have QA : Hid (QSt w W9.drew m) := ⟨Q9.out.pv, Q9.out.below.drew⟩
  have OA : Hid (Own W9.drew (w.heap.size + 1) (.slice a9 n9 c9) ([0, 0, 0, 0] ++ [(F : Int)] ++ be 8 m.rt ++ be 4 m.co ++ be 8 m.br)) := O9.out.of_block (fun _ _ => rfl)
  obtain ⟨XA, hXA⟩ : ∃ X, W9.drew = X := ⟨_, rfl⟩
  rw [hXA] at QA OA
  clear Q9 O9
  refine wp_region_noPanic ?_
  refine wp_region_held_drew (S := fun w' => w'.cell? ⟨w.heap.size, 11, none⟩ = some (.int .u16 m.po) ∧ w'.cell? ⟨w.heap.size, 12, none⟩ = some (.int .u8 m.a) ∧ w'.cell? ⟨w.heap.size, 13, none⟩ = some (.int .u8 m.x) ∧ w'.cell? ⟨w.heap.size, 14, none⟩ = some (.int .u8 m.h) ∧ w'.cell? ⟨w.heap.size, 15, none⟩ = some (.int .u8 m.d)) (by kernel_rfl) (by rw [hXA]; exact ⟨QA.out.pv.c11, QA.out.pv.c12, QA.out.pv.c13, QA.out.pv.c14, QA.out.pv.c15⟩) (fun hHeld => ?_)
  rw [hXA] at hHeld ⊢
  clear hXA
  refine wpAnyH_take (i := 0) (oi := { dst := some 71, op := Op.move (Operand.tmp 4), type := 33, pos := "ref.go:85", after := #[], guard := none }) (v := ?_) rfl (by kernel_rfl) (by kernel_rfl) (by kernel_rfl) (fun _ _ _ h => h) (Or.inl ⟨by rfl, ?_⟩) hHeld ?_
  rotate_left
  · intro W hSw
    obtain ⟨l1, l2, l3, l4, l5⟩ := hSw
    first | (go_simp; done) | (go_simp; with_reducible rfl)
  rotate_left
  try simp only [Act.put, List.setIfInBounds_toArray, List.set_cons_zero, List.set_cons_succ]
  refine wpAnyH_take (i := 1) (oi := { dst := some 72, op := Op.fieldAddr 32 (Operand.tmp 1) 8, type := 0, pos := "ref.go:85", after := #[], guard := none }) (v := ?_) rfl (by kernel_rfl) (by kernel_rfl) (by kernel_rfl) (fun _ _ _ h => h) (Or.inl ⟨by rfl, ?_⟩) hHeld ?_
  rotate_left
  · intro W hSw
    obtain ⟨l1, l2, l3, l4, l5⟩ := hSw
    first | (go_simp; done) | (go_simp; with_reducible rfl)
  rotate_left
  try simp only [Act.put, List.setIfInBounds_toArray, List.set_cons_zero, List.set_cons_succ]
  refine wpAnyH_take (i := 2) (oi := { dst := some 73, op := Op.fieldAddr 28 (Operand.tmp 72) 3, type := 0, pos := "ref.go:85", after := #[{ on := 1, ground := Ground.data }], guard := none }) (v := ?_) rfl (by kernel_rfl) (by kernel_rfl) (by kernel_rfl) (fun _ _ _ h => h) (Or.inl ⟨by rfl, ?_⟩) hHeld ?_
  rotate_left
  · intro W hSw
    obtain ⟨l1, l2, l3, l4, l5⟩ := hSw
    first | (go_simp; done) | (go_simp; with_reducible rfl)
  rotate_left
  try simp only [Act.put, List.setIfInBounds_toArray, List.set_cons_zero, List.set_cons_succ]
  refine wpAnyH_take (i := 3) (oi := { dst := some 74, op := Op.load 26 (Operand.tmp 73), type := 26, pos := "ref.go:85", after := #[{ on := 2, ground := Ground.data }], guard := none }) (v := ?_) rfl (by kernel_rfl) (by kernel_rfl) (by kernel_rfl) (fun _ _ _ h => h) (Or.inl ⟨by rfl, ?_⟩) hHeld ?_
  rotate_left
  · intro W hSw
    obtain ⟨l1, l2, l3, l4, l5⟩ := hSw
    first | (go_simp; done) | (go_simp; with_reducible rfl)
  rotate_left
  try simp only [Act.put, List.setIfInBounds_toArray, List.set_cons_zero, List.set_cons_succ]
  refine wpAnyH_take (i := 4) (oi := { dst := some 75, op := Op.convert 26 24 (Operand.tmp 74), type := 24, pos := "ref.go:85", after := #[{ on := 3, ground := Ground.data }], guard := none }) (v := ?_) rfl (by kernel_rfl) (by kernel_rfl) (by kernel_rfl) (fun _ _ _ h => h) (Or.inl ⟨by rfl, ?_⟩) hHeld ?_
  rotate_left
  · intro W hSw
    obtain ⟨l1, l2, l3, l4, l5⟩ := hSw
    first | (go_simp; done) | (go_simp; with_reducible rfl)
  rotate_left
  try simp only [Act.put, List.setIfInBounds_toArray, List.set_cons_zero, List.set_cons_succ]
  refine wpAnyH_take (i := 7) (oi := { dst := some 78, op := Op.fieldAddr 32 (Operand.tmp 1) 9, type := 0, pos := "ref.go:85", after := #[], guard := none }) (v := ?_) rfl (by kernel_rfl) (by kernel_rfl) (by kernel_rfl) (fun _ _ _ h => h) (Or.inl ⟨by rfl, ?_⟩) hHeld ?_
  rotate_left
  · intro W hSw
    obtain ⟨l1, l2, l3, l4, l5⟩ := hSw
    first | (go_simp; done) | (go_simp; with_reducible rfl)
  rotate_left
  try simp only [Act.put, List.setIfInBounds_toArray, List.set_cons_zero, List.set_cons_succ]
  refine wpAnyH_take (i := 8) (oi := { dst := some 79, op := Op.fieldAddr 30 (Operand.tmp 78) 0, type := 0, pos := "ref.go:85", after := #[{ on := 7, ground := Ground.data }], guard := none }) (v := ?_) rfl (by kernel_rfl) (by kernel_rfl) (by kernel_rfl) (fun _ _ _ h => h) (Or.inl ⟨by rfl, ?_⟩) hHeld ?_
  rotate_left
  · intro W hSw
    obtain ⟨l1, l2, l3, l4, l5⟩ := hSw
    first | (go_simp; done) | (go_simp; with_reducible rfl)
  rotate_left
  try simp only [Act.put, List.setIfInBounds_toArray, List.set_cons_zero, List.set_cons_succ]
  refine wpAnyH_take (i := 9) (oi := { dst := some 80, op := Op.load 5 (Operand.tmp 79), type := 5, pos := "ref.go:85", after := #[{ on := 8, ground := Ground.data }], guard := none }) (v := ?_) rfl (by kernel_rfl) (by kernel_rfl) (by kernel_rfl) (fun _ _ _ h => h) (Or.inl ⟨by rfl, ?_⟩) hHeld ?_
  rotate_left
  · intro W hSw
    obtain ⟨l1, l2, l3, l4, l5⟩ := hSw
    first | (go_simp; done) | (go_simp; with_reducible rfl)
  rotate_left
  try simp only [Act.put, List.setIfInBounds_toArray, List.set_cons_zero, List.set_cons_succ]
  refine wpAnyH_take (i := 10) (oi := { dst := some 81, op := Op.fieldAddr 32 (Operand.tmp 1) 9, type := 0, pos := "ref.go:85", after := #[], guard := none }) (v := ?_) rfl (by kernel_rfl) (by kernel_rfl) (by kernel_rfl) (fun _ _ _ h => h) (Or.inl ⟨by rfl, ?_⟩) hHeld ?_
  rotate_left
  · intro W hSw
    obtain ⟨l1, l2, l3, l4, l5⟩ := hSw
    first | (go_simp; done) | (go_simp; with_reducible rfl)
  rotate_left
  try simp only [Act.put, List.setIfInBounds_toArray, List.set_cons_zero, List.set_cons_succ]
  refine wpAnyH_take (i := 11) (oi := { dst := some 82, op := Op.fieldAddr 30 (Operand.tmp 81) 1, type := 0, pos := "ref.go:85", after := #[{ on := 10, ground := Ground.data }], guard := none }) (v := ?_) rfl (by kernel_rfl) (by kernel_rfl) (by kernel_rfl) (fun _ _ _ h => h) (Or.inl ⟨by rfl, ?_⟩) hHeld ?_
  rotate_left
  · intro W hSw
    obtain ⟨l1, l2, l3, l4, l5⟩ := hSw
    first | (go_simp; done) | (go_simp; with_reducible rfl)
  rotate_left
  try simp only [Act.put, List.setIfInBounds_toArray, List.set_cons_zero, List.set_cons_succ]
  refine wpAnyH_take (i := 12) (oi := { dst := some 83, op := Op.load 5 (Operand.tmp 82), type := 5, pos := "ref.go:85", after := #[{ on := 11, ground := Ground.data }], guard := none }) (v := ?_) rfl (by kernel_rfl) (by kernel_rfl) (by kernel_rfl) (fun _ _ _ h => h) (Or.inl ⟨by rfl, ?_⟩) hHeld ?_
  rotate_left
  · intro W hSw
    obtain ⟨l1, l2, l3, l4, l5⟩ := hSw
    first | (go_simp; done) | (go_simp; with_reducible rfl)
  rotate_left
  try simp only [Act.put, List.setIfInBounds_toArray, List.set_cons_zero, List.set_cons_succ]
  refine wpAnyH_take (i := 13) (oi := { dst := some 84, op := Op.fieldAddr 32 (Operand.tmp 1) 9, type := 0, pos := "ref.go:85", after := #[], guard := none }) (v := ?_) rfl (by kernel_rfl) (by kernel_rfl) (by kernel_rfl) (fun _ _ _ h => h) (Or.inl ⟨by rfl, ?_⟩) hHeld ?_
  rotate_left
  · intro W hSw
    obtain ⟨l1, l2, l3, l4, l5⟩ := hSw
    first | (go_simp; done) | (go_simp; with_reducible rfl)
  rotate_left
  try simp only [Act.put, List.setIfInBounds_toArray, List.set_cons_zero, List.set_cons_succ]
  refine wpAnyH_take (i := 14) (oi := { dst := some 85, op := Op.fieldAddr 30 (Operand.tmp 84) 2, type := 0, pos := "ref.go:85", after := #[{ on := 13, ground := Ground.data }], guard := none }) (v := ?_) rfl (by kernel_rfl) (by kernel_rfl) (by kernel_rfl) (fun _ _ _ h => h) (Or.inl ⟨by rfl, ?_⟩) hHeld ?_
  rotate_left
  · intro W hSw
    obtain ⟨l1, l2, l3, l4, l5⟩ := hSw
    first | (go_simp; done) | (go_simp; with_reducible rfl)
  rotate_left
  try simp only [Act.put, List.setIfInBounds_toArray, List.set_cons_zero, List.set_cons_succ]
  refine wpAnyH_take (i := 15) (oi := { dst := some 86, op := Op.load 5 (Operand.tmp 85), type := 5, pos := "ref.go:85", after := #[{ on := 14, ground := Ground.data }], guard := none }) (v := ?_) rfl (by kernel_rfl) (by kernel_rfl) (by kernel_rfl) (fun _ _ _ h => h) (Or.inl ⟨by rfl, ?_⟩) hHeld ?_
  rotate_left
  · intro W hSw
    obtain ⟨l1, l2, l3, l4, l5⟩ := hSw
    first | (go_simp; done) | (go_simp; with_reducible rfl)
  rotate_left
  try simp only [Act.put, List.setIfInBounds_toArray, List.set_cons_zero, List.set_cons_succ]
  refine wpAnyH_take (i := 16) (oi := { dst := some 87, op := Op.fieldAddr 32 (Operand.tmp 1) 9, type := 0, pos := "ref.go:85", after := #[], guard := none }) (v := ?_) rfl (by kernel_rfl) (by kernel_rfl) (by kernel_rfl) (fun _ _ _ h => h) (Or.inl ⟨by rfl, ?_⟩) hHeld ?_
  rotate_left
  · intro W hSw
    obtain ⟨l1, l2, l3, l4, l5⟩ := hSw
    first | (go_simp; done) | (go_simp; with_reducible rfl)
  rotate_left
  try simp only [Act.put, List.setIfInBounds_toArray, List.set_cons_zero, List.set_cons_succ]
  refine wpAnyH_take (i := 17) (oi := { dst := some 88, op := Op.fieldAddr 30 (Operand.tmp 87) 3, type := 0, pos := "ref.go:85", after := #[{ on := 16, ground := Ground.data }], guard := none }) (v := ?_) rfl (by kernel_rfl) (by kernel_rfl) (by kernel_rfl) (fun _ _ _ h => h) (Or.inl ⟨by rfl, ?_⟩) hHeld ?_
  rotate_left
  · intro W hSw
    obtain ⟨l1, l2, l3, l4, l5⟩ := hSw
    first | (go_simp; done) | (go_simp; with_reducible rfl)
  rotate_left
  try simp only [Act.put, List.setIfInBounds_toArray, List.set_cons_zero, List.set_cons_succ]
  refine wpAnyH_take (i := 18) (oi := { dst := some 89, op := Op.load 5 (Operand.tmp 88), type := 5, pos := "ref.go:85", after := #[{ on := 17, ground := Ground.data }], guard := none }) (v := ?_) rfl (by kernel_rfl) (by kernel_rfl) (by kernel_rfl) (fun _ _ _ h => h) (Or.inl ⟨by rfl, ?_⟩) hHeld ?_
  rotate_left
  · intro W hSw
    obtain ⟨l1, l2, l3, l4, l5⟩ := hSw
    first | (go_simp; done) | (go_simp; with_reducible rfl)
  rotate_left
  try simp only [Act.put, List.setIfInBounds_toArray, List.set_cons_zero, List.set_cons_succ]
  refine wpAnyH_ready (rs := [5, 19]) (by kernel_rfl) (by simp) ?_
  refine AllReadyH.cons (o := { dst := some 76, op := Op.call { callee := Callee.value (Operand.func 26), args := #[Operand.tmp 75, Operand.const (Value.int IntKind.i64 2)], argTypes := #[24, 3] }, type := 33, pos := "ref.go:85", after := #[{ on := 4, ground := Ground.data }], guard := none }) rfl (fun K hK => ?_) ?_
  · go_simp
    refine (put_ref m.po 2 _ (by omega) (by have := HM.out.1.po; omega)).mono ?_
    rintro _ WB ⟨xB, rfl, oB, bB⟩
    have QB : Hid (QSt w WB m) := QA.out.later bB
    have OB : Hid (Own WB (w.heap.size + 1) (.slice a9 n9 c9) ([0, 0, 0, 0] ++ [(F : Int)] ++ be 8 m.rt ++ be 4 m.co ++ be 8 m.br)) := OA.out.below bB
    have SB : Hid (Src WB xB (be 2 m.po)) := oB.src
    clear oB bB
    clear hHeld
    refine hK.out _ _ ⟨QB.out.pv.c11, QB.out.pv.c12, QB.out.pv.c13, QB.out.pv.c14, QB.out.pv.c15⟩ (fun hHeld => ?_)
    clear hK K
    try simp only [Act.put, List.setIfInBounds_toArray, List.set_cons_zero, List.set_cons_succ]
    refine wpAnyH_ready (rs := [6, 19]) (by kernel_rfl) (by simp) ?_
    refine AllReadyH.cons (o := { dst := some 77, op := Op.call { callee := Callee.builtin Builtin.append, args := #[Operand.tmp 71, Operand.tmp 76], argTypes := #[33, 33] }, type := 33, pos := "ref.go:85", after := #[{ on := 0, ground := Ground.data }, { on := 5, ground := Ground.data }, { on := 5, ground := Ground.chain }], guard := none }) rfl (fun K hK => ?_) ?_
    · refine step_app (by rfl) _ _ (by rfl) (by rfl) (by rfl) OB.out SB.out (by simp [be_len]) QB.out.sz ?_
      intro vC WC oC gC _
      have QC : Hid (QSt w WC m) := QB.out.own (grown_below OB.out gC QB.out.sz)
      obtain ⟨aC, nC, cC, rfl⟩ := src_form oC.src
      have OC : Hid (Own WC (w.heap.size + 1) (.slice aC nC cC) ([0, 0, 0, 0] ++ [(F : Int)] ++ be 8 m.rt ++ be 4 m.co ++ be 8 m.br ++ be 2 m.po)) := oC
      clear oC gC
      clear hHeld
      refine hK.out _ _ ⟨QC.out.pv.c11, QC.out.pv.c12, QC.out.pv.c13, QC.out.pv.c14, QC.out.pv.c15⟩ (fun hHeld => ?_)
      clear hK K
      try simp only [Act.put, List.setIfInBounds_toArray, List.set_cons_zero, List.set_cons_succ]
      refine wpAnyH_ready (rs := [19]) (by kernel_rfl) (by simp) ?_
      refine AllReadyH.cons (o := { dst := some 90, op := Op.buildSlice 33 8 #[(0, Operand.tmp 80), (1, Operand.const (Value.int IntKind.u8 0)), (2, Operand.tmp 83), (3, Operand.const (Value.int IntKind.u8 0)), (4, Operand.tmp 86), (5, Operand.const (Value.int IntKind.u8 0)), (6, Operand.tmp 89), (7, Operand.const (Value.int IntKind.u8 0))], type := 33, pos := "ref.go:85", after := #[{ on := 9, ground := Ground.data }, { on := 12, ground := Ground.data }, { on := 15, ground := Ground.data }, { on := 18, ground := Ground.data }], guard := none }) rfl (fun K hK => ?_) AllReadyH.nil
      go_simp
      have QD : Hid (QSt w (WC.alloc (.cells #[.int .u8 (m.a : Int), .int .u8 0, .int .u8 (m.x : Int), .int .u8 0, .int .u8 (m.h : Int), .int .u8 0, .int .u8 (m.d : Int), .int .u8 0] 5)) m) := QC.out.alloc _
      have OD : Hid (Own (WC.alloc (.cells #[.int .u8 (m.a : Int), .int .u8 0, .int .u8 (m.x : Int), .int .u8 0, .int .u8 (m.h : Int), .int .u8 0, .int .u8 (m.d : Int), .int .u8 0] 5)) (w.heap.size + 1) (.slice aC nC cC) ([0, 0, 0, 0] ++ [(F : Int)] ++ be 8 m.rt ++ be 4 m.co ++ be 8 m.br ++ be 2 m.po)) := own_alloc OC.out _
      have BD : Hid (Src (WC.alloc (.cells #[.int .u8 (m.a : Int), .int .u8 0, .int .u8 (m.x : Int), .int .u8 0, .int .u8 (m.h : Int), .int .u8 0, .int .u8 (m.d : Int), .int .u8 0] 5)) (.slice (some ⟨WC.heap.size, 0, none⟩) 8 8) [(m.a : Int), 0, (m.x : Int), 0, (m.h : Int), 0, (m.d : Int), 0] ∧ (WC.alloc (.cells #[.int .u8 (m.a : Int), .int .u8 0, .int .u8 (m.x : Int), .int .u8 0, .int .u8 (m.h : Int), .int .u8 0, .int .u8 (m.d : Int), .int .u8 0] 5)).heap[WC.heap.size]? = some (.cells #[.int .u8 (m.a : Int), .int .u8 0, .int .u8 (m.x : Int), .int .u8 0, .int .u8 (m.h : Int), .int .u8 0, .int .u8 (m.d : Int), .int .u8 0] 5 (0, 0))) := ⟨(own_new WC [(m.a : Int), 0, (m.x : Int), 0, (m.h : Int), 0, (m.d : Int), 0] _ _ _ rfl rfl (Nat.le_refl _) (by simp)).src, alloc_at WC _⟩
      have ND : Hid (∀ i, ((.slice aC nC cC) : Value).ownBlock = some i → i ≠ WC.heap.size) := fun i hi => by have := (OC.out.block i hi).2; omega
      clear hHeld
      refine hK.out _ _ ⟨QD.out.pv.c11, QD.out.pv.c12, QD.out.pv.c13, QD.out.pv.c14, QD.out.pv.c15⟩ (fun hHeld => ?_)
      clear hK K
      try simp only [Act.put, List.setIfInBounds_toArray, List.set_cons_zero, List.set_cons_succ]
      refine wpAnyH_ready (rs := [20]) (by kernel_rfl) (by simp) ?_
      refine AllReadyH.cons (o := { dst := some 91, op := Op.call { callee := Callee.builtin Builtin.append, args := #[Operand.tmp 77, Operand.tmp 90], argTypes := #[33, 33] }, type := 33, pos := "ref.go:85", after := #[{ on := 6, ground := Ground.data }, { on := 19, ground := Ground.data }, { on := 6, ground := Ground.chain }], guard := none }) rfl (fun K hK => ?_) AllReadyH.nil
      refine step_app (by rfl) _ _ (by rfl) (by rfl) (by rfl) OD.out BD.out.1 (by simp [be_len]) QD.out.sz ?_
      intro vE WE oE gE _
      have QE : Hid (QSt w WE m) := QD.out.own (grown_below OD.out gE QD.out.sz)
      obtain ⟨aE, nE, cE, rfl⟩ := src_form oE.src
      have OE : Hid (Own WE (w.heap.size + 1) (.slice aE nE cE) ([0, 0, 0, 0] ++ [(F : Int)] ++ be 8 m.rt ++ be 4 m.co ++ be 8 m.br ++ be 2 m.po ++ [(m.a : Int), 0, (m.x : Int), 0, (m.h : Int), 0, (m.d : Int), 0])) := oE
      clear oE gE
      clear hHeld
      refine hK.out _ _ ⟨QE.out.pv.c11, QE.out.pv.c12, QE.out.pv.c13, QE.out.pv.c14, QE.out.pv.c15⟩ (fun hHeld => ?_)
      clear hK K
      try simp only [Act.put, List.setIfInBounds_toArray, List.set_cons_zero, List.set_cons_succ]
      refine wpAnyH_ready (rs := [21]) (by kernel_rfl) (by simp) ?_
      refine AllReadyH.cons (o := { dst := some 4, op := Op.assign (Operand.tmp 91), type := 33, pos := "ref.go:85", after := #[{ on := 20, ground := Ground.data }, { on := 20, ground := Ground.chain }, { on := 0, ground := Ground.phase }, { on := 1, ground := Ground.phase }, { on := 2, ground := Ground.phase }, { on := 3, ground := Ground.phase }, { on := 4, ground := Ground.phase }, { on := 5, ground := Ground.phase }, { on := 6, ground := Ground.phase }, { on := 7, ground := Ground.phase }, { on := 8, ground := Ground.phase }, { on := 9, ground := Ground.phase }, { on := 10, ground := Ground.phase }, { on := 11, ground := Ground.phase }, { on := 12, ground := Ground.phase }, { on := 13, ground := Ground.phase }, { on := 14, ground := Ground.phase }, { on := 15, ground := Ground.phase }, { on := 16, ground := Ground.phase }, { on := 17, ground := Ground.phase }, { on := 18, ground := Ground.phase }, { on := 19, ground := Ground.phase }, { on := 20, ground := Ground.phase }], guard := none }) rfl (fun K hK => ?_) AllReadyH.nil
      go_simp
      clear hHeld
      refine hK.out _ _ ⟨QE.out.pv.c11, QE.out.pv.c12, QE.out.pv.c13, QE.out.pv.c14, QE.out.pv.c15⟩ (fun hHeld => ?_)
      clear hK K
      try simp only [Act.put, List.setIfInBounds_toArray, List.set_cons_zero, List.set_cons_succ]
      refine wpAnyH_done (by kernel_rfl) ?_ _
      refine NoPanic.normal ?_
      clear hHeld
      have kz := QE.out.pv.c0
      rw [HM.out.2.2] at kz
      go_wp2
      go_ret2
      exact ⟨_, rfl, by rw [← HE.out]; exact OE.out.base (by omega), QE.out.below⟩
    refine AllReadyH.cons (o := { dst := some 90, op := Op.buildSlice 33 8 #[(0, Operand.tmp 80), (1, Operand.const (Value.int IntKind.u8 0)), (2, Operand.tmp 83), (3, Operand.const (Value.int IntKind.u8 0)), (4, Operand.tmp 86), (5, Operand.const (Value.int IntKind.u8 0)), (6, Operand.tmp 89), (7, Operand.const (Value.int IntKind.u8 0))], type := 33, pos := "ref.go:85", after := #[{ on := 9, ground := Ground.data }, { on := 12, ground := Ground.data }, { on := 15, ground := Ground.data }, { on := 18, ground := Ground.data }], guard := none }) rfl (fun K hK => ?_) AllReadyH.nil
    go_simp
    have QC : Hid (QSt w (WB.alloc (.cells #[.int .u8 (m.a : Int), .int .u8 0, .int .u8 (m.x : Int), .int .u8 0, .int .u8 (m.h : Int), .int .u8 0, .int .u8 (m.d : Int), .int .u8 0] 5)) m) := QB.out.alloc _
    have OC : Hid (Own (WB.alloc (.cells #[.int .u8 (m.a : Int), .int .u8 0, .int .u8 (m.x : Int), .int .u8 0, .int .u8 (m.h : Int), .int .u8 0, .int .u8 (m.d : Int), .int .u8 0] 5)) (w.heap.size + 1) (.slice a9 n9 c9) ([0, 0, 0, 0] ++ [(F : Int)] ++ be 8 m.rt ++ be 4 m.co ++ be 8 m.br)) := own_alloc OB.out _
    have BC : Hid (Src (WB.alloc (.cells #[.int .u8 (m.a : Int), .int .u8 0, .int .u8 (m.x : Int), .int .u8 0, .int .u8 (m.h : Int), .int .u8 0, .int .u8 (m.d : Int), .int .u8 0] 5)) (.slice (some ⟨WB.heap.size, 0, none⟩) 8 8) [(m.a : Int), 0, (m.x : Int), 0, (m.h : Int), 0, (m.d : Int), 0] ∧ (WB.alloc (.cells #[.int .u8 (m.a : Int), .int .u8 0, .int .u8 (m.x : Int), .int .u8 0, .int .u8 (m.h : Int), .int .u8 0, .int .u8 (m.d : Int), .int .u8 0] 5)).heap[WB.heap.size]? = some (.cells #[.int .u8 (m.a : Int), .int .u8 0, .int .u8 (m.x : Int), .int .u8 0, .int .u8 (m.h : Int), .int .u8 0, .int .u8 (m.d : Int), .int .u8 0] 5 (0, 0))) := ⟨(own_new WB [(m.a : Int), 0, (m.x : Int), 0, (m.h : Int), 0, (m.d : Int), 0] _ _ _ rfl rfl (Nat.le_refl _) (by simp)).src, alloc_at WB _⟩
    have NC : Hid (∀ i, ((.slice a9 n9 c9) : Value).ownBlock = some i → i ≠ WB.heap.size) := fun i hi => by have := (OB.out.block i hi).2; omega
    have SC : Hid (Src (WB.alloc (.cells #[.int .u8 (m.a : Int), .int .u8 0, .int .u8 (m.x : Int), .int .u8 0, .int .u8 (m.h : Int), .int .u8 0, .int .u8 (m.d : Int), .int .u8 0] 5)) xB (be 2 m.po)) := src_alloc SB.out _
    clear hHeld
    refine hK.out _ _ ⟨QC.out.pv.c11, QC.out.pv.c12, QC.out.pv.c13, QC.out.pv.c14, QC.out.pv.c15⟩ (fun hHeld => ?_)
    clear hK K
    try simp only [Act.put, List.setIfInBounds_toArray, List.set_cons_zero, List.set_cons_succ]
    refine wpAnyH_ready (rs := [6]) (by kernel_rfl) (by simp) ?_
    refine AllReadyH.cons (o := { dst := some 77, op := Op.call { callee := Callee.builtin Builtin.append, args := #[Operand.tmp 71, Operand.tmp 76], argTypes := #[33, 33] }, type := 33, pos := "ref.go:85", after := #[{ on := 0, ground := Ground.data }, { on := 5, ground := Ground.data }, { on := 5, ground := Ground.chain }], guard := none }) rfl (fun K hK => ?_) AllReadyH.nil
    refine step_app (by rfl) _ _ (by rfl) (by rfl) (by rfl) OC.out SC.out (by simp [be_len]) QC.out.sz ?_
    intro vD WD oD gD _
    have QD : Hid (QSt w WD m) := QC.out.own (grown_below OC.out gD QC.out.sz)
    obtain ⟨aD, nD, cD, rfl⟩ := src_form oD.src
    have OD : Hid (Own WD (w.heap.size + 1) (.slice aD nD cD) ([0, 0, 0, 0] ++ [(F : Int)] ++ be 8 m.rt ++ be 4 m.co ++ be 8 m.br ++ be 2 m.po)) := oD
    have BD : Hid (Src WD (.slice (some ⟨WB.heap.size, 0, none⟩) 8 8) [(m.a : Int), 0, (m.x : Int), 0, (m.h : Int), 0, (m.d : Int), 0]) := src_grown BC.out.2 BC.out.1 OC.out gD NC.out
    clear oD gD
    clear hHeld
    refine hK.out _ _ ⟨QD.out.pv.c11, QD.out.pv.c12, QD.out.pv.c13, QD.out.pv.c14, QD.out.pv.c15⟩ (fun hHeld => ?_)
    clear hK K
    try simp only [Act.put, List.setIfInBounds_toArray, List.set_cons_zero, List.set_cons_succ]
    refine wpAnyH_ready (rs := [20]) (by kernel_rfl) (by simp) ?_
    refine AllReadyH.cons (o := { dst := some 91, op := Op.call { callee := Callee.builtin Builtin.append, args := #[Operand.tmp 77, Operand.tmp 90], argTypes := #[33, 33] }, type := 33, pos := "ref.go:85", after := #[{ on := 6, ground := Ground.data }, { on := 19, ground := Ground.data }, { on := 6, ground := Ground.chain }], guard := none }) rfl (fun K hK => ?_) AllReadyH.nil
    refine step_app (by rfl) _ _ (by rfl) (by rfl) (by rfl) OD.out BD.out (by simp [be_len]) QD.out.sz ?_
    intro vE WE oE gE _
    have QE : Hid (QSt w WE m) := QD.out.own (grown_below OD.out gE QD.out.sz)
    obtain ⟨aE, nE, cE, rfl⟩ := src_form oE.src
    have OE : Hid (Own WE (w.heap.size + 1) (.slice aE nE cE) ([0, 0, 0, 0] ++ [(F : Int)] ++ be 8 m.rt ++ be 4 m.co ++ be 8 m.br ++ be 2 m.po ++ [(m.a : Int), 0, (m.x : Int), 0, (m.h : Int), 0, (m.d : Int), 0])) := oE
    clear oE gE
    clear hHeld
    refine hK.out _ _ ⟨QE.out.pv.c11, QE.out.pv.c12, QE.out.pv.c13, QE.out.pv.c14, QE.out.pv.c15⟩ (fun hHeld => ?_)
    clear hK K
    try simp only [Act.put, List.setIfInBounds_toArray, List.set_cons_zero, List.set_cons_succ]
    refine wpAnyH_ready (rs := [21]) (by kernel_rfl) (by simp) ?_
    refine AllReadyH.cons (o := { dst := some 4, op := Op.assign (Operand.tmp 91), type := 33, pos := "ref.go:85", after := #[{ on := 20, ground := Ground.data }, { on := 20, ground := Ground.chain }, { on := 0, ground := Ground.phase }, { on := 1, ground := Ground.phase }, { on := 2, ground := Ground.phase }, { on := 3, ground := Ground.phase }, { on := 4, ground := Ground.phase }, { on := 5, ground := Ground.phase }, { on := 6, ground := Ground.phase }, { on := 7, ground := Ground.phase }, { on := 8, ground := Ground.phase }, { on := 9, ground := Ground.phase }, { on := 10, ground := Ground.phase }, { on := 11, ground := Ground.phase }, { on := 12, ground := Ground.phase }, { on := 13, ground := Ground.phase }, { on := 14, ground := Ground.phase }, { on := 15, ground := Ground.phase }, { on := 16, ground := Ground.phase }, { on := 17, ground := Ground.phase }, { on := 18, ground := Ground.phase }, { on := 19, ground := Ground.phase }, { on := 20, ground := Ground.phase }], guard := none }) rfl (fun K hK => ?_) AllReadyH.nil
    go_simp
    clear hHeld
    refine hK.out _ _ ⟨QE.out.pv.c11, QE.out.pv.c12, QE.out.pv.c13, QE.out.pv.c14, QE.out.pv.c15⟩ (fun hHeld => ?_)
    clear hK K
    try simp only [Act.put, List.setIfInBounds_toArray, List.set_cons_zero, List.set_cons_succ]
    refine wpAnyH_done (by kernel_rfl) ?_ _
    refine NoPanic.normal ?_
    clear hHeld
    have kz := QE.out.pv.c0
    rw [HM.out.2.2] at kz
    go_wp2
    go_ret2
    exact ⟨_, rfl, by rw [← HE.out]; exact OE.out.base (by omega), QE.out.below⟩
  refine AllReadyH.cons (o := { dst := some 90, op := Op.buildSlice 33 8 #[(0, Operand.tmp 80), (1, Operand.const (Value.int IntKind.u8 0)), (2, Operand.tmp 83), (3, Operand.const (Value.int IntKind.u8 0)), (4, Operand.tmp 86), (5, Operand.const (Value.int IntKind.u8 0)), (6, Operand.tmp 89), (7, Operand.const (Value.int IntKind.u8 0))], type := 33, pos := "ref.go:85", after := #[{ on := 9, ground := Ground.data }, { on := 12, ground := Ground.data }, { on := 15, ground := Ground.data }, { on := 18, ground := Ground.data }], guard := none }) rfl (fun K hK => ?_) AllReadyH.nil
  go_simp
  have QB : Hid (QSt w (XA.alloc (.cells #[.int .u8 (m.a : Int), .int .u8 0, .int .u8 (m.x : Int), .int .u8 0, .int .u8 (m.h : Int), .int .u8 0, .int .u8 (m.d : Int), .int .u8 0] 5)) m) := QA.out.alloc _
  have OB : Hid (Own (XA.alloc (.cells #[.int .u8 (m.a : Int), .int .u8 0, .int .u8 (m.x : Int), .int .u8 0, .int .u8 (m.h : Int), .int .u8 0, .int .u8 (m.d : Int), .int .u8 0] 5)) (w.heap.size + 1) (.slice a9 n9 c9) ([0, 0, 0, 0] ++ [(F : Int)] ++ be 8 m.rt ++ be 4 m.co ++ be 8 m.br)) := own_alloc OA.out _
  have BB : Hid (Src (XA.alloc (.cells #[.int .u8 (m.a : Int), .int .u8 0, .int .u8 (m.x : Int), .int .u8 0, .int .u8 (m.h : Int), .int .u8 0, .int .u8 (m.d : Int), .int .u8 0] 5)) (.slice (some ⟨XA.heap.size, 0, none⟩) 8 8) [(m.a : Int), 0, (m.x : Int), 0, (m.h : Int), 0, (m.d : Int), 0] ∧ (XA.alloc (.cells #[.int .u8 (m.a : Int), .int .u8 0, .int .u8 (m.x : Int), .int .u8 0, .int .u8 (m.h : Int), .int .u8 0, .int .u8 (m.d : Int), .int .u8 0] 5)).heap[XA.heap.size]? = some (.cells #[.int .u8 (m.a : Int), .int .u8 0, .int .u8 (m.x : Int), .int .u8 0, .int .u8 (m.h : Int), .int .u8 0, .int .u8 (m.d : Int), .int .u8 0] 5 (0, 0))) := ⟨(own_new XA [(m.a : Int), 0, (m.x : Int), 0, (m.h : Int), 0, (m.d : Int), 0] _ _ _ rfl rfl (Nat.le_refl _) (by simp)).src, alloc_at XA _⟩
  have NB : Hid (∀ i, ((.slice a9 n9 c9) : Value).ownBlock = some i → i ≠ XA.heap.size) := fun i hi => by have := (OA.out.block i hi).2; omega
  clear hHeld
  refine hK.out _ _ ⟨QB.out.pv.c11, QB.out.pv.c12, QB.out.pv.c13, QB.out.pv.c14, QB.out.pv.c15⟩ (fun hHeld => ?_)
  clear hK K
  try simp only [Act.put, List.setIfInBounds_toArray, List.set_cons_zero, List.set_cons_succ]
  refine wpAnyH_ready (rs := [5]) (by kernel_rfl) (by simp) ?_
  refine AllReadyH.cons (o := { dst := some 76, op := Op.call { callee := Callee.value (Operand.func 26), args := #[Operand.tmp 75, Operand.const (Value.int IntKind.i64 2)], argTypes := #[24, 3] }, type := 33, pos := "ref.go:85", after := #[{ on := 4, ground := Ground.data }], guard := none }) rfl (fun K hK => ?_) AllReadyH.nil
  go_simp
  refine (put_ref m.po 2 _ (by omega) (by have := HM.out.1.po; omega)).mono ?_
  rintro _ WC ⟨xC, rfl, oC, bC⟩
  have QC : Hid (QSt w WC m) := QB.out.later bC
  have OC : Hid (Own WC (w.heap.size + 1) (.slice a9 n9 c9) ([0, 0, 0, 0] ++ [(F : Int)] ++ be 8 m.rt ++ be 4 m.co ++ be 8 m.br)) := OB.out.below bC
  have SC : Hid (Src WC xC (be 2 m.po)) := oC.src
  have BC : Hid (Src WC (.slice (some ⟨XA.heap.size, 0, none⟩) 8 8) [(m.a : Int), 0, (m.x : Int), 0, (m.h : Int), 0, (m.d : Int), 0] ∧ WC.heap[XA.heap.size]? = some (.cells #[.int .u8 (m.a : Int), .int .u8 0, .int .u8 (m.x : Int), .int .u8 0, .int .u8 (m.h : Int), .int .u8 0, .int .u8 (m.d : Int), .int .u8 0] 5 (0, 0))) := ⟨BB.out.1.below bC, (bC.block _ (lt_of_block BB.out.2)).trans BB.out.2⟩
  clear oC bC
  clear hHeld
  refine hK.out _ _ ⟨QC.out.pv.c11, QC.out.pv.c12, QC.out.pv.c13, QC.out.pv.c14, QC.out.pv.c15⟩ (fun hHeld => ?_)
  clear hK K
  try simp only [Act.put, List.setIfInBounds_toArray, List.set_cons_zero, List.set_cons_succ]
  refine wpAnyH_ready (rs := [6]) (by kernel_rfl) (by simp) ?_
  refine AllReadyH.cons (o := { dst := some 77, op := Op.call { callee := Callee.builtin Builtin.append, args := #[Operand.tmp 71, Operand.tmp 76], argTypes := #[33, 33] }, type := 33, pos := "ref.go:85", after := #[{ on := 0, ground := Ground.data }, { on := 5, ground := Ground.data }, { on := 5, ground := Ground.chain }], guard := none }) rfl (fun K hK => ?_) AllReadyH.nil
  refine step_app (by rfl) _ _ (by rfl) (by rfl) (by rfl) OC.out SC.out (by simp [be_len]) QC.out.sz ?_
  intro vD WD oD gD _
  have QD : Hid (QSt w WD m) := QC.out.own (grown_below OC.out gD QC.out.sz)
  obtain ⟨aD, nD, cD, rfl⟩ := src_form oD.src
  have OD : Hid (Own WD (w.heap.size + 1) (.slice aD nD cD) ([0, 0, 0, 0] ++ [(F : Int)] ++ be 8 m.rt ++ be 4 m.co ++ be 8 m.br ++ be 2 m.po)) := oD
  have BD : Hid (Src WD (.slice (some ⟨XA.heap.size, 0, none⟩) 8 8) [(m.a : Int), 0, (m.x : Int), 0, (m.h : Int), 0, (m.d : Int), 0]) := src_grown BC.out.2 BC.out.1 OC.out gD NB.out
  clear oD gD
  clear hHeld
  refine hK.out _ _ ⟨QD.out.pv.c11, QD.out.pv.c12, QD.out.pv.c13, QD.out.pv.c14, QD.out.pv.c15⟩ (fun hHeld => ?_)
  clear hK K
  try simp only [Act.put, List.setIfInBounds_toArray, List.set_cons_zero, List.set_cons_succ]
  refine wpAnyH_ready (rs := [20]) (by kernel_rfl) (by simp) ?_
  refine AllReadyH.cons (o := { dst := some 91, op := Op.call { callee := Callee.builtin Builtin.append, args := #[Operand.tmp 77, Operand.tmp 90], argTypes := #[33, 33] }, type := 33, pos := "ref.go:85", after := #[{ on := 6, ground := Ground.data }, { on := 19, ground := Ground.data }, { on := 6, ground := Ground.chain }], guard := none }) rfl (fun K hK => ?_) AllReadyH.nil
  refine step_app (by rfl) _ _ (by rfl) (by rfl) (by rfl) OD.out BD.out (by simp [be_len]) QD.out.sz ?_
  intro vE WE oE gE _
  have QE : Hid (QSt w WE m) := QD.out.own (grown_below OD.out gE QD.out.sz)
  obtain ⟨aE, nE, cE, rfl⟩ := src_form oE.src
  have OE : Hid (Own WE (w.heap.size + 1) (.slice aE nE cE) ([0, 0, 0, 0] ++ [(F : Int)] ++ be 8 m.rt ++ be 4 m.co ++ be 8 m.br ++ be 2 m.po ++ [(m.a : Int), 0, (m.x : Int), 0, (m.h : Int), 0, (m.d : Int), 0])) := oE
  clear oE gE
  clear hHeld
  refine hK.out _ _ ⟨QE.out.pv.c11, QE.out.pv.c12, QE.out.pv.c13, QE.out.pv.c14, QE.out.pv.c15⟩ (fun hHeld => ?_)
  clear hK K
  try simp only [Act.put, List.setIfInBounds_toArray, List.set_cons_zero, List.set_cons_succ]
  refine wpAnyH_ready (rs := [21]) (by kernel_rfl) (by simp) ?_
  refine AllReadyH.cons (o := { dst := some 4, op := Op.assign (Operand.tmp 91), type := 33, pos := "ref.go:85", after := #[{ on := 20, ground := Ground.data }, { on := 20, ground := Ground.chain }, { on := 0, ground := Ground.phase }, { on := 1, ground := Ground.phase }, { on := 2, ground := Ground.phase }, { on := 3, ground := Ground.phase }, { on := 4, ground := Ground.phase }, { on := 5, ground := Ground.phase }, { on := 6, ground := Ground.phase }, { on := 7, ground := Ground.phase }, { on := 8, ground := Ground.phase }, { on := 9, ground := Ground.phase }, { on := 10, ground := Ground.phase }, { on := 11, ground := Ground.phase }, { on := 12, ground := Ground.phase }, { on := 13, ground := Ground.phase }, { on := 14, ground := Ground.phase }, { on := 15, ground := Ground.phase }, { on := 16, ground := Ground.phase }, { on := 17, ground := Ground.phase }, { on := 18, ground := Ground.phase }, { on := 19, ground := Ground.phase }, { on := 20, ground := Ground.phase }], guard := none }) rfl (fun K hK => ?_) AllReadyH.nil
  go_simp
  clear hHeld
  refine hK.out _ _ ⟨QE.out.pv.c11, QE.out.pv.c12, QE.out.pv.c13, QE.out.pv.c14, QE.out.pv.c15⟩ (fun hHeld => ?_)
  clear hK K
  try simp only [Act.put, List.setIfInBounds_toArray, List.set_cons_zero, List.set_cons_succ]
  refine wpAnyH_done (by kernel_rfl) ?_ _
  refine NoPanic.normal ?_
  clear hHeld
  have kz := QE.out.pv.c0
  rw [HM.out.2.2] at kz
  go_wp2
  go_ret2
  exact ⟨_, rfl, by rw [← HE.out]; exact OE.out.base (by omega), QE.out.below⟩

set_option maxHeartbeats 8000000 in
theorem bref_rst (m : Bp) (w : World) (hm : m.wf) (ho : okB m = true) (hk : m.k = 3) :
    Calls Tryd.prog 8 #[.agg m.cs] w fun r w' => ∃ s, r = .returned (.tuple #[s, .int .i64 0]) ∧ Own w' w.heap.size s (mbytes m) ∧ Below w.heap.size w w' := by
  have hB : Below w.heap.size w (w.alloc (.cells m.cs 32)) := (Below.refl _ _).alloc (Nat.le_refl _) _
  have hp := PvAt.new w m
  have ld := hp.ld
  have H : Hid (QSt w (w.alloc (.cells m.cs 32)) m) := ⟨hp, hB⟩
  have HLN : Hid True := trivial
  have HM : Hid (m.wf ∧ okB m = true ∧ m.k = 3) := ⟨hm, ho, hk⟩
  have d1 : 0 ≤ bitI m.tc 1 ∧ bitI m.tc 1 ≤ 1 := by cases m.tc <;> simp [bitI]
  have d2 : 0 ≤ bitI m.ak 128 ∧ bitI m.ak 128 ≤ 128 := by cases m.ak <;> simp [bitI]
  have d3 : 0 ≤ bitI m.pr 2 ∧ bitI m.pr 2 ≤ 2 := by cases m.pr <;> simp [bitI]
  have d4 : 0 ≤ bitI m.le 16 ∧ bitI m.le 16 ≤ 16 := by cases m.le <;> simp [bitI]
  have d5 : 0 ≤ bitI m.fo 32 ∧ bitI m.fo 32 ≤ 32 := by cases m.fo <;> simp [bitI]
  have d6 : 0 ≤ bitI m.ag 64 ∧ bitI m.ag 64 ≤ 64 := by cases m.ag <;> simp [bitI]
  have d7 := roN_lt m.ro
  have EF : Hid (bitI m.tc 1 + bitI m.pr 2 + 4 * (roN m.ro : Nat) + bitI m.le 16 + bitI m.fo 32 + bitI m.ag 64 = (flN m : Nat)) := by
    show _ = _
    have h1 : m.ak = false := by
      unfold okB at ho
      rw [hk] at ho
      simp at ho
      exact ho.1
    unfold flN
    rw [h1]
    cases m.tc <;> cases m.pr <;> cases m.le <;> cases m.fo <;> cases m.ag <;> simp [bitI, bitB] <;> omega
  have HF : Hid (flN m < 256) := flN_lt m
  have HE : Hid ([0, 0, 2, 2] ++ [((flN m : Nat) : Int)] ++ be 8 m.rt ++ be 4 m.co ++ be 8 m.br ++ be 2 m.po ++ [(m.a : Int), 0, (m.x : Int), 0, (m.h : Int), 0, (m.d : Int), 0] ++ [0] = mbytes m) := by
    show _ = _
    unfold mbytes bodyL restL
    rw [if_neg (by omega), if_pos hk]
    simp
  have wa := hm.a
  have wx := hm.x
  have wh := hm.h
  have wd := hm.d
  have wc := hm.co
  have wp := hm.po
  clear hB hp hm
  go_enter Tryd.func8, Tryd.ntmps8
  go_wp2_with fail
  refine (fine_any m _).mono ?_
  rintro _ W1 ⟨rfl, b1⟩
  rw [ho]
  have H1 : Hid (QSt w W1 m) := H.out.later b1
  have k0 := H1.out.pv.c0
  have k1 := H1.out.pv.c1
  have k2 := H1.out.pv.c2
  rw [hk] at k0
  have k3 := H1.out.pv.c3
  have k4 := H1.out.pv.c4
  have k5 := H1.out.pv.c5
  have k6 := H1.out.pv.c6
  have k7 := H1.out.pv.c7
  have hlt := H1.out.pv.lt
  clear b1 H ld ho
  go_wp2_with fail
  go_quiet ((go_at_call 24; refine Calls.quiet_of_same (flag_ref _ _ _)))
  obtain ⟨V, hV⟩ : ∃ V, (W1.alloc (.cells #[.int .u8 0, .int .u8 0, .int .u8 0, .int .u8 0] 5)).drewN nq = V := ⟨_, rfl⟩
  have QV : Hid (QSt w V m) := by
    show QSt _ _ _
    rw [← hV]
    exact ⟨(H1.out.alloc _).pv, below_dn (H1.out.alloc _).below nq⟩
  have OV : Hid (Own V (w.heap.size + 1) (.slice (some ⟨W1.heap.size, 0, none⟩) 4 4) [0, 0, 0, 0]) := by
    show Own _ _ _ _
    rw [← hV]
    exact (own_new W1 [0, 0, 0, 0] _ _ _ rfl rfl H1.out.sz (by simp)).of_block (fun _ _ => rfl)
  rw [hV]
  clear hV k0 k1 k2 k3 k4 k5 k6 k7 H1
  have k0 := QV.out.pv.c0
  have k1 := QV.out.pv.c1
  have k2 := QV.out.pv.c2
  have k3 := QV.out.pv.c3
  have k4 := QV.out.pv.c4
  have k5 := QV.out.pv.c5
  have k6 := QV.out.pv.c6
  have k7 := QV.out.pv.c7
  rw [hk] at k0
  have hlv := QV.out.pv.lt
  clear hk
  go_wp2_with fail
  go_quiet (first | (go_at_call 24; refine Calls.quiet_of_same (flag_ref _ _ _)) | (go_at_call 25; refine Calls.quiet_of_same (role_ref _ _)))
  obtain ⟨V', hV'⟩ : ∃ V', (V.alloc (.cells #[.int .u8 0, .int .u8 0, .int .u8 2, .int .u8 2] 5)).drewN nq = V' := ⟨_, rfl⟩
  have QV' : Hid (QSt w V' m) := by
    show QSt _ _ _
    rw [← hV']
    exact ⟨(QV.out.alloc _).pv, below_dn (QV.out.alloc _).below nq⟩
  have OV' : Hid (Own V' (w.heap.size + 1) (.slice (some ⟨V.heap.size, 0, none⟩) 4 4) [0, 0, 2, 2]) := by
    show Own _ _ _ _
    rw [← hV']
    exact (own_new V [0, 0, 2, 2] _ _ _ rfl rfl QV.out.sz (by simp)).of_block (fun _ _ => rfl)
  rw [hV']
  go_wp2_with fail
  rw [EF.out]
  clear hV' k0 k1 k2 k3 k4 k5 k6 k7 d1 d2 d3 d4 d5 d6 d7 OV QV hlt hlv
  obtain ⟨F, hF⟩ : ∃ F, flN m = F := ⟨_, rfl⟩
  rw [hF] at HE ⊢
  have hF2 : F < 256 := by have := HF.out; omega
  have uF : IntKind.u8.wrap (F : Int) = F := IntWalk.u8_in _ (by omega)
  have uC : IntKind.u64.wrap (m.co : Int) = m.co := IntWalk.u64_in _ (by omega)
  have uP : IntKind.u64.wrap (m.po : Int) = m.po := IntWalk.u64_in _ (by omega)
  have Q0 : Hid (QSt w V'.drew m) := ⟨QV'.out.pv, QV'.out.below.drew⟩
  have O0 : Hid (Own V'.drew (w.heap.size + 1) (.slice (some ⟨V.heap.size, 0, none⟩) 4 4) [0, 0, 2, 2]) := OV'.out.of_block (fun _ _ => rfl)
  obtain ⟨X0, hX0⟩ : ∃ X, V'.drew = X := ⟨_, rfl⟩
  rw [hX0] at Q0 O0
  clear QV' OV' hF HF EF
  refine wp_region_noPanic ?_
  refine wp_region_held_drew (S := fun w' => w'.cell? ⟨w.heap.size, 8, none⟩ = some (.int .u64 m.rt)) (by kernel_rfl) (by rw [hX0]; exact Q0.out.pv.c8) (fun hHeld => ?_)
  rw [hX0] at hHeld ⊢
  clear hX0
  refine wpAnyH_take (i := 0) (oi := { dst := some 49, op := Op.move (Operand.tmp 4), type := 33, pos := "ref.go:83", after := #[], guard := none }) (v := ?_) rfl (by kernel_rfl) (by kernel_rfl) (by kernel_rfl) (fun _ _ _ h => h) (Or.inl ⟨by rfl, ?_⟩) hHeld ?_
  rotate_left
  · intro W hSw
    first | (go_simp; done) | (go_simp; with_reducible rfl)
  rotate_left
  try simp only [Act.put, List.setIfInBounds_toArray, List.set_cons_zero, List.set_cons_succ]
  refine wpAnyH_take (i := 1) (oi := { dst := some 50, op := Op.move (Operand.tmp 5), type := 3, pos := "ref.go:83", after := #[], guard := none }) (v := ?_) rfl (by kernel_rfl) (by kernel_rfl) (by kernel_rfl) (fun _ _ _ h => h) (Or.inl ⟨by rfl, ?_⟩) hHeld ?_
  rotate_left
  · intro W hSw
    first | (go_simp; done) | (go_simp; with_reducible rfl)
  rotate_left
  try simp only [Act.put, List.setIfInBounds_toArray, List.set_cons_zero, List.set_cons_succ]
  refine wpAnyH_take (i := 2) (oi := { dst := some 51, op := Op.convert 3 5 (Operand.tmp 50), type := 5, pos := "ref.go:83", after := #[{ on := 1, ground := Ground.data }], guard := none }) (v := ?_) rfl (by kernel_rfl) (by kernel_rfl) (by kernel_rfl) (fun _ _ _ h => h) (Or.inl ⟨by rfl, ?_⟩) hHeld ?_
  rotate_left
  · intro W hSw
    first | (go_simp; done) | (go_simp; with_reducible rfl)
  rotate_left
  try simp only [Act.put, List.setIfInBounds_toArray, List.set_cons_zero, List.set_cons_succ]
  refine wpAnyH_take (i := 5) (oi := { dst := some 54, op := Op.fieldAddr 32 (Operand.tmp 1) 8, type := 0, pos := "ref.go:83", after := #[], guard := none }) (v := ?_) rfl (by kernel_rfl) (by kernel_rfl) (by kernel_rfl) (fun _ _ _ h => h) (Or.inl ⟨by rfl, ?_⟩) hHeld ?_
  rotate_left
  · intro W hSw
    first | (go_simp; done) | (go_simp; with_reducible rfl)
  rotate_left
  try simp only [Act.put, List.setIfInBounds_toArray, List.set_cons_zero, List.set_cons_succ]
  refine wpAnyH_take (i := 6) (oi := { dst := some 55, op := Op.fieldAddr 28 (Operand.tmp 54) 0, type := 0, pos := "ref.go:83", after := #[{ on := 5, ground := Ground.data }], guard := none }) (v := ?_) rfl (by kernel_rfl) (by kernel_rfl) (by kernel_rfl) (fun _ _ _ h => h) (Or.inl ⟨by rfl, ?_⟩) hHeld ?_
  rotate_left
  · intro W hSw
    first | (go_simp; done) | (go_simp; with_reducible rfl)
  rotate_left
  try simp only [Act.put, List.setIfInBounds_toArray, List.set_cons_zero, List.set_cons_succ]
  refine wpAnyH_take (i := 7) (oi := { dst := some 56, op := Op.load 24 (Operand.tmp 55), type := 24, pos := "ref.go:83", after := #[{ on := 6, ground := Ground.data }], guard := none }) (v := ?_) rfl (by kernel_rfl) (by kernel_rfl) (by kernel_rfl) (fun _ _ _ h => h) (Or.inl ⟨by rfl, ?_⟩) hHeld ?_
  rotate_left
  · intro W hSw
    first | (go_simp; done) | (go_simp; with_reducible rfl)
  rotate_left
  try simp only [Act.put, List.setIfInBounds_toArray, List.set_cons_zero, List.set_cons_succ]
  refine wpAnyH_ready (rs := [3]) (by kernel_rfl) (by simp) ?_
  refine AllReadyH.cons (o := { dst := some 52, op := Op.buildSlice 33 1 #[(0, Operand.tmp 51)], type := 33, pos := "ref.go:83", after := #[{ on := 2, ground := Ground.data }], guard := none }) rfl (fun K hK => ?_) AllReadyH.nil
  go_simp
  have Q1 : Hid (QSt w (X0.alloc (.cells #[.int .u8 (F : Int)] 5)) m) := Q0.out.alloc _
  have O1 : Hid (Own (X0.alloc (.cells #[.int .u8 (F : Int)] 5)) (w.heap.size + 1) (.slice (some ⟨V.heap.size, 0, none⟩) 4 4) [0, 0, 2, 2]) := own_alloc O0.out _
  have S1 : Hid (Src (X0.alloc (.cells #[.int .u8 (F : Int)] 5)) (.slice (some ⟨X0.heap.size, 0, none⟩) 1 1) [(F : Int)]) := (own_new X0 [(F : Int)] _ _ _ rfl rfl (Nat.le_refl _) (by simp)).src
  clear hHeld
  refine hK.out _ _ Q1.out.pv.c8 (fun hHeld => ?_)
  clear hK K
  try simp only [Act.put, List.setIfInBounds_toArray, List.set_cons_zero, List.set_cons_succ]
  refine wpAnyH_ready (rs := [4]) (by kernel_rfl) (by simp) ?_
  refine AllReadyH.cons (o := { dst := some 53, op := Op.call { callee := Callee.builtin Builtin.append, args := #[Operand.tmp 49, Operand.tmp 52], argTypes := #[33, 33] }, type := 33, pos := "ref.go:83", after := #[{ on := 0, ground := Ground.data }, { on := 3, ground := Ground.data }], guard := none }) rfl (fun K hK => ?_) AllReadyH.nil
  refine step_app (by rfl) _ _ (by rfl) (by rfl) (by rfl) O1.out S1.out (by have := HLN.out; simp [be_len]) Q1.out.sz ?_
  intro v2 W2 o2 g2 _
  have Q2 : Hid (QSt w W2 m) := Q1.out.own (grown_below O1.out g2 Q1.out.sz)
  obtain ⟨a2, n2, c2, rfl⟩ := src_form o2.src
  have O2 : Hid (Own W2 (w.heap.size + 1) (.slice a2 n2 c2) ([0, 0, 2, 2] ++ [(F : Int)])) := o2
  clear o2 g2
  clear hHeld
  refine hK.out _ _ Q2.out.pv.c8 (fun hHeld => ?_)
  clear hK K
  try simp only [Act.put, List.setIfInBounds_toArray, List.set_cons_zero, List.set_cons_succ]
  refine wpAnyH_ready (rs := [8]) (by kernel_rfl) (by simp) ?_
  refine AllReadyH.cons (o := { dst := some 57, op := Op.call { callee := Callee.value (Operand.func 26), args := #[Operand.tmp 56, Operand.const (Value.int IntKind.i64 8)], argTypes := #[24, 3] }, type := 33, pos := "ref.go:83", after := #[{ on := 7, ground := Ground.data }, { on := 4, ground := Ground.chain }], guard := none }) rfl (fun K hK => ?_) AllReadyH.nil
  go_simp
  refine (put_ref m.rt 8 _ (by omega) HM.out.1.rt).mono ?_
  rintro _ W3 ⟨x3, rfl, o3, b3⟩
  have Q3 : Hid (QSt w W3 m) := Q2.out.later b3
  have O3 : Hid (Own W3 (w.heap.size + 1) (.slice a2 n2 c2) ([0, 0, 2, 2] ++ [(F : Int)])) := O2.out.below b3
  have S3 : Hid (Src W3 x3 (be 8 m.rt)) := o3.src
  clear o3 b3
  clear hHeld
  refine hK.out _ _ Q3.out.pv.c8 (fun hHeld => ?_)
  clear hK K
  try simp only [Act.put, List.setIfInBounds_toArray, List.set_cons_zero, List.set_cons_succ]
  refine wpAnyH_ready (rs := [9]) (by kernel_rfl) (by simp) ?_
  refine AllReadyH.cons (o := { dst := some 58, op := Op.call { callee := Callee.builtin Builtin.append, args := #[Operand.tmp 53, Operand.tmp 57], argTypes := #[33, 33] }, type := 33, pos := "ref.go:83", after := #[{ on := 4, ground := Ground.data }, { on := 8, ground := Ground.data }, { on := 8, ground := Ground.chain }], guard := none }) rfl (fun K hK => ?_) AllReadyH.nil
  refine step_app (by rfl) _ _ (by rfl) (by rfl) (by rfl) O3.out S3.out (by have := HLN.out; simp [be_len]) Q3.out.sz ?_
  intro v4 W4 o4 g4 _
  have Q4 : Hid (QSt w W4 m) := Q3.out.own (grown_below O3.out g4 Q3.out.sz)
  obtain ⟨a4, n4, c4, rfl⟩ := src_form o4.src
  have O4 : Hid (Own W4 (w.heap.size + 1) (.slice a4 n4 c4) ([0, 0, 2, 2] ++ [(F : Int)] ++ be 8 m.rt)) := o4
  clear o4 g4
  clear hHeld
  refine hK.out _ _ Q4.out.pv.c8 (fun hHeld => ?_)
  clear hK K
  try simp only [Act.put, List.setIfInBounds_toArray, List.set_cons_zero, List.set_cons_succ]
  refine wpAnyH_ready (rs := [10]) (by kernel_rfl) (by simp) ?_
  refine AllReadyH.cons (o := { dst := some 4, op := Op.assign (Operand.tmp 58), type := 33, pos := "ref.go:83", after := #[{ on := 9, ground := Ground.data }, { on := 9, ground := Ground.chain }, { on := 0, ground := Ground.phase }, { on := 1, ground := Ground.phase }, { on := 2, ground := Ground.phase }, { on := 3, ground := Ground.phase }, { on := 4, ground := Ground.phase }, { on := 5, ground := Ground.phase }, { on := 6, ground := Ground.phase }, { on := 7, ground := Ground.phase }, { on := 8, ground := Ground.phase }, { on := 9, ground := Ground.phase }], guard := none }) rfl (fun K hK => ?_) AllReadyH.nil
  go_simp
  clear hHeld
  refine hK.out _ _ Q4.out.pv.c8 (fun hHeld => ?_)
  clear hK K
  try simp only [Act.put, List.setIfInBounds_toArray, List.set_cons_zero, List.set_cons_succ]
  refine wpAnyH_done (by kernel_rfl) ?_ _
  refine NoPanic.normal ?_
  clear hHeld
  clear Q0 O0 Q1 O1 S1 Q2 O2 Q3 O3 S3
  go_wp2_with fail
  have Q5 : Hid (QSt w W4.drew m) := ⟨Q4.out.pv, Q4.out.below.drew⟩
  have O5 : Hid (Own W4.drew (w.heap.size + 1) (.slice a4 n4 c4) ([0, 0, 2, 2] ++ [(F : Int)] ++ be 8 m.rt)) := O4.out.of_block (fun _ _ => rfl)
  obtain ⟨X5, hX5⟩ : ∃ X, W4.drew = X := ⟨_, rfl⟩
  rw [hX5] at Q5 O5
  clear Q4 O4
  refine wp_region_noPanic ?_
  refine wp_region_held_drew (S := fun w' => w'.cell? ⟨w.heap.size, 9, none⟩ = some (.int .u32 m.co) ∧ w'.cell? ⟨w.heap.size, 10, none⟩ = some (.int .u64 m.br)) (by kernel_rfl) (by rw [hX5]; exact ⟨Q5.out.pv.c9, Q5.out.pv.c10⟩) (fun hHeld => ?_)
  rw [hX5] at hHeld ⊢
  clear hX5
  refine wpAnyH_take (i := 0) (oi := { dst := some 59, op := Op.move (Operand.tmp 4), type := 33, pos := "ref.go:84", after := #[], guard := none }) (v := ?_) rfl (by kernel_rfl) (by kernel_rfl) (by kernel_rfl) (fun _ _ _ h => h) (Or.inl ⟨by rfl, ?_⟩) hHeld ?_
  rotate_left
  · intro W hSw
    obtain ⟨l1, l2⟩ := hSw
    first | (go_simp; done) | (go_simp; with_reducible rfl)
  rotate_left
  try simp only [Act.put, List.setIfInBounds_toArray, List.set_cons_zero, List.set_cons_succ]
  refine wpAnyH_take (i := 1) (oi := { dst := some 60, op := Op.fieldAddr 32 (Operand.tmp 1) 8, type := 0, pos := "ref.go:84", after := #[], guard := none }) (v := ?_) rfl (by kernel_rfl) (by kernel_rfl) (by kernel_rfl) (fun _ _ _ h => h) (Or.inl ⟨by rfl, ?_⟩) hHeld ?_
  rotate_left
  · intro W hSw
    obtain ⟨l1, l2⟩ := hSw
    first | (go_simp; done) | (go_simp; with_reducible rfl)
  rotate_left
  try simp only [Act.put, List.setIfInBounds_toArray, List.set_cons_zero, List.set_cons_succ]
  refine wpAnyH_take (i := 2) (oi := { dst := some 61, op := Op.fieldAddr 28 (Operand.tmp 60) 1, type := 0, pos := "ref.go:84", after := #[{ on := 1, ground := Ground.data }], guard := none }) (v := ?_) rfl (by kernel_rfl) (by kernel_rfl) (by kernel_rfl) (fun _ _ _ h => h) (Or.inl ⟨by rfl, ?_⟩) hHeld ?_
  rotate_left
  · intro W hSw
    obtain ⟨l1, l2⟩ := hSw
    first | (go_simp; done) | (go_simp; with_reducible rfl)
  rotate_left
  try simp only [Act.put, List.setIfInBounds_toArray, List.set_cons_zero, List.set_cons_succ]
  refine wpAnyH_take (i := 3) (oi := { dst := some 62, op := Op.load 25 (Operand.tmp 61), type := 25, pos := "ref.go:84", after := #[{ on := 2, ground := Ground.data }], guard := none }) (v := ?_) rfl (by kernel_rfl) (by kernel_rfl) (by kernel_rfl) (fun _ _ _ h => h) (Or.inl ⟨by rfl, ?_⟩) hHeld ?_
  rotate_left
  · intro W hSw
    obtain ⟨l1, l2⟩ := hSw
    first | (go_simp; done) | (go_simp; with_reducible rfl)
  rotate_left
  try simp only [Act.put, List.setIfInBounds_toArray, List.set_cons_zero, List.set_cons_succ]
  refine wpAnyH_take (i := 4) (oi := { dst := some 63, op := Op.convert 25 24 (Operand.tmp 62), type := 24, pos := "ref.go:84", after := #[{ on := 3, ground := Ground.data }], guard := none }) (v := ?_) rfl (by kernel_rfl) (by kernel_rfl) (by kernel_rfl) (fun _ _ _ h => h) (Or.inl ⟨by rfl, ?_⟩) hHeld ?_
  rotate_left
  · intro W hSw
    obtain ⟨l1, l2⟩ := hSw
    first | (go_simp; done) | (go_simp; with_reducible rfl)
  rotate_left
  try simp only [Act.put, List.setIfInBounds_toArray, List.set_cons_zero, List.set_cons_succ]
  refine wpAnyH_take (i := 7) (oi := { dst := some 66, op := Op.fieldAddr 32 (Operand.tmp 1) 8, type := 0, pos := "ref.go:84", after := #[], guard := none }) (v := ?_) rfl (by kernel_rfl) (by kernel_rfl) (by kernel_rfl) (fun _ _ _ h => h) (Or.inl ⟨by rfl, ?_⟩) hHeld ?_
  rotate_left
  · intro W hSw
    obtain ⟨l1, l2⟩ := hSw
    first | (go_simp; done) | (go_simp; with_reducible rfl)
  rotate_left
  try simp only [Act.put, List.setIfInBounds_toArray, List.set_cons_zero, List.set_cons_succ]
  refine wpAnyH_take (i := 8) (oi := { dst := some 67, op := Op.fieldAddr 28 (Operand.tmp 66) 2, type := 0, pos := "ref.go:84", after := #[{ on := 7, ground := Ground.data }], guard := none }) (v := ?_) rfl (by kernel_rfl) (by kernel_rfl) (by kernel_rfl) (fun _ _ _ h => h) (Or.inl ⟨by rfl, ?_⟩) hHeld ?_
  rotate_left
  · intro W hSw
    obtain ⟨l1, l2⟩ := hSw
    first | (go_simp; done) | (go_simp; with_reducible rfl)
  rotate_left
  try simp only [Act.put, List.setIfInBounds_toArray, List.set_cons_zero, List.set_cons_succ]
  refine wpAnyH_take (i := 9) (oi := { dst := some 68, op := Op.load 24 (Operand.tmp 67), type := 24, pos := "ref.go:84", after := #[{ on := 8, ground := Ground.data }], guard := none }) (v := ?_) rfl (by kernel_rfl) (by kernel_rfl) (by kernel_rfl) (fun _ _ _ h => h) (Or.inl ⟨by rfl, ?_⟩) hHeld ?_
  rotate_left
  · intro W hSw
    obtain ⟨l1, l2⟩ := hSw
    first | (go_simp; done) | (go_simp; with_reducible rfl)
  rotate_left
  try simp only [Act.put, List.setIfInBounds_toArray, List.set_cons_zero, List.set_cons_succ]
  refine wpAnyH_ready (rs := [5]) (by kernel_rfl) (by simp) ?_
  refine AllReadyH.cons (o := { dst := some 64, op := Op.call { callee := Callee.value (Operand.func 26), args := #[Operand.tmp 63, Operand.const (Value.int IntKind.i64 4)], argTypes := #[24, 3] }, type := 33, pos := "ref.go:84", after := #[{ on := 4, ground := Ground.data }], guard := none }) rfl (fun K hK => ?_) AllReadyH.nil
  go_simp
  refine (put_ref m.co 4 _ (by omega) (by have := HM.out.1.co; omega)).mono ?_
  rintro _ W6 ⟨x6, rfl, o6, b6⟩
  have Q6 : Hid (QSt w W6 m) := Q5.out.later b6
  have O6 : Hid (Own W6 (w.heap.size + 1) (.slice a4 n4 c4) ([0, 0, 2, 2] ++ [(F : Int)] ++ be 8 m.rt)) := O5.out.below b6
  have S6 : Hid (Src W6 x6 (be 4 m.co)) := o6.src
  clear o6 b6
  clear hHeld
  refine hK.out _ _ ⟨Q6.out.pv.c9, Q6.out.pv.c10⟩ (fun hHeld => ?_)
  clear hK K
  try simp only [Act.put, List.setIfInBounds_toArray, List.set_cons_zero, List.set_cons_succ]
  refine wpAnyH_ready (rs := [6]) (by kernel_rfl) (by simp) ?_
  refine AllReadyH.cons (o := { dst := some 65, op := Op.call { callee := Callee.builtin Builtin.append, args := #[Operand.tmp 59, Operand.tmp 64], argTypes := #[33, 33] }, type := 33, pos := "ref.go:84", after := #[{ on := 0, ground := Ground.data }, { on := 5, ground := Ground.data }, { on := 5, ground := Ground.chain }], guard := none }) rfl (fun K hK => ?_) AllReadyH.nil
  refine step_app (by rfl) _ _ (by rfl) (by rfl) (by rfl) O6.out S6.out (by have := HLN.out; simp [be_len]) Q6.out.sz ?_
  intro v7 W7 o7 g7 _
  have Q7 : Hid (QSt w W7 m) := Q6.out.own (grown_below O6.out g7 Q6.out.sz)
  obtain ⟨a7, n7, c7, rfl⟩ := src_form o7.src
  have O7 : Hid (Own W7 (w.heap.size + 1) (.slice a7 n7 c7) ([0, 0, 2, 2] ++ [(F : Int)] ++ be 8 m.rt ++ be 4 m.co)) := o7
  clear o7 g7
  clear hHeld
  refine hK.out _ _ ⟨Q7.out.pv.c9, Q7.out.pv.c10⟩ (fun hHeld => ?_)
  clear hK K
  try simp only [Act.put, List.setIfInBounds_toArray, List.set_cons_zero, List.set_cons_succ]
  refine wpAnyH_ready (rs := [10]) (by kernel_rfl) (by simp) ?_
  refine AllReadyH.cons (o := { dst := some 69, op := Op.call { callee := Callee.value (Operand.func 26), args := #[Operand.tmp 68, Operand.const (Value.int IntKind.i64 8)], argTypes := #[24, 3] }, type := 33, pos := "ref.go:84", after := #[{ on := 9, ground := Ground.data }, { on := 6, ground := Ground.chain }], guard := none }) rfl (fun K hK => ?_) AllReadyH.nil
  go_simp
  refine (put_ref m.br 8 _ (by omega) HM.out.1.br).mono ?_
  rintro _ W8 ⟨x8, rfl, o8, b8⟩
  have Q8 : Hid (QSt w W8 m) := Q7.out.later b8
  have O8 : Hid (Own W8 (w.heap.size + 1) (.slice a7 n7 c7) ([0, 0, 2, 2] ++ [(F : Int)] ++ be 8 m.rt ++ be 4 m.co)) := O7.out.below b8
  have S8 : Hid (Src W8 x8 (be 8 m.br)) := o8.src
  clear o8 b8
  clear hHeld
  refine hK.out _ _ ⟨Q8.out.pv.c9, Q8.out.pv.c10⟩ (fun hHeld => ?_)
  clear hK K
  try simp only [Act.put, List.setIfInBounds_toArray, List.set_cons_zero, List.set_cons_succ]
  refine wpAnyH_ready (rs := [11]) (by kernel_rfl) (by simp) ?_
  refine AllReadyH.cons (o := { dst := some 70, op := Op.call { callee := Callee.builtin Builtin.append, args := #[Operand.tmp 65, Operand.tmp 69], argTypes := #[33, 33] }, type := 33, pos := "ref.go:84", after := #[{ on := 6, ground := Ground.data }, { on := 10, ground := Ground.data }, { on := 10, ground := Ground.chain }], guard := none }) rfl (fun K hK => ?_) AllReadyH.nil
  refine step_app (by rfl) _ _ (by rfl) (by rfl) (by rfl) O8.out S8.out (by have := HLN.out; simp [be_len]) Q8.out.sz ?_
  intro v9 W9 o9 g9 _
  have Q9 : Hid (QSt w W9 m) := Q8.out.own (grown_below O8.out g9 Q8.out.sz)
  obtain ⟨a9, n9, c9, rfl⟩ := src_form o9.src
  have O9 : Hid (Own W9 (w.heap.size + 1) (.slice a9 n9 c9) ([0, 0, 2, 2] ++ [(F : Int)] ++ be 8 m.rt ++ be 4 m.co ++ be 8 m.br)) := o9
  clear o9 g9
  clear hHeld
  refine hK.out _ _ ⟨Q9.out.pv.c9, Q9.out.pv.c10⟩ (fun hHeld => ?_)
  clear hK K
  try simp only [Act.put, List.setIfInBounds_toArray, List.set_cons_zero, List.set_cons_succ]
  refine wpAnyH_ready (rs := [12]) (by kernel_rfl) (by simp) ?_
  refine AllReadyH.cons (o := { dst := some 4, op := Op.assign (Operand.tmp 70), type := 33, pos := "ref.go:84", after := #[{ on := 11, ground := Ground.data }, { on := 11, ground := Ground.chain }, { on := 0, ground := Ground.phase }, { on := 1, ground := Ground.phase }, { on := 2, ground := Ground.phase }, { on := 3, ground := Ground.phase }, { on := 4, ground := Ground.phase }, { on := 5, ground := Ground.phase }, { on := 6, ground := Ground.phase }, { on := 7, ground := Ground.phase }, { on := 8, ground := Ground.phase }, { on := 9, ground := Ground.phase }, { on := 10, ground := Ground.phase }, { on := 11, ground := Ground.phase }], guard := none }) rfl (fun K hK => ?_) AllReadyH.nil
  go_simp
  clear hHeld
  refine hK.out _ _ ⟨Q9.out.pv.c9, Q9.out.pv.c10⟩ (fun hHeld => ?_)
  clear hK K
  try simp only [Act.put, List.setIfInBounds_toArray, List.set_cons_zero, List.set_cons_succ]
  refine wpAnyH_done (by kernel_rfl) ?_ _
  refine NoPanic.normal ?_
  clear hHeld
  clear Q5 O5 Q6 O6 S6 Q7 O7 Q8 O8 S8
  go_wp2_with fail
  have QA : Hid (QSt w W9.drew m) := ⟨Q9.out.pv, Q9.out.below.drew⟩
  have OA : Hid (Own W9.drew (w.heap.size + 1) (.slice a9 n9 c9) ([0, 0, 2, 2] ++ [(F : Int)] ++ be 8 m.rt ++ be 4 m.co ++ be 8 m.br)) := O9.out.of_block (fun _ _ => rfl)
  obtain ⟨XA, hXA⟩ : ∃ X, W9.drew = X := ⟨_, rfl⟩
  rw [hXA] at QA OA
  clear Q9 O9
  refine wp_region_noPanic ?_
  refine wp_region_held_drew (S := fun w' => w'.cell? ⟨w.heap.size, 11, none⟩ = some (.int .u16 m.po) ∧ w'.cell? ⟨w.heap.size, 12, none⟩ = some (.int .u8 m.a) ∧ w'.cell? ⟨w.heap.size, 13, none⟩ = some (.int .u8 m.x) ∧ w'.cell? ⟨w.heap.size, 14, none⟩ = some (.int .u8 m.h) ∧ w'.cell? ⟨w.heap.size, 15, none⟩ = some (.int .u8 m.d)) (by kernel_rfl) (by rw [hXA]; exact ⟨QA.out.pv.c11, QA.out.pv.c12, QA.out.pv.c13, QA.out.pv.c14, QA.out.pv.c15⟩) (fun hHeld => ?_)
  rw [hXA] at hHeld ⊢
  clear hXA
  refine wpAnyH_take (i := 0) (oi := { dst := some 71, op := Op.move (Operand.tmp 4), type := 33, pos := "ref.go:85", after := #[], guard := none }) (v := ?_) rfl (by kernel_rfl) (by kernel_rfl) (by kernel_rfl) (fun _ _ _ h => h) (Or.inl ⟨by rfl, ?_⟩) hHeld ?_
  rotate_left
  · intro W hSw
    obtain ⟨l1, l2, l3, l4, l5⟩ := hSw
    first | (go_simp; done) | (go_simp; with_reducible rfl)
  rotate_left
  try simp only [Act.put, List.setIfInBounds_toArray, List.set_cons_zero, List.set_cons_succ]
  refine wpAnyH_take (i := 1) (oi := { dst := some 72, op := Op.fieldAddr 32 (Operand.tmp 1) 8, type := 0, pos := "ref.go:85", after := #[], guard := none }) (v := ?_) rfl (by kernel_rfl) (by kernel_rfl) (by kernel_rfl) (fun _ _ _ h => h) (Or.inl ⟨by rfl, ?_⟩) hHeld ?_
  rotate_left
  · intro W hSw
    obtain ⟨l1, l2, l3, l4, l5⟩ := hSw
    first | (go_simp; done) | (go_simp; with_reducible rfl)
  rotate_left
  try simp only [Act.put, List.setIfInBounds_toArray, List.set_cons_zero, List.set_cons_succ]
  refine wpAnyH_take (i := 2) (oi := { dst := some 73, op := Op.fieldAddr 28 (Operand.tmp 72) 3, type := 0, pos := "ref.go:85", after := #[{ on := 1, ground := Ground.data }], guard := none }) (v := ?_) rfl (by kernel_rfl) (by kernel_rfl) (by kernel_rfl) (fun _ _ _ h => h) (Or.inl ⟨by rfl, ?_⟩) hHeld ?_
  rotate_left
  · intro W hSw
    obtain ⟨l1, l2, l3, l4, l5⟩ := hSw
    first | (go_simp; done) | (go_simp; with_reducible rfl)
  rotate_left
  try simp only [Act.put, List.setIfInBounds_toArray, List.set_cons_zero, List.set_cons_succ]
  refine wpAnyH_take (i := 3) (oi := { dst := some 74, op := Op.load 26 (Operand.tmp 73), type := 26, pos := "ref.go:85", after := #[{ on := 2, ground := Ground.data }], guard := none }) (v := ?_) rfl (by kernel_rfl) (by kernel_rfl) (by kernel_rfl) (fun _ _ _ h => h) (Or.inl ⟨by rfl, ?_⟩) hHeld ?_
  rotate_left
  · intro W hSw
    obtain ⟨l1, l2, l3, l4, l5⟩ := hSw
    first | (go_simp; done) | (go_simp; with_reducible rfl)
  rotate_left
  try simp only [Act.put, List.setIfInBounds_toArray, List.set_cons_zero, List.set_cons_succ]
  refine wpAnyH_take (i := 4) (oi := { dst := some 75, op := Op.convert 26 24 (Operand.tmp 74), type := 24, pos := "ref.go:85", after := #[{ on := 3, ground := Ground.data }], guard := none }) (v := ?_) rfl (by kernel_rfl) (by kernel_rfl) (by kernel_rfl) (fun _ _ _ h => h) (Or.inl ⟨by rfl, ?_⟩) hHeld ?_
  rotate_left
  · intro W hSw
    obtain ⟨l1, l2, l3, l4, l5⟩ := hSw
    first | (go_simp; done) | (go_simp; with_reducible rfl)
  rotate_left
  try simp only [Act.put, List.setIfInBounds_toArray, List.set_cons_zero, List.set_cons_succ]
  refine wpAnyH_take (i := 7) (oi := { dst := some 78, op := Op.fieldAddr 32 (Operand.tmp 1) 9, type := 0, pos := "ref.go:85", after := #[], guard := none }) (v := ?_) rfl (by kernel_rfl) (by kernel_rfl) (by kernel_rfl) (fun _ _ _ h => h) (Or.inl ⟨by rfl, ?_⟩) hHeld ?_
  rotate_left
  · intro W hSw
    obtain ⟨l1, l2, l3, l4, l5⟩ := hSw
    first | (go_simp; done) | (go_simp; with_reducible rfl)
  rotate_left
  try simp only [Act.put, List.setIfInBounds_toArray, List.set_cons_zero, List.set_cons_succ]
  refine wpAnyH_take (i := 8) (oi := { dst := some 79, op := Op.fieldAddr 30 (Operand.tmp 78) 0, type := 0, pos := "ref.go:85", after := #[{ on := 7, ground := Ground.data }], guard := none }) (v := ?_) rfl (by kernel_rfl) (by kernel_rfl) (by kernel_rfl) (fun _ _ _ h => h) (Or.inl ⟨by rfl, ?_⟩) hHeld ?_
  rotate_left
  · intro W hSw
    obtain ⟨l1, l2, l3, l4, l5⟩ := hSw
    first | (go_simp; done) | (go_simp; with_reducible rfl)
  rotate_left
  try simp only [Act.put, List.setIfInBounds_toArray, List.set_cons_zero, List.set_cons_succ]
  refine wpAnyH_take (i := 9) (oi := { dst := some 80, op := Op.load 5 (Operand.tmp 79), type := 5, pos := "ref.go:85", after := #[{ on := 8, ground := Ground.data }], guard := none }) (v := ?_) rfl (by kernel_rfl) (by kernel_rfl) (by kernel_rfl) (fun _ _ _ h => h) (Or.inl ⟨by rfl, ?_⟩) hHeld ?_
  rotate_left
  · intro W hSw
    obtain ⟨l1, l2, l3, l4, l5⟩ := hSw
    first | (go_simp; done) | (go_simp; with_reducible rfl)
  rotate_left
  try simp only [Act.put, List.setIfInBounds_toArray, List.set_cons_zero, List.set_cons_succ]
  refine wpAnyH_take (i := 10) (oi := { dst := some 81, op := Op.fieldAddr 32 (Operand.tmp 1) 9, type := 0, pos := "ref.go:85", after := #[], guard := none }) (v := ?_) rfl (by kernel_rfl) (by kernel_rfl) (by kernel_rfl) (fun _ _ _ h => h) (Or.inl ⟨by rfl, ?_⟩) hHeld ?_
  rotate_left
  · intro W hSw
    obtain ⟨l1, l2, l3, l4, l5⟩ := hSw
    first | (go_simp; done) | (go_simp; with_reducible rfl)
  rotate_left
  try simp only [Act.put, List.setIfInBounds_toArray, List.set_cons_zero, List.set_cons_succ]
  refine wpAnyH_take (i := 11) (oi := { dst := some 82, op := Op.fieldAddr 30 (Operand.tmp 81) 1, type := 0, pos := "ref.go:85", after := #[{ on := 10, ground := Ground.data }], guard := none }) (v := ?_) rfl (by kernel_rfl) (by kernel_rfl) (by kernel_rfl) (fun _ _ _ h => h) (Or.inl ⟨by rfl, ?_⟩) hHeld ?_
  rotate_left
  · intro W hSw
    obtain ⟨l1, l2, l3, l4, l5⟩ := hSw
    first | (go_simp; done) | (go_simp; with_reducible rfl)
  rotate_left
  try simp only [Act.put, List.setIfInBounds_toArray, List.set_cons_zero, List.set_cons_succ]
  refine wpAnyH_take (i := 12) (oi := { dst := some 83, op := Op.load 5 (Operand.tmp 82), type := 5, pos := "ref.go:85", after := #[{ on := 11, ground := Ground.data }], guard := none }) (v := ?_) rfl (by kernel_rfl) (by kernel_rfl) (by kernel_rfl) (fun _ _ _ h => h) (Or.inl ⟨by rfl, ?_⟩) hHeld ?_
  rotate_left
  · intro W hSw
    obtain ⟨l1, l2, l3, l4, l5⟩ := hSw
    first | (go_simp; done) | (go_simp; with_reducible rfl)
  rotate_left
  try simp only [Act.put, List.setIfInBounds_toArray, List.set_cons_zero, List.set_cons_succ]
  refine wpAnyH_take (i := 13) (oi := { dst := some 84, op := Op.fieldAddr 32 (Operand.tmp 1) 9, type := 0, pos := "ref.go:85", after := #[], guard := none }) (v := ?_) rfl (by kernel_rfl) (by kernel_rfl) (by kernel_rfl) (fun _ _ _ h => h) (Or.inl ⟨by rfl, ?_⟩) hHeld ?_
  rotate_left
  · intro W hSw
    obtain ⟨l1, l2, l3, l4, l5⟩ := hSw
    first | (go_simp; done) | (go_simp; with_reducible rfl)
  rotate_left
  try simp only [Act.put, List.setIfInBounds_toArray, List.set_cons_zero, List.set_cons_succ]
  refine wpAnyH_take (i := 14) (oi := { dst := some 85, op := Op.fieldAddr 30 (Operand.tmp 84) 2, type := 0, pos := "ref.go:85", after := #[{ on := 13, ground := Ground.data }], guard := none }) (v := ?_) rfl (by kernel_rfl) (by kernel_rfl) (by kernel_rfl) (fun _ _ _ h => h) (Or.inl ⟨by rfl, ?_⟩) hHeld ?_
  rotate_left
  · intro W hSw
    obtain ⟨l1, l2, l3, l4, l5⟩ := hSw
    first | (go_simp; done) | (go_simp; with_reducible rfl)
  rotate_left
  try simp only [Act.put, List.setIfInBounds_toArray, List.set_cons_zero, List.set_cons_succ]
  refine wpAnyH_take (i := 15) (oi := { dst := some 86, op := Op.load 5 (Operand.tmp 85), type := 5, pos := "ref.go:85", after := #[{ on := 14, ground := Ground.data }], guard := none }) (v := ?_) rfl (by kernel_rfl) (by kernel_rfl) (by kernel_rfl) (fun _ _ _ h => h) (Or.inl ⟨by rfl, ?_⟩) hHeld ?_
  rotate_left
  · intro W hSw
    obtain ⟨l1, l2, l3, l4, l5⟩ := hSw
    first | (go_simp; done) | (go_simp; with_reducible rfl)
  rotate_left
  try simp only [Act.put, List.setIfInBounds_toArray, List.set_cons_zero, List.set_cons_succ]
  refine wpAnyH_take (i := 16) (oi := { dst := some 87, op := Op.fieldAddr 32 (Operand.tmp 1) 9, type := 0, pos := "ref.go:85", after := #[], guard := none }) (v := ?_) rfl (by kernel_rfl) (by kernel_rfl) (by kernel_rfl) (fun _ _ _ h => h) (Or.inl ⟨by rfl, ?_⟩) hHeld ?_
  rotate_left
  · intro W hSw
    obtain ⟨l1, l2, l3, l4, l5⟩ := hSw
    first | (go_simp; done) | (go_simp; with_reducible rfl)
  rotate_left
  try simp only [Act.put, List.setIfInBounds_toArray, List.set_cons_zero, List.set_cons_succ]
  refine wpAnyH_take (i := 17) (oi := { dst := some 88, op := Op.fieldAddr 30 (Operand.tmp 87) 3, type := 0, pos := "ref.go:85", after := #[{ on := 16, ground := Ground.data }], guard := none }) (v := ?_) rfl (by kernel_rfl) (by kernel_rfl) (by kernel_rfl) (fun _ _ _ h => h) (Or.inl ⟨by rfl, ?_⟩) hHeld ?_
  rotate_left
  · intro W hSw
    obtain ⟨l1, l2, l3, l4, l5⟩ := hSw
    first | (go_simp; done) | (go_simp; with_reducible rfl)
  rotate_left
  try simp only [Act.put, List.setIfInBounds_toArray, List.set_cons_zero, List.set_cons_succ]
  refine wpAnyH_take (i := 18) (oi := { dst := some 89, op := Op.load 5 (Operand.tmp 88), type := 5, pos := "ref.go:85", after := #[{ on := 17, ground := Ground.data }], guard := none }) (v := ?_) rfl (by kernel_rfl) (by kernel_rfl) (by kernel_rfl) (fun _ _ _ h => h) (Or.inl ⟨by rfl, ?_⟩) hHeld ?_
  rotate_left
  · intro W hSw
    obtain ⟨l1, l2, l3, l4, l5⟩ := hSw
    first | (go_simp; done) | (go_simp; with_reducible rfl)
  rotate_left
  try simp only [Act.put, List.setIfInBounds_toArray, List.set_cons_zero, List.set_cons_succ]
  refine wpAnyH_ready (rs := [5, 19]) (by kernel_rfl) (by simp) ?_
  refine AllReadyH.cons (o := { dst := some 76, op := Op.call { callee := Callee.value (Operand.func 26), args := #[Operand.tmp 75, Operand.const (Value.int IntKind.i64 2)], argTypes := #[24, 3] }, type := 33, pos := "ref.go:85", after := #[{ on := 4, ground := Ground.data }], guard := none }) rfl (fun K hK => ?_) ?_
  · go_simp
    refine (put_ref m.po 2 _ (by omega) (by have := HM.out.1.po; omega)).mono ?_
    rintro _ WB ⟨xB, rfl, oB, bB⟩
    have QB : Hid (QSt w WB m) := QA.out.later bB
    have OB : Hid (Own WB (w.heap.size + 1) (.slice a9 n9 c9) ([0, 0, 2, 2] ++ [(F : Int)] ++ be 8 m.rt ++ be 4 m.co ++ be 8 m.br)) := OA.out.below bB
    have SB : Hid (Src WB xB (be 2 m.po)) := oB.src
    clear oB bB
    clear hHeld
    refine hK.out _ _ ⟨QB.out.pv.c11, QB.out.pv.c12, QB.out.pv.c13, QB.out.pv.c14, QB.out.pv.c15⟩ (fun hHeld => ?_)
    clear hK K
    try simp only [Act.put, List.setIfInBounds_toArray, List.set_cons_zero, List.set_cons_succ]
    refine wpAnyH_ready (rs := [6, 19]) (by kernel_rfl) (by simp) ?_
    refine AllReadyH.cons (o := { dst := some 77, op := Op.call { callee := Callee.builtin Builtin.append, args := #[Operand.tmp 71, Operand.tmp 76], argTypes := #[33, 33] }, type := 33, pos := "ref.go:85", after := #[{ on := 0, ground := Ground.data }, { on := 5, ground := Ground.data }, { on := 5, ground := Ground.chain }], guard := none }) rfl (fun K hK => ?_) ?_
    · refine step_app (by rfl) _ _ (by rfl) (by rfl) (by rfl) OB.out SB.out (by simp [be_len]) QB.out.sz ?_
      intro vC WC oC gC _
      have QC : Hid (QSt w WC m) := QB.out.own (grown_below OB.out gC QB.out.sz)
      obtain ⟨aC, nC, cC, rfl⟩ := src_form oC.src
      have OC : Hid (Own WC (w.heap.size + 1) (.slice aC nC cC) ([0, 0, 2, 2] ++ [(F : Int)] ++ be 8 m.rt ++ be 4 m.co ++ be 8 m.br ++ be 2 m.po)) := oC
      clear oC gC
      clear hHeld
      refine hK.out _ _ ⟨QC.out.pv.c11, QC.out.pv.c12, QC.out.pv.c13, QC.out.pv.c14, QC.out.pv.c15⟩ (fun hHeld => ?_)
      clear hK K
      try simp only [Act.put, List.setIfInBounds_toArray, List.set_cons_zero, List.set_cons_succ]
      refine wpAnyH_ready (rs := [19]) (by kernel_rfl) (by simp) ?_
      refine AllReadyH.cons (o := { dst := some 90, op := Op.buildSlice 33 8 #[(0, Operand.tmp 80), (1, Operand.const (Value.int IntKind.u8 0)), (2, Operand.tmp 83), (3, Operand.const (Value.int IntKind.u8 0)), (4, Operand.tmp 86), (5, Operand.const (Value.int IntKind.u8 0)), (6, Operand.tmp 89), (7, Operand.const (Value.int IntKind.u8 0))], type := 33, pos := "ref.go:85", after := #[{ on := 9, ground := Ground.data }, { on := 12, ground := Ground.data }, { on := 15, ground := Ground.data }, { on := 18, ground := Ground.data }], guard := none }) rfl (fun K hK => ?_) AllReadyH.nil
      go_simp
      have QD : Hid (QSt w (WC.alloc (.cells #[.int .u8 (m.a : Int), .int .u8 0, .int .u8 (m.x : Int), .int .u8 0, .int .u8 (m.h : Int), .int .u8 0, .int .u8 (m.d : Int), .int .u8 0] 5)) m) := QC.out.alloc _
      have OD : Hid (Own (WC.alloc (.cells #[.int .u8 (m.a : Int), .int .u8 0, .int .u8 (m.x : Int), .int .u8 0, .int .u8 (m.h : Int), .int .u8 0, .int .u8 (m.d : Int), .int .u8 0] 5)) (w.heap.size + 1) (.slice aC nC cC) ([0, 0, 2, 2] ++ [(F : Int)] ++ be 8 m.rt ++ be 4 m.co ++ be 8 m.br ++ be 2 m.po)) := own_alloc OC.out _
      have BD : Hid (Src (WC.alloc (.cells #[.int .u8 (m.a : Int), .int .u8 0, .int .u8 (m.x : Int), .int .u8 0, .int .u8 (m.h : Int), .int .u8 0, .int .u8 (m.d : Int), .int .u8 0] 5)) (.slice (some ⟨WC.heap.size, 0, none⟩) 8 8) [(m.a : Int), 0, (m.x : Int), 0, (m.h : Int), 0, (m.d : Int), 0] ∧ (WC.alloc (.cells #[.int .u8 (m.a : Int), .int .u8 0, .int .u8 (m.x : Int), .int .u8 0, .int .u8 (m.h : Int), .int .u8 0, .int .u8 (m.d : Int), .int .u8 0] 5)).heap[WC.heap.size]? = some (.cells #[.int .u8 (m.a : Int), .int .u8 0, .int .u8 (m.x : Int), .int .u8 0, .int .u8 (m.h : Int), .int .u8 0, .int .u8 (m.d : Int), .int .u8 0] 5 (0, 0))) := ⟨(own_new WC [(m.a : Int), 0, (m.x : Int), 0, (m.h : Int), 0, (m.d : Int), 0] _ _ _ rfl rfl (Nat.le_refl _) (by simp)).src, alloc_at WC _⟩
      have ND : Hid (∀ i, ((.slice aC nC cC) : Value).ownBlock = some i → i ≠ WC.heap.size) := fun i hi => by have := (OC.out.block i hi).2; omega
      clear hHeld
      refine hK.out _ _ ⟨QD.out.pv.c11, QD.out.pv.c12, QD.out.pv.c13, QD.out.pv.c14, QD.out.pv.c15⟩ (fun hHeld => ?_)
      clear hK K
      try simp only [Act.put, List.setIfInBounds_toArray, List.set_cons_zero, List.set_cons_succ]
      refine wpAnyH_ready (rs := [20]) (by kernel_rfl) (by simp) ?_
      refine AllReadyH.cons (o := { dst := some 91, op := Op.call { callee := Callee.builtin Builtin.append, args := #[Operand.tmp 77, Operand.tmp 90], argTypes := #[33, 33] }, type := 33, pos := "ref.go:85", after := #[{ on := 6, ground := Ground.data }, { on := 19, ground := Ground.data }, { on := 6, ground := Ground.chain }], guard := none }) rfl (fun K hK => ?_) AllReadyH.nil
      refine step_app (by rfl) _ _ (by rfl) (by rfl) (by rfl) OD.out BD.out.1 (by simp [be_len]) QD.out.sz ?_
      intro vE WE oE gE _
      have QE : Hid (QSt w WE m) := QD.out.own (grown_below OD.out gE QD.out.sz)
      obtain ⟨aE, nE, cE, rfl⟩ := src_form oE.src
      have OE : Hid (Own WE (w.heap.size + 1) (.slice aE nE cE) ([0, 0, 2, 2] ++ [(F : Int)] ++ be 8 m.rt ++ be 4 m.co ++ be 8 m.br ++ be 2 m.po ++ [(m.a : Int), 0, (m.x : Int), 0, (m.h : Int), 0, (m.d : Int), 0])) := oE
      clear oE gE
      clear hHeld
      refine hK.out _ _ ⟨QE.out.pv.c11, QE.out.pv.c12, QE.out.pv.c13, QE.out.pv.c14, QE.out.pv.c15⟩ (fun hHeld => ?_)
      clear hK K
      try simp only [Act.put, List.setIfInBounds_toArray, List.set_cons_zero, List.set_cons_succ]
      refine wpAnyH_ready (rs := [21]) (by kernel_rfl) (by simp) ?_
      refine AllReadyH.cons (o := { dst := some 4, op := Op.assign (Operand.tmp 91), type := 33, pos := "ref.go:85", after := #[{ on := 20, ground := Ground.data }, { on := 20, ground := Ground.chain }, { on := 0, ground := Ground.phase }, { on := 1, ground := Ground.phase }, { on := 2, ground := Ground.phase }, { on := 3, ground := Ground.phase }, { on := 4, ground := Ground.phase }, { on := 5, ground := Ground.phase }, { on := 6, ground := Ground.phase }, { on := 7, ground := Ground.phase }, { on := 8, ground := Ground.phase }, { on := 9, ground := Ground.phase }, { on := 10, ground := Ground.phase }, { on := 11, ground := Ground.phase }, { on := 12, ground := Ground.phase }, { on := 13, ground := Ground.phase }, { on := 14, ground := Ground.phase }, { on := 15, ground := Ground.phase }, { on := 16, ground := Ground.phase }, { on := 17, ground := Ground.phase }, { on := 18, ground := Ground.phase }, { on := 19, ground := Ground.phase }, { on := 20, ground := Ground.phase }], guard := none }) rfl (fun K hK => ?_) AllReadyH.nil
      go_simp
      clear hHeld
      refine hK.out _ _ ⟨QE.out.pv.c11, QE.out.pv.c12, QE.out.pv.c13, QE.out.pv.c14, QE.out.pv.c15⟩ (fun hHeld => ?_)
      clear hK K
      try simp only [Act.put, List.setIfInBounds_toArray, List.set_cons_zero, List.set_cons_succ]
      refine wpAnyH_done (by kernel_rfl) ?_ _
      refine NoPanic.normal ?_
      clear hHeld
      have kz := QE.out.pv.c0
      rw [HM.out.2.2] at kz
      have OZ : Hid (Own (WE.alloc (.cells #[.int .u8 0] 5)) (w.heap.size + 1) (.slice aE nE cE) ([0, 0, 2, 2] ++ [(F : Int)] ++ be 8 m.rt ++ be 4 m.co ++ be 8 m.br ++ be 2 m.po ++ [(m.a : Int), 0, (m.x : Int), 0, (m.h : Int), 0, (m.d : Int), 0])) := own_alloc OE.out _
      have SZ : Hid (Src (WE.alloc (.cells #[.int .u8 0] 5)) (.slice (some ⟨WE.heap.size, 0, none⟩) 1 1) [0]) := (own_new WE [0] _ _ _ rfl rfl (Nat.le_refl _) (by simp)).src
      have QZ : Hid (QSt w (WE.alloc (.cells #[.int .u8 0] 5)) m) := QE.out.alloc _
      go_wp2_with (at_builtin; refine wpList_app rfl _ _ rfl (by rfl) (by rfl) OZ.out SZ.out (by simp [be_len]) QZ.out.sz ?_)
      intro vz Wz oz gz _
      have RZ : Hid (Own Wz w.heap.size vz (mbytes m) ∧ Below w.heap.size w Wz) := ⟨by rw [← HE.out]; exact oz.base (by omega), (QZ.out.own (grown_below OZ.out gz QZ.out.sz)).below⟩
      clear oz gz kz
      go_wp2
      go_ret2
      exact ⟨_, rfl, RZ.out.1, RZ.out.2⟩
    refine AllReadyH.cons (o := { dst := some 90, op := Op.buildSlice 33 8 #[(0, Operand.tmp 80), (1, Operand.const (Value.int IntKind.u8 0)), (2, Operand.tmp 83), (3, Operand.const (Value.int IntKind.u8 0)), (4, Operand.tmp 86), (5, Operand.const (Value.int IntKind.u8 0)), (6, Operand.tmp 89), (7, Operand.const (Value.int IntKind.u8 0))], type := 33, pos := "ref.go:85", after := #[{ on := 9, ground := Ground.data }, { on := 12, ground := Ground.data }, { on := 15, ground := Ground.data }, { on := 18, ground := Ground.data }], guard := none }) rfl (fun K hK => ?_) AllReadyH.nil
    go_simp
    have QC : Hid (QSt w (WB.alloc (.cells #[.int .u8 (m.a : Int), .int .u8 0, .int .u8 (m.x : Int), .int .u8 0, .int .u8 (m.h : Int), .int .u8 0, .int .u8 (m.d : Int), .int .u8 0] 5)) m) := QB.out.alloc _
    have OC : Hid (Own (WB.alloc (.cells #[.int .u8 (m.a : Int), .int .u8 0, .int .u8 (m.x : Int), .int .u8 0, .int .u8 (m.h : Int), .int .u8 0, .int .u8 (m.d : Int), .int .u8 0] 5)) (w.heap.size + 1) (.slice a9 n9 c9) ([0, 0, 2, 2] ++ [(F : Int)] ++ be 8 m.rt ++ be 4 m.co ++ be 8 m.br)) := own_alloc OB.out _
    have BC : Hid (Src (WB.alloc (.cells #[.int .u8 (m.a : Int), .int .u8 0, .int .u8 (m.x : Int), .int .u8 0, .int .u8 (m.h : Int), .int .u8 0, .int .u8 (m.d : Int), .int .u8 0] 5)) (.slice (some ⟨WB.heap.size, 0, none⟩) 8 8) [(m.a : Int), 0, (m.x : Int), 0, (m.h : Int), 0, (m.d : Int), 0] ∧ (WB.alloc (.cells #[.int .u8 (m.a : Int), .int .u8 0, .int .u8 (m.x : Int), .int .u8 0, .int .u8 (m.h : Int), .int .u8 0, .int .u8 (m.d : Int), .int .u8 0] 5)).heap[WB.heap.size]? = some (.cells #[.int .u8 (m.a : Int), .int .u8 0, .int .u8 (m.x : Int), .int .u8 0, .int .u8 (m.h : Int), .int .u8 0, .int .u8 (m.d : Int), .int .u8 0] 5 (0, 0))) := ⟨(own_new WB [(m.a : Int), 0, (m.x : Int), 0, (m.h : Int), 0, (m.d : Int), 0] _ _ _ rfl rfl (Nat.le_refl _) (by simp)).src, alloc_at WB _⟩
    have NC : Hid (∀ i, ((.slice a9 n9 c9) : Value).ownBlock = some i → i ≠ WB.heap.size) := fun i hi => by have := (OB.out.block i hi).2; omega
    have SC : Hid (Src (WB.alloc (.cells #[.int .u8 (m.a : Int), .int .u8 0, .int .u8 (m.x : Int), .int .u8 0, .int .u8 (m.h : Int), .int .u8 0, .int .u8 (m.d : Int), .int .u8 0] 5)) xB (be 2 m.po)) := src_alloc SB.out _
    clear hHeld
    refine hK.out _ _ ⟨QC.out.pv.c11, QC.out.pv.c12, QC.out.pv.c13, QC.out.pv.c14, QC.out.pv.c15⟩ (fun hHeld => ?_)
    clear hK K
    try simp only [Act.put, List.setIfInBounds_toArray, List.set_cons_zero, List.set_cons_succ]
    refine wpAnyH_ready (rs := [6]) (by kernel_rfl) (by simp) ?_
    refine AllReadyH.cons (o := { dst := some 77, op := Op.call { callee := Callee.builtin Builtin.append, args := #[Operand.tmp 71, Operand.tmp 76], argTypes := #[33, 33] }, type := 33, pos := "ref.go:85", after := #[{ on := 0, ground := Ground.data }, { on := 5, ground := Ground.data }, { on := 5, ground := Ground.chain }], guard := none }) rfl (fun K hK => ?_) AllReadyH.nil
    refine step_app (by rfl) _ _ (by rfl) (by rfl) (by rfl) OC.out SC.out (by simp [be_len]) QC.out.sz ?_
    intro vD WD oD gD _
    have QD : Hid (QSt w WD m) := QC.out.own (grown_below OC.out gD QC.out.sz)
    obtain ⟨aD, nD, cD, rfl⟩ := src_form oD.src
    have OD : Hid (Own WD (w.heap.size + 1) (.slice aD nD cD) ([0, 0, 2, 2] ++ [(F : Int)] ++ be 8 m.rt ++ be 4 m.co ++ be 8 m.br ++ be 2 m.po)) := oD
    have BD : Hid (Src WD (.slice (some ⟨WB.heap.size, 0, none⟩) 8 8) [(m.a : Int), 0, (m.x : Int), 0, (m.h : Int), 0, (m.d : Int), 0]) := src_grown BC.out.2 BC.out.1 OC.out gD NC.out
    clear oD gD
    clear hHeld
    refine hK.out _ _ ⟨QD.out.pv.c11, QD.out.pv.c12, QD.out.pv.c13, QD.out.pv.c14, QD.out.pv.c15⟩ (fun hHeld => ?_)
    clear hK K
    try simp only [Act.put, List.setIfInBounds_toArray, List.set_cons_zero, List.set_cons_succ]
    refine wpAnyH_ready (rs := [20]) (by kernel_rfl) (by simp) ?_
    refine AllReadyH.cons (o := { dst := some 91, op := Op.call { callee := Callee.builtin Builtin.append, args := #[Operand.tmp 77, Operand.tmp 90], argTypes := #[33, 33] }, type := 33, pos := "ref.go:85", after := #[{ on := 6, ground := Ground.data }, { on := 19, ground := Ground.data }, { on := 6, ground := Ground.chain }], guard := none }) rfl (fun K hK => ?_) AllReadyH.nil
    refine step_app (by rfl) _ _ (by rfl) (by rfl) (by rfl) OD.out BD.out (by simp [be_len]) QD.out.sz ?_
    intro vE WE oE gE _
    have QE : Hid (QSt w WE m) := QD.out.own (grown_below OD.out gE QD.out.sz)
    obtain ⟨aE, nE, cE, rfl⟩ := src_form oE.src
    have OE : Hid (Own WE (w.heap.size + 1) (.slice aE nE cE) ([0, 0, 2, 2] ++ [(F : Int)] ++ be 8 m.rt ++ be 4 m.co ++ be 8 m.br ++ be 2 m.po ++ [(m.a : Int), 0, (m.x : Int), 0, (m.h : Int), 0, (m.d : Int), 0])) := oE
    clear oE gE
    clear hHeld
    refine hK.out _ _ ⟨QE.out.pv.c11, QE.out.pv.c12, QE.out.pv.c13, QE.out.pv.c14, QE.out.pv.c15⟩ (fun hHeld => ?_)
    clear hK K
    try simp only [Act.put, List.setIfInBounds_toArray, List.set_cons_zero, List.set_cons_succ]
    refine wpAnyH_ready (rs := [21]) (by kernel_rfl) (by simp) ?_
    refine AllReadyH.cons (o := { dst := some 4, op := Op.assign (Operand.tmp 91), type := 33, pos := "ref.go:85", after := #[{ on := 20, ground := Ground.data }, { on := 20, ground := Ground.chain }, { on := 0, ground := Ground.phase }, { on := 1, ground := Ground.phase }, { on := 2, ground := Ground.phase }, { on := 3, ground := Ground.phase }, { on := 4, ground := Ground.phase }, { on := 5, ground := Ground.phase }, { on := 6, ground := Ground.phase }, { on := 7, ground := Ground.phase }, { on := 8, ground := Ground.phase }, { on := 9, ground := Ground.phase }, { on := 10, ground := Ground.phase }, { on := 11, ground := Ground.phase }, { on := 12, ground := Ground.phase }, { on := 13, ground := Ground.phase }, { on := 14, ground := Ground.phase }, { on := 15, ground := Ground.phase }, { on := 16, ground := Ground.phase }, { on := 17, ground := Ground.phase }, { on := 18, ground := Ground.phase }, { on := 19, ground := Ground.phase }, { on := 20, ground := Ground.phase }], guard := none }) rfl (fun K hK => ?_) AllReadyH.nil
    go_simp
    clear hHeld
    refine hK.out _ _ ⟨QE.out.pv.c11, QE.out.pv.c12, QE.out.pv.c13, QE.out.pv.c14, QE.out.pv.c15⟩ (fun hHeld => ?_)
    clear hK K
    try simp only [Act.put, List.setIfInBounds_toArray, List.set_cons_zero, List.set_cons_succ]
    refine wpAnyH_done (by kernel_rfl) ?_ _
    refine NoPanic.normal ?_
    clear hHeld
    have kz := QE.out.pv.c0
    rw [HM.out.2.2] at kz
    have OZ : Hid (Own (WE.alloc (.cells #[.int .u8 0] 5)) (w.heap.size + 1) (.slice aE nE cE) ([0, 0, 2, 2] ++ [(F : Int)] ++ be 8 m.rt ++ be 4 m.co ++ be 8 m.br ++ be 2 m.po ++ [(m.a : Int), 0, (m.x : Int), 0, (m.h : Int), 0, (m.d : Int), 0])) := own_alloc OE.out _
    have SZ : Hid (Src (WE.alloc (.cells #[.int .u8 0] 5)) (.slice (some ⟨WE.heap.size, 0, none⟩) 1 1) [0]) := (own_new WE [0] _ _ _ rfl rfl (Nat.le_refl _) (by simp)).src
    have QZ : Hid (QSt w (WE.alloc (.cells #[.int .u8 0] 5)) m) := QE.out.alloc _
    go_wp2_with (at_builtin; refine wpList_app rfl _ _ rfl (by rfl) (by rfl) OZ.out SZ.out (by simp [be_len]) QZ.out.sz ?_)
    intro vz Wz oz gz _
    have RZ : Hid (Own Wz w.heap.size vz (mbytes m) ∧ Below w.heap.size w Wz) := ⟨by rw [← HE.out]; exact oz.base (by omega), (QZ.out.own (grown_below OZ.out gz QZ.out.sz)).below⟩
    clear oz gz kz
    go_wp2
    go_ret2
    exact ⟨_, rfl, RZ.out.1, RZ.out.2⟩
  refine AllReadyH.cons (o := { dst := some 90, op := Op.buildSlice 33 8 #[(0, Operand.tmp 80), (1, Operand.const (Value.int IntKind.u8 0)), (2, Operand.tmp 83), (3, Operand.const (Value.int IntKind.u8 0)), (4, Operand.tmp 86), (5, Operand.const (Value.int IntKind.u8 0)), (6, Operand.tmp 89), (7, Operand.const (Value.int IntKind.u8 0))], type := 33, pos := "ref.go:85", after := #[{ on := 9, ground := Ground.data }, { on := 12, ground := Ground.data }, { on := 15, ground := Ground.data }, { on := 18, ground := Ground.data }], guard := none }) rfl (fun K hK => ?_) AllReadyH.nil
  go_simp
  have QB : Hid (QSt w (XA.alloc (.cells #[.int .u8 (m.a : Int), .int .u8 0, .int .u8 (m.x : Int), .int .u8 0, .int .u8 (m.h : Int), .int .u8 0, .int .u8 (m.d : Int), .int .u8 0] 5)) m) := QA.out.alloc _
  have OB : Hid (Own (XA.alloc (.cells #[.int .u8 (m.a : Int), .int .u8 0, .int .u8 (m.x : Int), .int .u8 0, .int .u8 (m.h : Int), .int .u8 0, .int .u8 (m.d : Int), .int .u8 0] 5)) (w.heap.size + 1) (.slice a9 n9 c9) ([0, 0, 2, 2] ++ [(F : Int)] ++ be 8 m.rt ++ be 4 m.co ++ be 8 m.br)) := own_alloc OA.out _
  have BB : Hid (Src (XA.alloc (.cells #[.int .u8 (m.a : Int), .int .u8 0, .int .u8 (m.x : Int), .int .u8 0, .int .u8 (m.h : Int), .int .u8 0, .int .u8 (m.d : Int), .int .u8 0] 5)) (.slice (some ⟨XA.heap.size, 0, none⟩) 8 8) [(m.a : Int), 0, (m.x : Int), 0, (m.h : Int), 0, (m.d : Int), 0] ∧ (XA.alloc (.cells #[.int .u8 (m.a : Int), .int .u8 0, .int .u8 (m.x : Int), .int .u8 0, .int .u8 (m.h : Int), .int .u8 0, .int .u8 (m.d : Int), .int .u8 0] 5)).heap[XA.heap.size]? = some (.cells #[.int .u8 (m.a : Int), .int .u8 0, .int .u8 (m.x : Int), .int .u8 0, .int .u8 (m.h : Int), .int .u8 0, .int .u8 (m.d : Int), .int .u8 0] 5 (0, 0))) := ⟨(own_new XA [(m.a : Int), 0, (m.x : Int), 0, (m.h : Int), 0, (m.d : Int), 0] _ _ _ rfl rfl (Nat.le_refl _) (by simp)).src, alloc_at XA _⟩
  have NB : Hid (∀ i, ((.slice a9 n9 c9) : Value).ownBlock = some i → i ≠ XA.heap.size) := fun i hi => by have := (OA.out.block i hi).2; omega
  clear hHeld
  refine hK.out _ _ ⟨QB.out.pv.c11, QB.out.pv.c12, QB.out.pv.c13, QB.out.pv.c14, QB.out.pv.c15⟩ (fun hHeld => ?_)
  clear hK K
  try simp only [Act.put, List.setIfInBounds_toArray, List.set_cons_zero, List.set_cons_succ]
  refine wpAnyH_ready (rs := [5]) (by kernel_rfl) (by simp) ?_
  refine AllReadyH.cons (o := { dst := some 76, op := Op.call { callee := Callee.value (Operand.func 26), args := #[Operand.tmp 75, Operand.const (Value.int IntKind.i64 2)], argTypes := #[24, 3] }, type := 33, pos := "ref.go:85", after := #[{ on := 4, ground := Ground.data }], guard := none }) rfl (fun K hK => ?_) AllReadyH.nil
  go_simp
  refine (put_ref m.po 2 _ (by omega) (by have := HM.out.1.po; omega)).mono ?_
  rintro _ WC ⟨xC, rfl, oC, bC⟩
  have QC : Hid (QSt w WC m) := QB.out.later bC
  have OC : Hid (Own WC (w.heap.size + 1) (.slice a9 n9 c9) ([0, 0, 2, 2] ++ [(F : Int)] ++ be 8 m.rt ++ be 4 m.co ++ be 8 m.br)) := OB.out.below bC
  have SC : Hid (Src WC xC (be 2 m.po)) := oC.src
  have BC : Hid (Src WC (.slice (some ⟨XA.heap.size, 0, none⟩) 8 8) [(m.a : Int), 0, (m.x : Int), 0, (m.h : Int), 0, (m.d : Int), 0] ∧ WC.heap[XA.heap.size]? = some (.cells #[.int .u8 (m.a : Int), .int .u8 0, .int .u8 (m.x : Int), .int .u8 0, .int .u8 (m.h : Int), .int .u8 0, .int .u8 (m.d : Int), .int .u8 0] 5 (0, 0))) := ⟨BB.out.1.below bC, (bC.block _ (lt_of_block BB.out.2)).trans BB.out.2⟩
  clear oC bC
  clear hHeld
  refine hK.out _ _ ⟨QC.out.pv.c11, QC.out.pv.c12, QC.out.pv.c13, QC.out.pv.c14, QC.out.pv.c15⟩ (fun hHeld => ?_)
  clear hK K
  try simp only [Act.put, List.setIfInBounds_toArray, List.set_cons_zero, List.set_cons_succ]
  refine wpAnyH_ready (rs := [6]) (by kernel_rfl) (by simp) ?_
  refine AllReadyH.cons (o := { dst := some 77, op := Op.call { callee := Callee.builtin Builtin.append, args := #[Operand.tmp 71, Operand.tmp 76], argTypes := #[33, 33] }, type := 33, pos := "ref.go:85", after := #[{ on := 0, ground := Ground.data }, { on := 5, ground := Ground.data }, { on := 5, ground := Ground.chain }], guard := none }) rfl (fun K hK => ?_) AllReadyH.nil
  refine step_app (by rfl) _ _ (by rfl) (by rfl) (by rfl) OC.out SC.out (by simp [be_len]) QC.out.sz ?_
  intro vD WD oD gD _
  have QD : Hid (QSt w WD m) := QC.out.own (grown_below OC.out gD QC.out.sz)
  obtain ⟨aD, nD, cD, rfl⟩ := src_form oD.src
  have OD : Hid (Own WD (w.heap.size + 1) (.slice aD nD cD) ([0, 0, 2, 2] ++ [(F : Int)] ++ be 8 m.rt ++ be 4 m.co ++ be 8 m.br ++ be 2 m.po)) := oD
  have BD : Hid (Src WD (.slice (some ⟨XA.heap.size, 0, none⟩) 8 8) [(m.a : Int), 0, (m.x : Int), 0, (m.h : Int), 0, (m.d : Int), 0]) := src_grown BC.out.2 BC.out.1 OC.out gD NB.out
  clear oD gD
  clear hHeld
  refine hK.out _ _ ⟨QD.out.pv.c11, QD.out.pv.c12, QD.out.pv.c13, QD.out.pv.c14, QD.out.pv.c15⟩ (fun hHeld => ?_)
  clear hK K
  try simp only [Act.put, List.setIfInBounds_toArray, List.set_cons_zero, List.set_cons_succ]
  refine wpAnyH_ready (rs := [20]) (by kernel_rfl) (by simp) ?_
  refine AllReadyH.cons (o := { dst := some 91, op := Op.call { callee := Callee.builtin Builtin.append, args := #[Operand.tmp 77, Operand.tmp 90], argTypes := #[33, 33] }, type := 33, pos := "ref.go:85", after := #[{ on := 6, ground := Ground.data }, { on := 19, ground := Ground.data }, { on := 6, ground := Ground.chain }], guard := none }) rfl (fun K hK => ?_) AllReadyH.nil
  refine step_app (by rfl) _ _ (by rfl) (by rfl) (by rfl) OD.out BD.out (by simp [be_len]) QD.out.sz ?_
  intro vE WE oE gE _
  have QE : Hid (QSt w WE m) := QD.out.own (grown_below OD.out gE QD.out.sz)
  obtain ⟨aE, nE, cE, rfl⟩ := src_form oE.src
  have OE : Hid (Own WE (w.heap.size + 1) (.slice aE nE cE) ([0, 0, 2, 2] ++ [(F : Int)] ++ be 8 m.rt ++ be 4 m.co ++ be 8 m.br ++ be 2 m.po ++ [(m.a : Int), 0, (m.x : Int), 0, (m.h : Int), 0, (m.d : Int), 0])) := oE
  clear oE gE
  clear hHeld
  refine hK.out _ _ ⟨QE.out.pv.c11, QE.out.pv.c12, QE.out.pv.c13, QE.out.pv.c14, QE.out.pv.c15⟩ (fun hHeld => ?_)
  clear hK K
  try simp only [Act.put, List.setIfInBounds_toArray, List.set_cons_zero, List.set_cons_succ]
  refine wpAnyH_ready (rs := [21]) (by kernel_rfl) (by simp) ?_
  refine AllReadyH.cons (o := { dst := some 4, op := Op.assign (Operand.tmp 91), type := 33, pos := "ref.go:85", after := #[{ on := 20, ground := Ground.data }, { on := 20, ground := Ground.chain }, { on := 0, ground := Ground.phase }, { on := 1, ground := Ground.phase }, { on := 2, ground := Ground.phase }, { on := 3, ground := Ground.phase }, { on := 4, ground := Ground.phase }, { on := 5, ground := Ground.phase }, { on := 6, ground := Ground.phase }, { on := 7, ground := Ground.phase }, { on := 8, ground := Ground.phase }, { on := 9, ground := Ground.phase }, { on := 10, ground := Ground.phase }, { on := 11, ground := Ground.phase }, { on := 12, ground := Ground.phase }, { on := 13, ground := Ground.phase }, { on := 14, ground := Ground.phase }, { on := 15, ground := Ground.phase }, { on := 16, ground := Ground.phase }, { on := 17, ground := Ground.phase }, { on := 18, ground := Ground.phase }, { on := 19, ground := Ground.phase }, { on := 20, ground := Ground.phase }], guard := none }) rfl (fun K hK => ?_) AllReadyH.nil
  go_simp
  clear hHeld
  refine hK.out _ _ ⟨QE.out.pv.c11, QE.out.pv.c12, QE.out.pv.c13, QE.out.pv.c14, QE.out.pv.c15⟩ (fun hHeld => ?_)
  clear hK K
  try simp only [Act.put, List.setIfInBounds_toArray, List.set_cons_zero, List.set_cons_succ]
  refine wpAnyH_done (by kernel_rfl) ?_ _
  refine NoPanic.normal ?_
  clear hHeld
  have kz := QE.out.pv.c0
  rw [HM.out.2.2] at kz
  have OZ : Hid (Own (WE.alloc (.cells #[.int .u8 0] 5)) (w.heap.size + 1) (.slice aE nE cE) ([0, 0, 2, 2] ++ [(F : Int)] ++ be 8 m.rt ++ be 4 m.co ++ be 8 m.br ++ be 2 m.po ++ [(m.a : Int), 0, (m.x : Int), 0, (m.h : Int), 0, (m.d : Int), 0])) := own_alloc OE.out _
  have SZ : Hid (Src (WE.alloc (.cells #[.int .u8 0] 5)) (.slice (some ⟨WE.heap.size, 0, none⟩) 1 1) [0]) := (own_new WE [0] _ _ _ rfl rfl (Nat.le_refl _) (by simp)).src
  have QZ : Hid (QSt w (WE.alloc (.cells #[.int .u8 0] 5)) m) := QE.out.alloc _
  go_wp2_with (at_builtin; refine wpList_app rfl _ _ rfl (by rfl) (by rfl) OZ.out SZ.out (by simp [be_len]) QZ.out.sz ?_)
  intro vz Wz oz gz _
  have RZ : Hid (Own Wz w.heap.size vz (mbytes m) ∧ Below w.heap.size w Wz) := ⟨by rw [← HE.out]; exact oz.base (by omega), (QZ.out.own (grown_below OZ.out gz QZ.out.sz)).below⟩
  clear oz gz kz
  go_wp2
  go_ret2
  exact ⟨_, rfl, RZ.out.1, RZ.out.2⟩

/-- The bytes of any message, or its error, by definition. -/
theorem bref_any (m : Bp) (w : World) (hm : m.wf) :
    Calls Tryd.prog 8 #[.agg m.cs] w fun r w' => ∃ s, r = .returned (.tuple #[s, .int .i64 (chkP m)]) ∧ Own w' w.heap.size s (mbO m) ∧ Below w.heap.size w w' := by
  unfold chkP mbO
  cases ho : okB m
  · refine (bref_no m w ho).mono ?_
    rintro _ w' ⟨rfl, hb⟩
    exact ⟨_, rfl, own_nil _ _, hb⟩
  · rcases ok_kind ho with h2 | h1 | h3
    · exact bref_tcn m w ho h2
    · exact bref_cfg m w hm ho h1
    · exact bref_rst m w hm ho h3
end Go.Proofs.YtfpoopllkmnagaaDoor
