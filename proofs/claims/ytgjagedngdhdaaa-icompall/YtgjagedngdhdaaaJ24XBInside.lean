/-
  The walks of what is within a frame of the backbone, and by definition: for every one. The walk of taking a service's tag, for all bytes. The walks of the methods that go over the bytes of a frame of the backbone.
-/
import Derived.Test.YtgjagedngdhdaaaJ23Rd
import Derived.Deep.RegionHeld3
import Derived.Test.YtgjagedngdhdaaaJ11XWhole
namespace Go.Proofs.Ytgjagedngdhdaaa

section
namespace S4
set_option linter.unusedVariables false
set_option maxRecDepth 4000
set_option linter.unusedSimpArgs false
open Go.RowKit

attribute [local go_sem ↓] slS_eq ldS_MAC ldS_Tag ldI27 ldS_BFrame ldS_Frame stS_Frame stS_BFrame nqS_eq eqS_eq

/-- The frame's variable and the one for the answer, a customer's. -/
structure In2 (w W : World) (f : Bf) (x : Value) : Prop where
  fr : BfAt W w.heap.size f x
  z : FrAt W (w.heap.size + 1) zeroF (.slice none 0 0)
  below : Below w.heap.size w W
theorem In2.new (w : World) (f : Bf) (x : Value) : In2 w ((w.alloc (.cells (bcs f x) 49)).alloc (.cells #[.int .u8 0, .int .u8 0, .int .u8 0, .int .u8 0, .int .u8 0, .int .u8 0, .int .u8 0, .int .u8 0, .int .u8 0, .int .u8 0, .int .u8 0, .int .u8 0, .bool false, .int .i64 0, .bool false, .int .i64 0, .slice none 0 0] 34)) f x where
  fr := (BfAt.new w f x).below ((Below.refl _ _).alloc (Nat.le_refl _) _)
  z := by have := zero_new (w.alloc (.cells (bcs f x) 49)); simpa using this
  below := ((Below.refl _ _).alloc (Nat.le_refl _) _).alloc (by simp) _
theorem In2.later {w W W' : World} {f : Bf} {x : Value} (h : In2 w W f x) (hb : Below W.heap.size W W') : In2 w W' f x := ⟨h.fr.below hb, h.z.below hb, below_over h.below hb⟩
theorem In2.zeroBelow {w W : World} {f : Bf} {x : Value} (h : In2 w W f x) (cs : Array Value) : Below w.heap.size w (W.setRow (w.heap.size + 1) cs) := below_setRow h.below (by omega) _
/-- The frame of zeros is stored for the answer. -/
theorem In2.zero {w W : World} {f : Bf} {x : Value} (h : In2 w W f x) : (stS 34 (.pointer (some ⟨w.heap.size + 1, 0, none⟩)) (.agg #[.int .u8 0, .int .u8 0, .int .u8 0, .int .u8 0, .int .u8 0, .int .u8 0, .int .u8 0, .int .u8 0, .int .u8 0, .int .u8 0, .int .u8 0, .int .u8 0, .bool false, .int .i64 0, .bool false, .int .i64 0, .slice none 0 0])).run Try.prog W = .ok () (W.setRow (w.heap.size + 1) (fcs zeroF (.slice none 0 0))) := h.z.st (g := zeroF) (y := .slice none 0 0) rfl

theorem store_new (W : World) (g : Fr) (y : Value) (hy : y.oneCell' = true) :
    ∃ W', (stS 34 (.pointer (some ⟨W.heap.size, 0, none⟩)) (.agg (fcs g y))).run Try.prog (W.alloc (.cells #[.int .u8 0, .int .u8 0, .int .u8 0, .int .u8 0, .int .u8 0, .int .u8 0, .int .u8 0, .int .u8 0, .int .u8 0, .int .u8 0, .int .u8 0, .int .u8 0, .bool false, .int .i64 0, .bool false, .int .i64 0, .slice none 0 0] 34)) = .ok () W' ∧ FrAt W' W.heap.size g y ∧ Below W.heap.size W W' :=
  ⟨_, (zero_new W).st hy, (zero_new W).set, below_setRow ((Below.refl _ _).alloc (Nat.le_refl _) _) (Nat.le_refl _) _⟩

set_option maxHeartbeats 1000000 in
theorem inside_any (f : Bf) (a : Option Addr) (n c : Nat) (l : List Int) (w : World) (h : Src w (.slice a n c) l) (hl : l.length ≤ 2000) :
    Calls Try.prog 82 #[.agg (bcs f (.slice a n c))] w fun r w' => ∃ s, r = .returned (.agg (fcs f.inn s)) ∧ Own w' w.heap.size s l ∧ Below w.heap.size w w' := by
  have h0 := In2.new w f (.slice a n c)
  have ld := h0.fr.ld
  have T0 : Hid (In2 w ((w.alloc (.cells (bcs f (.slice a n c)) 49)).alloc (.cells #[.int .u8 0, .int .u8 0, .int .u8 0, .int .u8 0, .int .u8 0, .int .u8 0, .int .u8 0, .int .u8 0, .int .u8 0, .int .u8 0, .int .u8 0, .int .u8 0, .bool false, .int .i64 0, .bool false, .int .i64 0, .slice none 0 0] 34)) f (.slice a n c)) := h0
  have S0 : Hid (Src w (.slice a n c) l ∧ l.length ≤ 2000) := ⟨h, hl⟩
  clear h hl h0
  go_enter Try.func82, Try.ntmps82
  go_wp2_with fail
  refine (within_any f a n c _).mono ?_
  rintro _ W ⟨rfl, hW⟩
  obtain ⟨W1, st1, F1, B1⟩ := store_new W f.inn (.slice a n c) rfl
  have T1 : Hid (In2 w W1 f (.slice a n c)) := T0.out.later (below_over hW B1)
  have HF1 : Hid (FrAt W1 W.heap.size f.inn (.slice a n c) ∧ w.heap.size + 1 < W.heap.size) := ⟨F1, (T0.out.later hW).z.lt⟩
  have c16 := F1.c16
  clear hW F1 B1 T0 ld
  go_wp2_with fail
  refine (clone_any a n c l _ (S0.out.1.below T1.out.below) S0.out.2).mono ?_
  rintro _ W2 ⟨s2, rfl, ho2, hb2⟩
  obtain ⟨a2, n2, c2, rfl⟩ := src_form ho2.src
  have T2 : Hid (In2 w W2 f (.slice a n c)) := T1.out.later hb2
  have F2 : Hid (FrAt W2 W.heap.size f.inn (.slice a n c)) := HF1.out.1.below hb2
  have O2 : Hid (Own W2 w.heap.size (.slice a2 n2 c2) l ∧ ∀ k, (Value.slice a2 n2 c2).ownBlock = some k → W.heap.size < k) := ⟨ho2.base T1.out.below.size, fun k hk => by have h1 := (ho2.block k hk).1; have h2 := HF1.out.1.lt; omega⟩
  have d16 := F2.out.c16
  have lv := F2.out.live
  have hlt := HF1.out.2
  have ne1 : ¬ W.heap.size = w.heap.size + 1 := by omega
  have h3 : FrAt (W2.setCell ⟨W.heap.size, 16, none⟩ (.slice a2 n2 c2)) W.heap.size f.inn (.slice a2 n2 c2) := F2.out.rest _
  have ld3 := h3.ld
  have T3 : In2 w (W2.setCell ⟨W.heap.size, 16, none⟩ (.slice a2 n2 c2)) f (.slice a n c) := ⟨T2.out.fr.apart (by simp; omega) _, T2.out.z.apart (by simp; omega) _, T2.out.below.setCell (by simp; omega) _⟩
  have st3 := T3.z.st (g := f.inn) (y := .slice a2 n2 c2) rfl
  have HZ : Hid _ := And.intro (T3.z.set (g := f.inn) (y := .slice a2 n2 c2)) (T3.zeroBelow (fcs f.inn (.slice a2 n2 c2)))
  have HL : Hid (w.heap.size + 1 < W.heap.size) := hlt
  clear ho2 hb2 T1 HF1 c16 T2 F2 h3 T3 hlt
  go_wp2
  refine bodyPost_ret (results_one Try.results82 _ _ _ _ _ rfl HZ.out.1) rfl ?_
  refine ⟨_, rfl, ?_, HZ.out.2⟩
  refine O2.out.1.of_block fun k hk => ?_
  have h1 := O2.out.2 k hk
  have h2 := HL.out
  rw [setRow_other _ _ _ _ (by omega), heap_setCell_other _ _ _ _ (by simp; omega)]

/-- What is read of the frame's variable. -/
theorem BfAt.ins {w' : World} {b : Nat} {f : Bf} {z : Value} (h : BfAt w' b f z) : (ldS 23 (.pointer (some ⟨b, 19, none⟩))).run Try.prog w' = .ok (.agg #[.int .u8 f.x.a, .int .u8 f.x.b, .int .u8 f.x.c, .int .u8 f.x.d, .int .u8 f.x.e, .int .u8 f.x.f]) w' ∧ (ldS 23 (.pointer (some ⟨b, 25, none⟩))).run Try.prog w' = .ok (.agg #[.int .u8 f.y.a, .int .u8 f.y.b, .int .u8 f.y.c, .int .u8 f.y.d, .int .u8 f.y.e, .int .u8 f.y.f]) w' ∧ w'.cell? ⟨b, 31, none⟩ = some z := ⟨h.ldx, h.ldy, h.c31⟩

set_option maxHeartbeats 2000000 in
theorem insideref_any (f : Bf) (a : Option Addr) (n c : Nat) (l : List Int) (w : World) (h : Src w (.slice a n c) l) (hl : l.length ≤ 2000) :
    Calls Try.prog 97 #[.agg (bcs f (.slice a n c))] w fun r w' => ∃ s, r = .returned (.agg (fcs f.inn s)) ∧ Own w' w.heap.size s l ∧ Below w.heap.size w w' := by
  have h0 := In2.new w f (.slice a n c)
  obtain ⟨W0, hW0⟩ : ∃ W0, ((w.alloc (.cells (bcs f (.slice a n c)) 49)).alloc (.cells #[.int .u8 0, .int .u8 0, .int .u8 0, .int .u8 0, .int .u8 0, .int .u8 0, .int .u8 0, .int .u8 0, .int .u8 0, .int .u8 0, .int .u8 0, .int .u8 0, .bool false, .int .i64 0, .bool false, .int .i64 0, .slice none 0 0] 34)) = W0 := ⟨_, rfl⟩
  have HZ0 : Hid (W0.heap.size = w.heap.size + 2) := by rw [← hW0]; show _ = _; simp
  rw [hW0] at h0
  have D0 : Below W0.heap.size W0 W0.drew := (Below.refl _ _).drew
  have A0 : Below W0.heap.size W0 (W0.alloc (.cells #[] 5)).drew := ((Below.refl _ _).alloc (Nat.le_refl _) _).drew
  have T1 : Hid (In2 w W0.drew f (.slice a n c)) := h0.later D0
  have T2 : Hid (In2 w (W0.alloc (.cells #[] 5)).drew f (.slice a n c)) := h0.later A0
  have HA : Hid (Below W0.heap.size W0 (W0.alloc (.cells #[] 5)).drew) := A0
  have HO : Hid (Own (W0.alloc (.cells #[] 5)).drew W0.heap.size (.slice (some ⟨W0.heap.size, 0, none⟩) 0 0) []) := own_empty W0 _ (Nat.le_refl _)
  have HT : Hid (In2 w W0 f (.slice a n c)) := h0
  have HS : Hid (Src (W0.alloc (.cells #[] 5)).drew (.slice a n c) l) := h.below T2.out.below
  have hlen : ([] : List Int).length + l.length ≤ 100000 := by simp; omega
  have hsz : Hid (W0.heap.size ≤ (W0.alloc (.cells #[] 5)).drew.heap.size) := A0.size
  clear h hl h0 D0 A0
  go_enter Try.func97, Try.ntmps97
  go_wp2
  clear hW0
  refine wp_region_noPanic ?_
  refine wp_region_held_drew (S := fun w' => (ldS 23 (.pointer (some ⟨w.heap.size, 19, none⟩))).run Try.prog w' = .ok (.agg #[.int .u8 f.x.a, .int .u8 f.x.b, .int .u8 f.x.c, .int .u8 f.x.d, .int .u8 f.x.e, .int .u8 f.x.f]) w' ∧ (ldS 23 (.pointer (some ⟨w.heap.size, 25, none⟩))).run Try.prog w' = .ok (.agg #[.int .u8 f.y.a, .int .u8 f.y.b, .int .u8 f.y.c, .int .u8 f.y.d, .int .u8 f.y.e, .int .u8 f.y.f]) w' ∧ w'.cell? ⟨w.heap.size, 31, none⟩ = some (.slice a n c)) (by kernel_rfl) T1.out.fr.ins (fun hHeld => ?_)
  refine wpAnyH_take (i := 0) (oi := { dst := some 3, op := Op.fieldAddr 49 (Operand.tmp 1) 3, type := 0, pos := "ref.go:13", after := #[], guard := none }) (v := ?_) rfl (by kernel_rfl) (by kernel_rfl) (by kernel_rfl) (fun _ _ _ h => h) (Or.inl ⟨by rfl, ?_⟩) hHeld ?_
  rotate_left
  · intro W hSw
    obtain ⟨lx, ly, c31⟩ := hSw
    first | (go_simp; done) | (go_simp; with_reducible rfl)
  rotate_left
  try simp only [Act.put, List.setIfInBounds_toArray, List.set_cons_zero, List.set_cons_succ]
  refine wpAnyH_take (i := 1) (oi := { dst := some 4, op := Op.fieldAddr 47 (Operand.tmp 3) 4, type := 0, pos := "ref.go:13", after := #[{ on := 0, ground := Ground.data }], guard := none }) (v := ?_) rfl (by kernel_rfl) (by kernel_rfl) (by kernel_rfl) (fun _ _ _ h => h) (Or.inl ⟨by rfl, ?_⟩) hHeld ?_
  rotate_left
  · intro W hSw
    obtain ⟨lx, ly, c31⟩ := hSw
    first | (go_simp; done) | (go_simp; with_reducible rfl)
  rotate_left
  try simp only [Act.put, List.setIfInBounds_toArray, List.set_cons_zero, List.set_cons_succ]
  refine wpAnyH_take (i := 2) (oi := { dst := some 5, op := Op.load 23 (Operand.tmp 4), type := 23, pos := "ref.go:13", after := #[{ on := 1, ground := Ground.data }], guard := none }) (v := ?_) rfl (by kernel_rfl) (by kernel_rfl) (by kernel_rfl) (fun _ _ _ h => h) (Or.inl ⟨by rfl, ?_⟩) hHeld ?_
  rotate_left
  · intro W hSw
    obtain ⟨lx, ly, c31⟩ := hSw
    first | (go_simp; done) | (go_simp; with_reducible rfl)
  rotate_left
  try simp only [Act.put, List.setIfInBounds_toArray, List.set_cons_zero, List.set_cons_succ]
  refine wpAnyH_take (i := 3) (oi := { dst := some 6, op := Op.fieldAddr 49 (Operand.tmp 1) 3, type := 0, pos := "ref.go:13", after := #[], guard := none }) (v := ?_) rfl (by kernel_rfl) (by kernel_rfl) (by kernel_rfl) (fun _ _ _ h => h) (Or.inl ⟨by rfl, ?_⟩) hHeld ?_
  rotate_left
  · intro W hSw
    obtain ⟨lx, ly, c31⟩ := hSw
    first | (go_simp; done) | (go_simp; with_reducible rfl)
  rotate_left
  try simp only [Act.put, List.setIfInBounds_toArray, List.set_cons_zero, List.set_cons_succ]
  refine wpAnyH_take (i := 4) (oi := { dst := some 7, op := Op.fieldAddr 47 (Operand.tmp 6) 5, type := 0, pos := "ref.go:13", after := #[{ on := 3, ground := Ground.data }], guard := none }) (v := ?_) rfl (by kernel_rfl) (by kernel_rfl) (by kernel_rfl) (fun _ _ _ h => h) (Or.inl ⟨by rfl, ?_⟩) hHeld ?_
  rotate_left
  · intro W hSw
    obtain ⟨lx, ly, c31⟩ := hSw
    first | (go_simp; done) | (go_simp; with_reducible rfl)
  rotate_left
  try simp only [Act.put, List.setIfInBounds_toArray, List.set_cons_zero, List.set_cons_succ]
  refine wpAnyH_take (i := 5) (oi := { dst := some 8, op := Op.load 23 (Operand.tmp 7), type := 23, pos := "ref.go:13", after := #[{ on := 4, ground := Ground.data }], guard := none }) (v := ?_) rfl (by kernel_rfl) (by kernel_rfl) (by kernel_rfl) (fun _ _ _ h => h) (Or.inl ⟨by rfl, ?_⟩) hHeld ?_
  rotate_left
  · intro W hSw
    obtain ⟨lx, ly, c31⟩ := hSw
    first | (go_simp; done) | (go_simp; with_reducible rfl)
  rotate_left
  try simp only [Act.put, List.setIfInBounds_toArray, List.set_cons_zero, List.set_cons_succ]
  refine wpAnyH_take (i := 7) (oi := { dst := some 10, op := Op.fieldAddr 49 (Operand.tmp 1) 4, type := 0, pos := "ref.go:13", after := #[], guard := none }) (v := ?_) rfl (by kernel_rfl) (by kernel_rfl) (by kernel_rfl) (fun _ _ _ h => h) (Or.inl ⟨by rfl, ?_⟩) hHeld ?_
  rotate_left
  · intro W hSw
    obtain ⟨lx, ly, c31⟩ := hSw
    first | (go_simp; done) | (go_simp; with_reducible rfl)
  rotate_left
  try simp only [Act.put, List.setIfInBounds_toArray, List.set_cons_zero, List.set_cons_succ]
  refine wpAnyH_take (i := 8) (oi := { dst := some 11, op := Op.load 30 (Operand.tmp 10), type := 30, pos := "ref.go:13", after := #[{ on := 7, ground := Ground.data }], guard := none }) (v := ?_) rfl (by kernel_rfl) (by kernel_rfl) (by kernel_rfl) (fun _ _ _ h => h) (Or.inl ⟨by rfl, ?_⟩) hHeld ?_
  rotate_left
  · intro W hSw
    obtain ⟨lx, ly, c31⟩ := hSw
    first | (go_simp; done) | (go_simp; with_reducible rfl)
  rotate_left
  try simp only [Act.put, List.setIfInBounds_toArray, List.set_cons_zero, List.set_cons_succ]
  refine wpAnyH_ready (rs := [6]) (by kernel_rfl) (by simp) ?_
  refine AllReadyH.cons (o := { dst := some 9, op := Op.buildSlice 30 0 #[], type := 30, pos := "ref.go:13", after := #[], guard := none }) rfl (fun K hK => ?_) AllReadyH.nil
  go_simp
  clear hHeld
  refine hK.out _ _ T2.out.fr.ins (fun hHeld => ?_)
  clear hK K
  try simp only [Act.put, List.setIfInBounds_toArray, List.set_cons_zero, List.set_cons_succ]
  refine wpAnyH_ready (rs := [9]) (by kernel_rfl) (by simp) ?_
  refine AllReadyH.cons (o := { dst := some 12, op := Op.call { callee := Callee.builtin Builtin.append, args := #[Operand.tmp 9, Operand.tmp 11], argTypes := #[30, 30] }, type := 30, pos := "ref.go:13", after := #[{ on := 6, ground := Ground.data }, { on := 8, ground := Ground.data }], guard := none }) rfl (fun K hK => ?_) AllReadyH.nil
  refine step_app (by rfl) _ _ (by rfl) (by rfl) (by rfl) HO.out HS.out hlen hsz.out ?_
  intro s7 w7 ho7 hg7 hat7
  have hb7 := HA.out.trans ((grown_below HO.out hg7 hsz.out).mono (Nat.le_refl _))
  obtain ⟨a7, n7, c7, rfl⟩ := src_form ho7.src
  have T7 : Hid (In2 w w7 f (.slice a n c)) := HT.out.later hb7
  have O7 : Hid (Own w7 W0.heap.size (.slice a7 n7 c7) l) := ho7
  clear ho7 hg7 hat7 hb7
  clear hHeld
  refine hK.out _ _ T7.out.fr.ins (fun hHeld => ?_)
  clear hK K
  try simp only [Act.put, List.setIfInBounds_toArray, List.set_cons_zero, List.set_cons_succ]
  refine wpAnyH_take (i := 10) (oi := { dst := some 13, op := Op.build 34 #[(0, Operand.tmp 5), (1, Operand.tmp 8), (4, Operand.tmp 12)], type := 34, pos := "ref.go:13", after := #[{ on := 2, ground := Ground.data }, { on := 5, ground := Ground.data }, { on := 9, ground := Ground.data }], guard := none }) (v := ?_) rfl (by kernel_rfl) (by kernel_rfl) (by kernel_rfl) (fun _ _ _ h => h) (Or.inl ⟨by rfl, ?_⟩) hHeld ?_
  rotate_left
  · intro W hSw
    obtain ⟨lx, ly, c31⟩ := hSw
    first | (go_simp; done) | (go_simp; with_reducible rfl)
  rotate_left
  try simp only [Act.put, List.setIfInBounds_toArray, List.set_cons_zero, List.set_cons_succ]
  refine wpAnyH_ready (rs := [11]) (by kernel_rfl) (by simp) ?_
  refine AllReadyH.cons (o := { dst := none, op := Op.store 34 (Operand.tmp 2) (Operand.tmp 13), type := 0, pos := "ref.go:13", after := #[{ on := 10, ground := Ground.data }, { on := 9, ground := Ground.chain }, { on := 0, ground := Ground.phase }, { on := 1, ground := Ground.phase }, { on := 2, ground := Ground.phase }, { on := 3, ground := Ground.phase }, { on := 4, ground := Ground.phase }, { on := 5, ground := Ground.phase }, { on := 6, ground := Ground.phase }, { on := 7, ground := Ground.phase }, { on := 8, ground := Ground.phase }, { on := 9, ground := Ground.phase }, { on := 10, ground := Ground.phase }], guard := none }) rfl (fun K hK => ?_) AllReadyH.nil
  have st7 := T7.out.z.stv (g := f.inn) (y := .slice a7 n7 c7) rfl (.agg #[.int .u8 f.x.a, .int .u8 f.x.b, .int .u8 f.x.c, .int .u8 f.x.d, .int .u8 f.x.e, .int .u8 f.x.f, .int .u8 f.y.a, .int .u8 f.y.b, .int .u8 f.y.c, .int .u8 f.y.d, .int .u8 f.y.e, .int .u8 f.y.f, .bool false, .int .i64 0, .bool false, .int .i64 0, .slice a7 n7 c7]) rfl
  go_simp
  clear hHeld
  refine hK.out _ _ (T7.out.fr.other (by omega) _).ins (fun hHeld => ?_)
  clear hK K
  try simp only [Act.put, List.setIfInBounds_toArray, List.set_cons_zero, List.set_cons_succ]
  refine wpAnyH_done (by kernel_rfl) ?_ _
  refine NoPanic.normal ?_
  clear hHeld
  have HZ : Hid _ := And.intro (T7.out.z.set (g := f.inn) (y := .slice a7 n7 c7)) (T7.out.zeroBelow (fcs f.inn (.slice a7 n7 c7)))
  go_wp2
  refine bodyPost_ret (results_one Try.results97 _ _ _ _ _ rfl HZ.out.1) rfl ?_
  refine ⟨_, rfl, ?_, HZ.out.2⟩
  have hz0 := HZ0.out
  refine (O7.out.of_block fun k hk => ?_).base (by omega)
  have h1 := (O7.out.block k hk).1
  rw [setRow_other _ _ _ _ (by omega)]
end S4
end

section
namespace S4
set_option linter.unusedVariables false
set_option maxRecDepth 4000
set_option linter.unusedSimpArgs false
open Go.RowKit

attribute [local go_sem ↓] ldS27_eq stS27_eq slS_eq

theorem four_bytes {l : List Int} (h2 : 16 ≤ l.length) (hb : ∀ x ∈ l, 0 ≤ x ∧ x ≤ 255) :
    ∃ N A B C E : Nat, l.getD 0 0 = (A : Int) ∧ l.getD 1 0 = (B : Int) ∧ l.getD 2 0 = (C : Int) ∧ l.getD 3 0 = (E : Int) ∧ A < 256 ∧ B < 256 ∧ C < 256 ∧ E < 256 ∧ N = ((A * 256 + B) * 256 + C) * 256 + E ∧ (∀ j, j < 4 → byN 4 N j = l.getD j 0) := by
  match l, h2 with
  | x :: y :: z :: u :: r, _ =>
    have hx := hb x (by simp)
    have hy := hb y (by simp)
    have hz := hb z (by simp)
    have hu := hb u (by simp)
    obtain ⟨X, rfl⟩ := Int.eq_ofNat_of_zero_le hx.1
    obtain ⟨Y, rfl⟩ := Int.eq_ofNat_of_zero_le hy.1
    obtain ⟨Z, rfl⟩ := Int.eq_ofNat_of_zero_le hz.1
    obtain ⟨U, rfl⟩ := Int.eq_ofNat_of_zero_le hu.1
    refine ⟨_, X, Y, Z, U, rfl, rfl, rfl, rfl, by omega, by omega, by omega, by omega, rfl, ?_⟩
    intro j hj
    have hj' : j = 0 ∨ j = 1 ∨ j = 2 ∨ j = 3 := by omega
    rcases hj' with rfl | rfl | rfl | rfl
    all_goals (unfold byN; simp; omega)

end S4
end

section
namespace S4
set_option linter.unusedVariables false
set_option maxRecDepth 4000
set_option linter.unusedSimpArgs false
open Go.RowKit

/-- Six bytes from the k-th on. -/
def bm6 (l : List Int) (k : Nat) : M6 := ⟨gt l k, gt l (k + 1), gt l (k + 2), gt l (k + 3), gt l (k + 4), gt l (k + 5)⟩
theorem bgt_ok {l : List Int} (hb : ∀ x ∈ l, 0 ≤ x ∧ x ≤ 255) (k : Nat) : 0 ≤ gt l k ∧ gt l k ≤ 255 := by
  unfold gt
  by_cases h : k < l.length
  · rw [List.getD_eq_getElem?_getD, List.getElem?_eq_getElem h]
    exact hb _ (List.getElem_mem h)
  · rw [List.getD_eq_getElem?_getD, List.getElem?_eq_none (by omega)]
    simp
theorem bm6_ok {l : List Int} (hb : ∀ x ∈ l, 0 ≤ x ∧ x ≤ 255) (k : Nat) : (bm6 l k).ok := by
  intro x hx
  simp only [M6.l, bm6, List.mem_cons, List.not_mem_nil, or_false] at hx
  rcases hx with rfl | rfl | rfl | rfl | rfl | rfl <;> exact bgt_ok hb _
theorem blist6 {l : List Int} {k : Nat} (h : k + 6 ≤ l.length) : (l.drop k).take 6 = (bm6 l k).l := by
  apply List.ext_getElem?
  intro j
  by_cases hj : j < 6
  · have e : (bm6 l k).l[j]? = some (gt l (k + j)) := by
      have hj' : j = 0 ∨ j = 1 ∨ j = 2 ∨ j = 3 ∨ j = 4 ∨ j = 5 := by omega
      rcases hj' with rfl | rfl | rfl | rfl | rfl | rfl <;> rfl
    rw [e, List.getElem?_take_of_lt hj, List.getElem?_drop]
    unfold gt
    rw [List.getD_eq_getElem?_getD, List.getElem?_eq_getElem (by omega)]
    rfl
  · rw [List.getElem?_eq_none (by simp; omega), List.getElem?_eq_none (by simp [M6.l]; omega)]

/-- A type whose values are rows of n cells. -/
structure RowTy (ty n : Nat) : Prop where
  info : (Try.prog.info? ty).map (·.size) = some n
  und : ∃ d, Try.prog.underlying ty = some d ∧ d.isRow = true
theorem rt_MAC : RowTy 23 6 := ⟨info_MAC, _, Try.underlying23, rfl⟩
theorem rt_Tag : RowTy 32 3 := ⟨info_Tag, _, Try.underlying32, rfl⟩
theorem rt_ITag : RowTy 47 16 := ⟨info_ITag, _, Try.underlying47, rfl⟩
/-- Block b is the variable of such a value. -/
def RvAt (W : World) (b : Nat) (ty : TypeId) (cs : Array Value) : Prop := W.heap[b]? = some (.cells cs ty (0, 0))
theorem RvAt.lt {W : World} {b : Nat} {ty : TypeId} {cs : Array Value} (h : RvAt W b ty cs) : b < W.heap.size := lt_of_block h
theorem RvAt.below {W W' : World} {b : Nat} {ty : TypeId} {cs : Array Value} (h : RvAt W b ty cs) (hb : Below W.heap.size W W') : RvAt W' b ty cs := (hb.block b h.lt).trans h
theorem RvAt.lv {W : World} {b n : Nat} {ty : TypeId} {cs : Array Value} (t : RowTy ty n) (h : RvAt W b ty cs) (hn : cs.size = n) : (loadVar ty ⟨b, 0, none⟩).run Try.prog W = .ok (.agg cs) W := by
  obtain ⟨d, hd, hr⟩ := t.und
  cases d <;> first | exact run_loadVar_row (P := Try.prog) W b ty ty cs (0, 0) _ h hd rfl (by rw [hn]; exact t.info) | (cases hr; done)
theorem RvAt.ld {W : World} {b n : Nat} {ty : TypeId} {cs : Array Value} (t : RowTy ty n) (h : RvAt W b ty cs) (hn : cs.size = n) : (ldS ty (.pointer (some ⟨b, 0, none⟩))).run Try.prog W = .ok (.agg cs) W := by
  have := h.lv t hn
  unfold ldS
  simp only [Instr.loadAt, Instr.sureAddr, Sem.run_bind, Sem.run_pure, Result.andThen_ok, this]
theorem RvAt.st {W : World} {b n : Nat} {ty : TypeId} {cs ds : Array Value} (t : RowTy ty n) (h : RvAt W b ty cs) (hn : cs.size = n) (hd : ds.size = n) (h1 : ∀ v ∈ ds.toList, v.oneCell' = true) :
    (stS ty (.pointer (some ⟨b, 0, none⟩)) (.agg ds)).run Try.prog W = .ok () (W.setRow b ds) := by
  have := store_cells (ty := ty) (o := 0) (cs := ds) h (by rw [hd]; exact t.info) (by omega) h1
  rw [this]
  have e : cs.toList.drop (0 + ds.size) = [] := List.drop_eq_nil_of_le (by simp; omega)
  rw [e]
  simp
theorem RvAt.set {W : World} {b : Nat} {ty : TypeId} {cs ds : Array Value} (h : RvAt W b ty cs) : RvAt (W.setRow b ds) b ty ds := setRow_heap W b cs ds ty (0, 0) h
theorem row_new {ty : TypeId} {n : Nat} (t : RowTy ty n) (W : World) (z cs : Array Value) (hz : z.size = n) (hn : cs.size = n) (h1 : ∀ v ∈ cs.toList, v.oneCell' = true) :
    ∃ W', (stS ty (.pointer (some ⟨W.heap.size, 0, none⟩)) (.agg cs)).run Try.prog (W.alloc (.cells z ty)) = .ok () W' ∧ RvAt W' W.heap.size ty cs ∧ Below W.heap.size W W' ∧ W'.heap.size = W.heap.size + 1 :=
  have h : RvAt (W.alloc (.cells z ty)) W.heap.size ty z := alloc_at W _
  ⟨_, h.st t hz hn h1, h.set, below_setRow ((Below.refl _ _).alloc (Nat.le_refl _) _) (Nat.le_refl _) _, by simp⟩
theorem results_row {fn : Func} {k n : Nat} {ty : TypeId} (t : RowTy ty n) (hr : fn.results = #[.cell k ty]) (tmps : Array Value) (w : World) (b : Nat) (cs : Array Value) (h2 : tmps.getD k undef = .pointer (some ⟨b, 0, none⟩)) (h : RvAt w b ty cs) (hn : cs.size = n) :
    (results fn tmps).run Try.prog w = .ok (.agg cs) w := by
  have hl := h.lv t hn
  have h2' : tmps[k]?.getD undef = .pointer (some ⟨b, 0, none⟩) := by simpa using h2
  simp [results, hr, asAddr, hl, h2']

/-- W' is W but for block b and what is new. -/
structure Wk (W : World) (b : Nat) (W' : World) : Prop where
  lo : Below b W W'
  hi : ∀ k, b < k → k < W.heap.size → W'.heap[k]? = W.heap[k]?
theorem Wk.of {W W' : World} {b : Nat} (h : Below W.heap.size W W') (hb : b < W.heap.size) : Wk W b W' := ⟨h.mono (by omega), fun k _ hk => h.block k hk⟩
theorem Wk.trans {W W1 W2 : World} {b : Nat} (h : Wk W b W1) (k : Wk W1 b W2) : Wk W b W2 := ⟨h.lo.trans k.lo, fun i hi hs => (k.hi i hi (by have := h.lo.size; omega)).trans (h.hi i hi hs)⟩
theorem Wk.cell (W : World) (b o : Nat) (v : Value) : Wk W b (W.setCell ⟨b, o, none⟩ v) := ⟨(Below.refl _ _).setCell (by simp) _, fun k hk _ => heap_setCell_other _ _ _ _ (by simp; omega)⟩
theorem Wk.below {w W W' : World} {b : Nat} (h : Wk W b W') (hw : w.heap.size ≤ b) (hb : Below w.heap.size w W) : Below w.heap.size w W' := hb.trans (h.lo.mono hw)
theorem Wk.block {W W' : World} {b k : Nat} (h : Wk W b W') (hk : k < W.heap.size) (hn : k ≠ b) : W'.heap[k]? = W.heap[k]? := by
  rcases Nat.lt_or_ge k b with h1 | h1
  · exact h.lo.block k h1
  · exact h.hi k (by omega) hk
theorem Wk.row {W W' : World} {b k : Nat} {ty : TypeId} {cs : Array Value} (h : Wk W b W') (r : RvAt W k ty cs) (hn : k ≠ b) : RvAt W' k ty cs := (h.block r.lt hn).trans r
theorem Wk.bf {W W' : World} {b k : Nat} {f : Bf} {z : Value} (h : Wk W b W') (r : BfAt W k f z) (hn : k ≠ b) : BfAt W' k f z := (h.block r.lt hn).trans r
theorem Wk.own {W W' : World} {b B : Nat} {v : Value} {l : List Int} (h : Wk W b W') (r : Own W B v l) (hn : b < B) : Own W' B v l :=
  r.of_block fun k hk => h.block (r.block k hk).2 (by have := (r.block k hk).1; omega)

attribute [local go_sem ↓] slS_eq ldS_MAC ldS_Tag ldI27 ldS_BFrame stS_BFrame stS_MAC stS_Tag stI27

/-- Six bytes are copied into an address's variable. -/
theorem copy_m {W : World} {t : Nat} {cs : Array Value} {v : Value} {m : M6} (h : RvAt W t 23 cs) (hc : cs.size = 6) (hs : Src W v m.l) (ty : TypeId) :
    (Builtin.copy_ #[30, 30] ty #[.slice (some ⟨t, 0, none⟩) 6 6, v]).run Try.prog W = .ok (goInt 6) (W.setRow t #[.int .u8 m.a, .int .u8 m.b, .int .u8 m.c, .int .u8 m.d, .int .u8 m.e, .int .u8 m.f]) := by
  obtain ⟨a, c, rfl, _, _, h4, h5⟩ := hs
  match a, h4, h5 with
  | none, h4, _ => have := (h4 rfl).1; simp [M6.l] at this
  | some ad, _, h5 =>
    have := run_copy_row (P := Try.prog) W 30 30 ty 5 t 0 6 6 ad m.l.length c cs 23 (m.l.map (Value.int .u8)) Try.underlying30 (by kernel_rfl) h (by simp [M6.l]) (fun j y hy => by
      have hj : j < m.l.length := by
        rcases Nat.lt_or_ge j m.l.length with h | h
        · exact h
        · rw [List.getElem?_eq_none (by simpa using h)] at hy; cases hy
      rw [h5 ad rfl j hj]
      simp [hj] at hy ⊢
      exact hy) (by simp [M6.l, hc]) (by intro y hy; simp at hy; obtain ⟨z, _, rfl⟩ := hy; rfl)
    rw [this]
    have e : cs.toList.drop (0 + (m.l.map (Value.int .u8)).length) = [] := List.drop_eq_nil_of_le (by simp [M6.l, hc])
    rw [e]
    rfl

end S4
end

end Go.Proofs.Ytgjagedngdhdaaa
