/-
  What is asked of anything that is provisioned: the walk of the statement, for every input.
-/
import Derived.Test.YtmfjlhcobhilcaaKp
import Derived.Test.YtmfjlhcobhilcaaFw
import Derived.Test.YtmfjlhcobhilcaaRAsk
namespace Go.Proofs.Ytmfjlhcobhilcaa
set_option linter.unusedVariables false
set_option maxRecDepth 4000
set_option linter.unusedSimpArgs false
open Go.RowKit
attribute [local go_sem ↓] ldM stM ldC stC ldB stB ldP stP apI bsI
attribute [local go_sem] bsI_is bsI2_is

theorem eqIs_self (l : List Int) : eqIs l l = true := eqIs_iff.2 rfl
set_option maxHeartbeats 16000000 in
theorem ProvAsks_walk (x : Pr) (p : Pv) (port vid isid : Int) (w : World) (h : IsPv w x p) (_ : -9223372036854775808 ≤ port ∧ port ≤ 9223372036854775807) (_ : -9223372036854775808 ≤ vid ∧ vid ≤ 9223372036854775807) (_ : -9223372036854775808 ≤ isid ∧ isid ≤ 9223372036854775807) :
    Calls Try.prog 6 #[.agg x.cs, .int .i64 port, .int .i64 vid, .int .i64 isid] w fun r w' => r = .returned (.bool true) ∧ Below w.heap.size w w' := by
  obtain ⟨V0, hW, m0, bW, zW⟩ := PrAt.new w x
  have M0 : Hid (PrAt V0 w.heap.size x ∧ Below w.heap.size w V0 ∧ IsPv V0 x p) := ⟨m0, bW, h.below bW⟩
  clear m0 bW zW h
  have l0 := M0.out.1.ld
  go_enter Try.func6, Try.ntmps6
  go_wp2_with fail
  refine (few_any x p V0 M0.out.2.2).mono ?_
  rintro _ X1 ⟨⟨x1, rfl, h1⟩, b1⟩
  obtain ⟨V1, s1, q1, g1⟩ := (M0.out.1.below b1).st (y := x1) h1.one
  have M1 : Hid (PrAt V1 w.heap.size x1 ∧ Below w.heap.size w V1 ∧ IsPv V1 x1 (fewP p)) := ⟨q1, gro (below_over M0.out.2.1 b1) g1 (Nat.le_refl _) (below_over M0.out.2.1 b1).size, h1.keptV (M0.out.1.below b1) (M0.out.2.2.below b1) g1⟩
  clear h1 b1 q1 g1 l0
  obtain ⟨q, hq⟩ : ∃ z, fewP p = z := ⟨_, rfl⟩
  have SZ : Hid (Sz q) := by rw [← hq]; exact sz_few p
  rw [hq] at M1
  clear hq
  obtain ⟨⟨sa, sb⟩, e1⟩ : ∃ z, svc q port vid = z := ⟨_, rfl⟩
  obtain ⟨⟨va, vb⟩, e2⟩ : ∃ z, vof q port isid = z := ⟨_, rfl⟩
  obtain ⟨⟨ca, cb⟩, e3⟩ : ∃ z, car q isid = z := ⟨_, rfl⟩
  obtain ⟨pb, e4⟩ : ∃ z, (pts q vid).isSome = z := ⟨_, rfl⟩
  obtain ⟨L, e5⟩ : ∃ z, (pts q vid).getD [] = z := ⟨_, rfl⟩
  have Q1 : Hid (Value.tuple #[.int .i64 (svc q port vid).1, .bool (svc q port vid).2] = Value.tuple #[.int .i64 sa, .bool sb]) := by rw [e1]; exact rfl
  have Q2 : Hid (Value.tuple #[.int .i64 (vof q port isid).1, .bool (vof q port isid).2] = Value.tuple #[.int .i64 va, .bool vb]) := by rw [e2]; exact rfl
  have Q3 : Hid (Value.tuple #[.int .i64 (car q isid).1, .bool (car q isid).2] = Value.tuple #[.int .i64 ca, .bool cb]) := by rw [e3]; exact rfl
  have Q4 : Hid ((pts q vid).isSome = pb ∧ (pts q vid).getD [] = L) := ⟨e4, e5⟩
  clear e1 e2 e3 e4 e5
  have l1 := M1.out.1.ld
  go_wp2_with fail
  refine (Calls.ret_eq Q1.out (svc_any x1 q port vid V1 M1.out.2.2)).mono ?_
  rintro _ V2 ⟨rfl, hb⟩
  have M2 : Hid (PrAt V2 w.heap.size x1 ∧ Below w.heap.size w V2 ∧ IsPv V2 x1 q) := ⟨M1.out.1.below hb, below_over M1.out.2.1 hb, M1.out.2.2.below hb⟩
  clear hb l1
  have l2 := M2.out.1.ld
  go_wp2_with fail
  refine (Calls.ret_eq Q1.out (rsvc_any x1 q port vid V2 M2.out.2.2)).mono ?_
  rintro _ V3 ⟨rfl, hb⟩
  have M3 : Hid (PrAt V3 w.heap.size x1 ∧ Below w.heap.size w V3 ∧ IsPv V3 x1 q) := ⟨M2.out.1.below hb, below_over M2.out.2.1 hb, M2.out.2.2.below hb⟩
  clear hb l2
  have l3 := M3.out.1.ld
  go_wp2_with fail
  refine (Calls.ret_eq Q2.out (vof_any x1 q port isid V3 M3.out.2.2)).mono ?_
  rintro _ V4 ⟨rfl, hb⟩
  have M4 : Hid (PrAt V4 w.heap.size x1 ∧ Below w.heap.size w V4 ∧ IsPv V4 x1 q) := ⟨M3.out.1.below hb, below_over M3.out.2.1 hb, M3.out.2.2.below hb⟩
  clear hb l3
  have l4 := M4.out.1.ld
  go_wp2_with fail
  refine (Calls.ret_eq Q2.out (rvof_any x1 q port isid V4 M4.out.2.2)).mono ?_
  rintro _ V5 ⟨rfl, hb⟩
  have M5 : Hid (PrAt V5 w.heap.size x1 ∧ Below w.heap.size w V5 ∧ IsPv V5 x1 q) := ⟨M4.out.1.below hb, below_over M4.out.2.1 hb, M4.out.2.2.below hb⟩
  clear hb l4
  have l5 := M5.out.1.ld
  go_wp2_with fail
  refine (Calls.ret_eq Q3.out (car_any x1 q isid V5 M5.out.2.2)).mono ?_
  rintro _ V6 ⟨rfl, hb⟩
  have M6 : Hid (PrAt V6 w.heap.size x1 ∧ Below w.heap.size w V6 ∧ IsPv V6 x1 q) := ⟨M5.out.1.below hb, below_over M5.out.2.1 hb, M5.out.2.2.below hb⟩
  clear hb l5
  have l6 := M6.out.1.ld
  go_wp2_with fail
  refine (Calls.ret_eq Q3.out (rcar_any x1 q isid V6 M6.out.2.2)).mono ?_
  rintro _ V7 ⟨rfl, hb⟩
  have M7 : Hid (PrAt V7 w.heap.size x1 ∧ Below w.heap.size w V7 ∧ IsPv V7 x1 q) := ⟨M6.out.1.below hb, below_over M6.out.2.1 hb, M6.out.2.2.below hb⟩
  clear hb l6
  have l7 := M7.out.1.ld
  go_wp2_with fail
  refine (pts_any x1 q vid V7 M7.out.2.2 SZ.out.2.2.2.2).mono ?_
  rintro _ V8 ⟨pv, rfl, po, hb⟩
  rw [Q4.out.1]
  rw [Q4.out.2] at po
  obtain ⟨pa, pc, rfl, ps, _⟩ := po.form
  have M8 : Hid (PrAt V8 w.heap.size x1 ∧ Below w.heap.size w V8 ∧ IsPv V8 x1 q ∧ SlAt eI V8 pa L.length pc L) := ⟨M7.out.1.below hb, below_over M7.out.2.1 hb, M7.out.2.2.below hb, ps⟩
  clear hb l7 po ps
  have l8 := M8.out.1.ld
  go_wp2_with fail
  refine (rpts_any x1 q vid V8 M8.out.2.2.1).mono ?_
  rintro _ V9 ⟨pv, rfl, ⟨ra, rn, rc, rfl, rs⟩, hb⟩
  rw [Q4.out.1]
  rw [Q4.out.2] at rs
  have M9 : Hid (PrAt V9 w.heap.size x1 ∧ Below w.heap.size w V9 ∧ IsPv V9 x1 q ∧ SlAt eI V9 pa L.length pc L ∧ SlAt eI V9 ra rn rc L) := ⟨M8.out.1.below hb, below_over M8.out.2.1 hb, M8.out.2.2.1.below hb, M8.out.2.2.2.below hb, rs⟩
  clear hb l8 rs
  obtain ⟨pn, hpn⟩ : ∃ z, L.length = z := ⟨_, rfl⟩
  rw [hpn] at M9
  rw [hpn]
  clear hpn
  go_wp2_with fail
  obtain ⟨Y0, hY0⟩ : ∃ X0, World.drew V9 = X0 := ⟨_, rfl⟩
  have B0 : Hid (Below V9.heap.size V9 Y0) := by rw [← hY0]; exact (Below.refl _ _).drew
  have f0 := fun k : Later V9 => (M9.out.1.below k.below).ld
  refine wp_region_noPanic ?_
  refine wp_region_held_drew (S := fun w' => ∃ x : Later V9, w' = x.val) (by kernel_rfl) ⟨⟨_, (Below.refl _ _).drew⟩, rfl⟩ (fun hHeld => ?_)
  rw [hY0] at hHeld ⊢
  clear hY0
  refine wpAnyH_take (i := 0) (oi := { dst := some 97, op := Op.move (Operand.tmp 17), type := 3, pos := "law.go:121", after := #[], guard := none }) (v := ?_) rfl (by kernel_rfl) (by kernel_rfl) (by kernel_rfl) (fun _ _ _ h => h) (Or.inl ⟨by rfl, ?_⟩) hHeld ?_
  rotate_left
  · intro W_ hSw_
    obtain ⟨q, rfl⟩ := hSw_
    first | (go_simp; done) | (go_simp; with_reducible rfl)
  rotate_left
  try simp only [Act.put, List.setIfInBounds_toArray, List.set_cons_zero, List.set_cons_succ]
  refine wpAnyH_take (i := 1) (oi := { dst := some 98, op := Op.move (Operand.tmp 19), type := 3, pos := "law.go:121", after := #[], guard := none }) (v := ?_) rfl (by kernel_rfl) (by kernel_rfl) (by kernel_rfl) (fun _ _ _ h => h) (Or.inl ⟨by rfl, ?_⟩) hHeld ?_
  rotate_left
  · intro W_ hSw_
    obtain ⟨q, rfl⟩ := hSw_
    first | (go_simp; done) | (go_simp; with_reducible rfl)
  rotate_left
  try simp only [Act.put, List.setIfInBounds_toArray, List.set_cons_zero, List.set_cons_succ]
  refine wpAnyH_take (i := 2) (oi := { dst := some 99, op := Op.binOp BinOp.eql 3 (Operand.tmp 97) (Operand.tmp 98) 3, type := 4, pos := "law.go:121", after := #[{ on := 0, ground := Ground.data }, { on := 1, ground := Ground.data }], guard := none }) (v := ?_) rfl (by kernel_rfl) (by kernel_rfl) (by kernel_rfl) (fun _ _ _ h => h) (Or.inl ⟨by rfl, ?_⟩) hHeld ?_
  rotate_left
  · intro W_ hSw_
    obtain ⟨q, rfl⟩ := hSw_
    first | (go_simp; done) | (go_simp; with_reducible rfl)
  rotate_left
  try simp only [Act.put, List.setIfInBounds_toArray, List.set_cons_zero, List.set_cons_succ]
  refine wpAnyH_take (i := 3) (oi := { dst := some 100, op := Op.move (Operand.tmp 99), type := 4, pos := "law.go:121", after := #[{ on := 2, ground := Ground.data }], guard := none }) (v := ?_) rfl (by kernel_rfl) (by kernel_rfl) (by kernel_rfl) (fun _ _ _ h => h) (Or.inl ⟨by rfl, ?_⟩) hHeld ?_
  rotate_left
  · intro W_ hSw_
    obtain ⟨q, rfl⟩ := hSw_
    first | (go_simp; done) | (go_simp; with_reducible rfl)
  rotate_left
  try simp only [Act.put, List.setIfInBounds_toArray, List.set_cons_zero, List.set_cons_succ]
  refine wpAnyH_take (i := 4) (oi := { dst := some 101, op := Op.move (Operand.tmp 18), type := 4, pos := "law.go:121", after := #[{ on := 3, ground := Ground.guard }], guard := some (3, true) }) (v := ?_) rfl (by kernel_rfl) (by kernel_rfl) (by kernel_rfl) (fun _ _ _ h => h) (Or.inl ⟨by rfl, ?_⟩) hHeld ?_
  rotate_left
  · intro W_ hSw_
    obtain ⟨q, rfl⟩ := hSw_
    first | (go_simp; done) | (go_simp; with_reducible rfl)
  rotate_left
  try simp only [Act.put, List.setIfInBounds_toArray, List.set_cons_zero, List.set_cons_succ]
  refine wpAnyH_take (i := 5) (oi := { dst := some 102, op := Op.move (Operand.tmp 20), type := 4, pos := "law.go:121", after := #[{ on := 3, ground := Ground.guard }], guard := some (3, true) }) (v := ?_) rfl (by kernel_rfl) (by kernel_rfl) (by kernel_rfl) (fun _ _ _ h => h) (Or.inl ⟨by rfl, ?_⟩) hHeld ?_
  rotate_left
  · intro W_ hSw_
    obtain ⟨q, rfl⟩ := hSw_
    first | (go_simp; done) | (go_simp; with_reducible rfl)
  rotate_left
  try simp only [Act.put, List.setIfInBounds_toArray, List.set_cons_zero, List.set_cons_succ]
  refine wpAnyH_take (i := 6) (oi := { dst := some 103, op := Op.binOp BinOp.eql 4 (Operand.tmp 101) (Operand.tmp 102) 4, type := 4, pos := "law.go:121", after := #[{ on := 4, ground := Ground.data }, { on := 5, ground := Ground.data }, { on := 3, ground := Ground.guard }], guard := some (3, true) }) (v := ?_) rfl (by kernel_rfl) (by kernel_rfl) (by kernel_rfl) (fun _ _ _ h => h) (Or.inl ⟨by rfl, ?_⟩) hHeld ?_
  rotate_left
  · intro W_ hSw_
    obtain ⟨q, rfl⟩ := hSw_
    first | (go_simp; done) | (go_simp; with_reducible rfl)
  rotate_left
  try simp only [Act.put, List.setIfInBounds_toArray, List.set_cons_zero, List.set_cons_succ]
  refine wpAnyH_take (i := 7) (oi := { dst := some 104, op := Op.pick (Operand.tmp 100) (Operand.tmp 103) (Operand.const (Value.bool false)), type := 4, pos := "law.go:121", after := #[{ on := 3, ground := Ground.data }, { on := 6, ground := Ground.data }], guard := none }) (v := ?_) rfl (by kernel_rfl) (by kernel_rfl) (by kernel_rfl) (fun _ _ _ h => h) (Or.inl ⟨by rfl, ?_⟩) hHeld ?_
  rotate_left
  · intro W_ hSw_
    obtain ⟨q, rfl⟩ := hSw_
    first | (go_simp; done) | (go_simp; with_reducible rfl)
  rotate_left
  try simp only [Act.put, List.setIfInBounds_toArray, List.set_cons_zero, List.set_cons_succ]
  refine wpAnyH_take (i := 8) (oi := { dst := some 105, op := Op.move (Operand.tmp 104), type := 4, pos := "law.go:121", after := #[{ on := 7, ground := Ground.data }, { on := 3, ground := Ground.chain }], guard := none }) (v := ?_) rfl (by kernel_rfl) (by kernel_rfl) (by kernel_rfl) (fun _ _ _ h => h) (Or.inl ⟨by rfl, ?_⟩) hHeld ?_
  rotate_left
  · intro W_ hSw_
    obtain ⟨q, rfl⟩ := hSw_
    first | (go_simp; done) | (go_simp; with_reducible rfl)
  rotate_left
  try simp only [Act.put, List.setIfInBounds_toArray, List.set_cons_zero, List.set_cons_succ]
  refine wpAnyH_take (i := 9) (oi := { dst := some 106, op := Op.move (Operand.tmp 21), type := 40, pos := "law.go:121", after := #[{ on := 8, ground := Ground.guard }], guard := some (8, true) }) (v := ?_) rfl (by kernel_rfl) (by kernel_rfl) (by kernel_rfl) (fun _ _ _ h => h) (Or.inl ⟨by rfl, ?_⟩) hHeld ?_
  rotate_left
  · intro W_ hSw_
    obtain ⟨q, rfl⟩ := hSw_
    first | (go_simp; done) | (go_simp; with_reducible rfl)
  rotate_left
  try simp only [Act.put, List.setIfInBounds_toArray, List.set_cons_zero, List.set_cons_succ]
  refine wpAnyH_take (i := 10) (oi := { dst := some 107, op := Op.move (Operand.tmp 23), type := 40, pos := "law.go:121", after := #[{ on := 8, ground := Ground.guard }], guard := some (8, true) }) (v := ?_) rfl (by kernel_rfl) (by kernel_rfl) (by kernel_rfl) (fun _ _ _ h => h) (Or.inl ⟨by rfl, ?_⟩) hHeld ?_
  rotate_left
  · intro W_ hSw_
    obtain ⟨q, rfl⟩ := hSw_
    first | (go_simp; done) | (go_simp; with_reducible rfl)
  rotate_left
  try simp only [Act.put, List.setIfInBounds_toArray, List.set_cons_zero, List.set_cons_succ]
  refine wpAnyH_ready (rs := [11]) (by kernel_rfl) (by simp) ?_
  refine AllReadyH.cons (o := { dst := some 108, op := Op.call { callee := Callee.value (Operand.func 27), args := #[Operand.tmp 106, Operand.tmp 107], argTypes := #[40, 40] }, type := 4, pos := "law.go:121", after := #[{ on := 9, ground := Ground.data }, { on := 10, ground := Ground.data }, { on := 8, ground := Ground.chain }, { on := 8, ground := Ground.guard }], guard := some (8, true) }) rfl (fun K hK => ?_) AllReadyH.nil
  go_simp
  refine ((ret_b (rints_b pa pn pc L ra rn rc L Y0 (M9.out.2.2.2.1.below B0.out) (M9.out.2.2.2.2.below B0.out)) (eqIs_self L))).mono ?_
  rintro _ Y1 ⟨rfl, hb⟩
  have B1 : Hid (Below V9.heap.size V9 Y1) := below_over B0.out hb
  clear hb
  clear hHeld
  refine hK.out _ _ ⟨⟨_, B1.out⟩, rfl⟩ (fun hHeld => ?_)
  clear hK K
  try simp only [Act.put, List.setIfInBounds_toArray, List.set_cons_zero, List.set_cons_succ]
  refine wpAnyH_take (i := 12) (oi := { dst := some 109, op := Op.pick (Operand.tmp 105) (Operand.tmp 108) (Operand.const (Value.bool false)), type := 4, pos := "law.go:121", after := #[{ on := 8, ground := Ground.data }, { on := 11, ground := Ground.data }], guard := none }) (v := ?_) rfl (by kernel_rfl) (by kernel_rfl) (by kernel_rfl) (fun _ _ _ h => h) (Or.inl ⟨by rfl, ?_⟩) hHeld ?_
  rotate_left
  · intro W_ hSw_
    obtain ⟨q, rfl⟩ := hSw_
    first | (go_simp; done) | (go_simp; with_reducible rfl)
  rotate_left
  try simp only [Act.put, List.setIfInBounds_toArray, List.set_cons_zero, List.set_cons_succ]
  refine wpAnyH_take (i := 13) (oi := { dst := some 110, op := Op.move (Operand.tmp 109), type := 4, pos := "law.go:121", after := #[{ on := 12, ground := Ground.data }, { on := 11, ground := Ground.chain }], guard := none }) (v := ?_) rfl (by kernel_rfl) (by kernel_rfl) (by kernel_rfl) (fun _ _ _ h => h) (Or.inl ⟨by rfl, ?_⟩) hHeld ?_
  rotate_left
  · intro W_ hSw_
    obtain ⟨q, rfl⟩ := hSw_
    first | (go_simp; done) | (go_simp; with_reducible rfl)
  rotate_left
  try simp only [Act.put, List.setIfInBounds_toArray, List.set_cons_zero, List.set_cons_succ]
  refine wpAnyH_take (i := 14) (oi := { dst := some 111, op := Op.move (Operand.tmp 22), type := 4, pos := "law.go:121", after := #[{ on := 13, ground := Ground.guard }], guard := some (13, true) }) (v := ?_) rfl (by kernel_rfl) (by kernel_rfl) (by kernel_rfl) (fun _ _ _ h => h) (Or.inl ⟨by rfl, ?_⟩) hHeld ?_
  rotate_left
  · intro W_ hSw_
    obtain ⟨q, rfl⟩ := hSw_
    first | (go_simp; done) | (go_simp; with_reducible rfl)
  rotate_left
  try simp only [Act.put, List.setIfInBounds_toArray, List.set_cons_zero, List.set_cons_succ]
  refine wpAnyH_take (i := 15) (oi := { dst := some 112, op := Op.move (Operand.tmp 24), type := 4, pos := "law.go:121", after := #[{ on := 13, ground := Ground.guard }], guard := some (13, true) }) (v := ?_) rfl (by kernel_rfl) (by kernel_rfl) (by kernel_rfl) (fun _ _ _ h => h) (Or.inl ⟨by rfl, ?_⟩) hHeld ?_
  rotate_left
  · intro W_ hSw_
    obtain ⟨q, rfl⟩ := hSw_
    first | (go_simp; done) | (go_simp; with_reducible rfl)
  rotate_left
  try simp only [Act.put, List.setIfInBounds_toArray, List.set_cons_zero, List.set_cons_succ]
  refine wpAnyH_take (i := 16) (oi := { dst := some 113, op := Op.binOp BinOp.eql 4 (Operand.tmp 111) (Operand.tmp 112) 4, type := 4, pos := "law.go:121", after := #[{ on := 14, ground := Ground.data }, { on := 15, ground := Ground.data }, { on := 13, ground := Ground.guard }], guard := some (13, true) }) (v := ?_) rfl (by kernel_rfl) (by kernel_rfl) (by kernel_rfl) (fun _ _ _ h => h) (Or.inl ⟨by rfl, ?_⟩) hHeld ?_
  rotate_left
  · intro W_ hSw_
    obtain ⟨q, rfl⟩ := hSw_
    first | (go_simp; done) | (go_simp; with_reducible rfl)
  rotate_left
  try simp only [Act.put, List.setIfInBounds_toArray, List.set_cons_zero, List.set_cons_succ]
  refine wpAnyH_take (i := 17) (oi := { dst := some 114, op := Op.pick (Operand.tmp 110) (Operand.tmp 113) (Operand.const (Value.bool false)), type := 4, pos := "law.go:121", after := #[{ on := 13, ground := Ground.data }, { on := 16, ground := Ground.data }], guard := none }) (v := ?_) rfl (by kernel_rfl) (by kernel_rfl) (by kernel_rfl) (fun _ _ _ h => h) (Or.inl ⟨by rfl, ?_⟩) hHeld ?_
  rotate_left
  · intro W_ hSw_
    obtain ⟨q, rfl⟩ := hSw_
    first | (go_simp; done) | (go_simp; with_reducible rfl)
  rotate_left
  try simp only [Act.put, List.setIfInBounds_toArray, List.set_cons_zero, List.set_cons_succ]
  refine wpAnyH_take (i := 18) (oi := { dst := some 115, op := Op.move (Operand.tmp 114), type := 4, pos := "law.go:121", after := #[{ on := 17, ground := Ground.data }, { on := 13, ground := Ground.chain }], guard := none }) (v := ?_) rfl (by kernel_rfl) (by kernel_rfl) (by kernel_rfl) (fun _ _ _ h => h) (Or.inl ⟨by rfl, ?_⟩) hHeld ?_
  rotate_left
  · intro W_ hSw_
    obtain ⟨q, rfl⟩ := hSw_
    first | (go_simp; done) | (go_simp; with_reducible rfl)
  rotate_left
  try simp only [Act.put, List.setIfInBounds_toArray, List.set_cons_zero, List.set_cons_succ]
  refine wpAnyH_take (i := 19) (oi := { dst := some 116, op := Op.load 29 (Operand.tmp 4), type := 29, pos := "law.go:121", after := #[{ on := 18, ground := Ground.guard }], guard := some (18, true) }) (v := ?_) rfl (by kernel_rfl) (by kernel_rfl) (by kernel_rfl) (fun _ _ _ h => h) (Or.inl ⟨by rfl, ?_⟩) hHeld ?_
  rotate_left
  · intro W_ hSw_
    obtain ⟨q, rfl⟩ := hSw_
    first | (go_simp; done) | (go_simp; with_reducible rfl)
  rotate_left
  try simp only [Act.put, List.setIfInBounds_toArray, List.set_cons_zero, List.set_cons_succ]
  refine wpAnyH_take (i := 20) (oi := { dst := some 117, op := Op.move (Operand.tmp 3), type := 3, pos := "law.go:121", after := #[{ on := 18, ground := Ground.guard }], guard := some (18, true) }) (v := ?_) rfl (by kernel_rfl) (by kernel_rfl) (by kernel_rfl) (fun _ _ _ h => h) (Or.inl ⟨by rfl, ?_⟩) hHeld ?_
  rotate_left
  · intro W_ hSw_
    obtain ⟨q, rfl⟩ := hSw_
    first | (go_simp; done) | (go_simp; with_reducible rfl)
  rotate_left
  try simp only [Act.put, List.setIfInBounds_toArray, List.set_cons_zero, List.set_cons_succ]
  refine wpAnyH_take (i := 22) (oi := { dst := some 119, op := Op.load 29 (Operand.tmp 4), type := 29, pos := "law.go:121", after := #[{ on := 18, ground := Ground.guard }], guard := some (18, true) }) (v := ?_) rfl (by kernel_rfl) (by kernel_rfl) (by kernel_rfl) (fun _ _ _ h => h) (Or.inl ⟨by rfl, ?_⟩) hHeld ?_
  rotate_left
  · intro W_ hSw_
    obtain ⟨q, rfl⟩ := hSw_
    first | (go_simp; done) | (go_simp; with_reducible rfl)
  rotate_left
  try simp only [Act.put, List.setIfInBounds_toArray, List.set_cons_zero, List.set_cons_succ]
  refine wpAnyH_take (i := 23) (oi := { dst := some 120, op := Op.move (Operand.tmp 3), type := 3, pos := "law.go:121", after := #[{ on := 18, ground := Ground.guard }], guard := some (18, true) }) (v := ?_) rfl (by kernel_rfl) (by kernel_rfl) (by kernel_rfl) (fun _ _ _ h => h) (Or.inl ⟨by rfl, ?_⟩) hHeld ?_
  rotate_left
  · intro W_ hSw_
    obtain ⟨q, rfl⟩ := hSw_
    first | (go_simp; done) | (go_simp; with_reducible rfl)
  rotate_left
  try simp only [Act.put, List.setIfInBounds_toArray, List.set_cons_zero, List.set_cons_succ]
  refine wpAnyH_ready (rs := [21]) (by kernel_rfl) (by simp) ?_
  refine AllReadyH.cons (o := { dst := some 118, op := Op.call { callee := Callee.value (Operand.func 28), args := #[Operand.tmp 116, Operand.tmp 117], argTypes := #[29, 3] }, type := 40, pos := "law.go:121", after := #[{ on := 19, ground := Ground.data }, { on := 20, ground := Ground.data }, { on := 18, ground := Ground.chain }, { on := 18, ground := Ground.guard }], guard := some (18, true) }) rfl (fun K hK => ?_) AllReadyH.nil
  go_simp
  refine (att_any x1 q isid Y1 (M9.out.2.2.1.below B1.out) SZ.out.2.1).mono ?_
  rintro _ Y2 ⟨⟨vatt, rfl, oatt⟩, hb⟩
  obtain ⟨atta, attc, rfl, satt, _⟩ := oatt.form
  have B2 : Hid (Below V9.heap.size V9 Y2) := below_over B1.out hb
  obtain ⟨attn, hattn⟩ : ∃ z, (att q isid).length = z := ⟨_, rfl⟩
  rw [hattn] at satt
  rw [hattn]
  have Satt_2 : Hid (SlAt eI Y2 atta attn attc (att q isid)) := satt
  clear satt oatt hattn
  clear hb
  clear hHeld
  refine hK.out _ _ ⟨⟨_, B2.out⟩, rfl⟩ (fun hHeld => ?_)
  clear hK K
  try simp only [Act.put, List.setIfInBounds_toArray, List.set_cons_zero, List.set_cons_succ]
  refine wpAnyH_ready (rs := [24]) (by kernel_rfl) (by simp) ?_
  refine AllReadyH.cons (o := { dst := some 121, op := Op.call { callee := Callee.value (Operand.func 29), args := #[Operand.tmp 119, Operand.tmp 120], argTypes := #[29, 3] }, type := 40, pos := "law.go:121", after := #[{ on := 22, ground := Ground.data }, { on := 23, ground := Ground.data }, { on := 21, ground := Ground.chain }, { on := 18, ground := Ground.guard }], guard := some (18, true) }) rfl (fun K hK => ?_) AllReadyH.nil
  go_simp
  refine (ratt_any x1 q isid Y2 (M9.out.2.2.1.below B2.out) SZ.out.2.1).mono ?_
  rintro _ Y3 ⟨⟨vratt, rfl, oratt⟩, hb⟩
  obtain ⟨ratta, rattc, rfl, sratt, _⟩ := oratt.form
  have B3 : Hid (Below V9.heap.size V9 Y3) := below_over B2.out hb
  have Satt_3 : Hid (SlAt eI Y3 atta attn attc (att q isid)) := Satt_2.out.below hb
  obtain ⟨rattn, hrattn⟩ : ∃ z, (att q isid).length = z := ⟨_, rfl⟩
  rw [hrattn] at sratt
  rw [hrattn]
  have Sratt_3 : Hid (SlAt eI Y3 ratta rattn rattc (att q isid)) := sratt
  clear sratt oratt hrattn
  clear hb
  clear hHeld
  refine hK.out _ _ ⟨⟨_, B3.out⟩, rfl⟩ (fun hHeld => ?_)
  clear hK K
  try simp only [Act.put, List.setIfInBounds_toArray, List.set_cons_zero, List.set_cons_succ]
  refine wpAnyH_ready (rs := [25]) (by kernel_rfl) (by simp) ?_
  refine AllReadyH.cons (o := { dst := some 122, op := Op.call { callee := Callee.value (Operand.func 27), args := #[Operand.tmp 118, Operand.tmp 121], argTypes := #[40, 40] }, type := 4, pos := "law.go:121", after := #[{ on := 21, ground := Ground.data }, { on := 24, ground := Ground.data }, { on := 24, ground := Ground.chain }, { on := 18, ground := Ground.guard }], guard := some (18, true) }) rfl (fun K hK => ?_) AllReadyH.nil
  go_simp
  refine (ret_b (rints_b atta attn attc (att q isid) ratta rattn rattc (att q isid) Y3 Satt_3.out Sratt_3.out) (eqIs_self _)).mono ?_
  rintro _ Y4 ⟨rfl, hb⟩
  have B4 : Hid (Below V9.heap.size V9 Y4) := below_over B3.out hb
  clear hb
  clear hHeld
  refine hK.out _ _ ⟨⟨_, B4.out⟩, rfl⟩ (fun hHeld => ?_)
  clear hK K
  try simp only [Act.put, List.setIfInBounds_toArray, List.set_cons_zero, List.set_cons_succ]
  refine wpAnyH_take (i := 26) (oi := { dst := some 123, op := Op.pick (Operand.tmp 115) (Operand.tmp 122) (Operand.const (Value.bool false)), type := 4, pos := "law.go:121", after := #[{ on := 18, ground := Ground.data }, { on := 25, ground := Ground.data }], guard := none }) (v := ?_) rfl (by kernel_rfl) (by kernel_rfl) (by kernel_rfl) (fun _ _ _ h => h) (Or.inl ⟨by rfl, ?_⟩) hHeld ?_
  rotate_left
  · intro W_ hSw_
    obtain ⟨q, rfl⟩ := hSw_
    first | (go_simp; done) | (go_simp; with_reducible rfl)
  rotate_left
  try simp only [Act.put, List.setIfInBounds_toArray, List.set_cons_zero, List.set_cons_succ]
  refine wpAnyH_take (i := 27) (oi := { dst := some 124, op := Op.move (Operand.tmp 123), type := 4, pos := "law.go:121", after := #[{ on := 26, ground := Ground.data }, { on := 25, ground := Ground.chain }], guard := none }) (v := ?_) rfl (by kernel_rfl) (by kernel_rfl) (by kernel_rfl) (fun _ _ _ h => h) (Or.inl ⟨by rfl, ?_⟩) hHeld ?_
  rotate_left
  · intro W_ hSw_
    obtain ⟨q, rfl⟩ := hSw_
    first | (go_simp; done) | (go_simp; with_reducible rfl)
  rotate_left
  try simp only [Act.put, List.setIfInBounds_toArray, List.set_cons_zero, List.set_cons_succ]
  refine wpAnyH_take (i := 28) (oi := { dst := some 125, op := Op.load 29 (Operand.tmp 4), type := 29, pos := "law.go:121", after := #[{ on := 27, ground := Ground.guard }], guard := some (27, true) }) (v := ?_) rfl (by kernel_rfl) (by kernel_rfl) (by kernel_rfl) (fun _ _ _ h => h) (Or.inl ⟨by rfl, ?_⟩) hHeld ?_
  rotate_left
  · intro W_ hSw_
    obtain ⟨q, rfl⟩ := hSw_
    first | (go_simp; done) | (go_simp; with_reducible rfl)
  rotate_left
  try simp only [Act.put, List.setIfInBounds_toArray, List.set_cons_zero, List.set_cons_succ]
  refine wpAnyH_take (i := 29) (oi := { dst := some 126, op := Op.move (Operand.tmp 2), type := 3, pos := "law.go:121", after := #[{ on := 27, ground := Ground.guard }], guard := some (27, true) }) (v := ?_) rfl (by kernel_rfl) (by kernel_rfl) (by kernel_rfl) (fun _ _ _ h => h) (Or.inl ⟨by rfl, ?_⟩) hHeld ?_
  rotate_left
  · intro W_ hSw_
    obtain ⟨q, rfl⟩ := hSw_
    first | (go_simp; done) | (go_simp; with_reducible rfl)
  rotate_left
  try simp only [Act.put, List.setIfInBounds_toArray, List.set_cons_zero, List.set_cons_succ]
  refine wpAnyH_take (i := 31) (oi := { dst := some 128, op := Op.load 29 (Operand.tmp 4), type := 29, pos := "law.go:121", after := #[{ on := 27, ground := Ground.guard }], guard := some (27, true) }) (v := ?_) rfl (by kernel_rfl) (by kernel_rfl) (by kernel_rfl) (fun _ _ _ h => h) (Or.inl ⟨by rfl, ?_⟩) hHeld ?_
  rotate_left
  · intro W_ hSw_
    obtain ⟨q, rfl⟩ := hSw_
    first | (go_simp; done) | (go_simp; with_reducible rfl)
  rotate_left
  try simp only [Act.put, List.setIfInBounds_toArray, List.set_cons_zero, List.set_cons_succ]
  refine wpAnyH_take (i := 32) (oi := { dst := some 129, op := Op.move (Operand.tmp 2), type := 3, pos := "law.go:121", after := #[{ on := 27, ground := Ground.guard }], guard := some (27, true) }) (v := ?_) rfl (by kernel_rfl) (by kernel_rfl) (by kernel_rfl) (fun _ _ _ h => h) (Or.inl ⟨by rfl, ?_⟩) hHeld ?_
  rotate_left
  · intro W_ hSw_
    obtain ⟨q, rfl⟩ := hSw_
    first | (go_simp; done) | (go_simp; with_reducible rfl)
  rotate_left
  try simp only [Act.put, List.setIfInBounds_toArray, List.set_cons_zero, List.set_cons_succ]
  refine wpAnyH_ready (rs := [30]) (by kernel_rfl) (by simp) ?_
  refine AllReadyH.cons (o := { dst := some 127, op := Op.call { callee := Callee.value (Operand.func 30), args := #[Operand.tmp 125, Operand.tmp 126], argTypes := #[29, 3] }, type := 40, pos := "law.go:121", after := #[{ on := 28, ground := Ground.data }, { on := 29, ground := Ground.data }, { on := 27, ground := Ground.chain }, { on := 27, ground := Ground.guard }], guard := some (27, true) }) rfl (fun K hK => ?_) AllReadyH.nil
  go_simp
  refine (svs_any x1 q vid Y4 (M9.out.2.2.1.below B4.out) SZ.out.2.2.1).mono ?_
  rintro _ Y5 ⟨⟨vsvs, rfl, osvs⟩, hb⟩
  obtain ⟨svsa, svsc, rfl, ssvs, _⟩ := osvs.form
  have B5 : Hid (Below V9.heap.size V9 Y5) := below_over B4.out hb
  obtain ⟨svsn, hsvsn⟩ : ∃ z, (svs q vid).length = z := ⟨_, rfl⟩
  rw [hsvsn] at ssvs
  rw [hsvsn]
  have Ssvs_5 : Hid (SlAt eI Y5 svsa svsn svsc (svs q vid)) := ssvs
  clear ssvs osvs hsvsn
  clear hb
  clear hHeld
  refine hK.out _ _ ⟨⟨_, B5.out⟩, rfl⟩ (fun hHeld => ?_)
  clear hK K
  try simp only [Act.put, List.setIfInBounds_toArray, List.set_cons_zero, List.set_cons_succ]
  refine wpAnyH_ready (rs := [33]) (by kernel_rfl) (by simp) ?_
  refine AllReadyH.cons (o := { dst := some 130, op := Op.call { callee := Callee.value (Operand.func 31), args := #[Operand.tmp 128, Operand.tmp 129], argTypes := #[29, 3] }, type := 40, pos := "law.go:121", after := #[{ on := 31, ground := Ground.data }, { on := 32, ground := Ground.data }, { on := 30, ground := Ground.chain }, { on := 27, ground := Ground.guard }], guard := some (27, true) }) rfl (fun K hK => ?_) AllReadyH.nil
  go_simp
  refine (rsvs_any x1 q vid Y5 (M9.out.2.2.1.below B5.out) SZ.out.2.2.1).mono ?_
  rintro _ Y6 ⟨⟨vrsvs, rfl, orsvs⟩, hb⟩
  obtain ⟨rsvsa, rsvsc, rfl, srsvs, _⟩ := orsvs.form
  have B6 : Hid (Below V9.heap.size V9 Y6) := below_over B5.out hb
  have Ssvs_6 : Hid (SlAt eI Y6 svsa svsn svsc (svs q vid)) := Ssvs_5.out.below hb
  obtain ⟨rsvsn, hrsvsn⟩ : ∃ z, (svs q vid).length = z := ⟨_, rfl⟩
  rw [hrsvsn] at srsvs
  rw [hrsvsn]
  have Srsvs_6 : Hid (SlAt eI Y6 rsvsa rsvsn rsvsc (svs q vid)) := srsvs
  clear srsvs orsvs hrsvsn
  clear hb
  clear hHeld
  refine hK.out _ _ ⟨⟨_, B6.out⟩, rfl⟩ (fun hHeld => ?_)
  clear hK K
  try simp only [Act.put, List.setIfInBounds_toArray, List.set_cons_zero, List.set_cons_succ]
  refine wpAnyH_ready (rs := [34]) (by kernel_rfl) (by simp) ?_
  refine AllReadyH.cons (o := { dst := some 131, op := Op.call { callee := Callee.value (Operand.func 27), args := #[Operand.tmp 127, Operand.tmp 130], argTypes := #[40, 40] }, type := 4, pos := "law.go:121", after := #[{ on := 30, ground := Ground.data }, { on := 33, ground := Ground.data }, { on := 33, ground := Ground.chain }, { on := 27, ground := Ground.guard }], guard := some (27, true) }) rfl (fun K hK => ?_) AllReadyH.nil
  go_simp
  refine (ret_b (rints_b svsa svsn svsc (svs q vid) rsvsa rsvsn rsvsc (svs q vid) Y6 Ssvs_6.out Srsvs_6.out) (eqIs_self _)).mono ?_
  rintro _ Y7 ⟨rfl, hb⟩
  have B7 : Hid (Below V9.heap.size V9 Y7) := below_over B6.out hb
  clear hb
  clear hHeld
  refine hK.out _ _ ⟨⟨_, B7.out⟩, rfl⟩ (fun hHeld => ?_)
  clear hK K
  try simp only [Act.put, List.setIfInBounds_toArray, List.set_cons_zero, List.set_cons_succ]
  refine wpAnyH_take (i := 35) (oi := { dst := some 132, op := Op.pick (Operand.tmp 124) (Operand.tmp 131) (Operand.const (Value.bool false)), type := 4, pos := "law.go:121", after := #[{ on := 27, ground := Ground.data }, { on := 34, ground := Ground.data }], guard := none }) (v := ?_) rfl (by kernel_rfl) (by kernel_rfl) (by kernel_rfl) (fun _ _ _ h => h) (Or.inl ⟨by rfl, ?_⟩) hHeld ?_
  rotate_left
  · intro W_ hSw_
    obtain ⟨q, rfl⟩ := hSw_
    first | (go_simp; done) | (go_simp; with_reducible rfl)
  rotate_left
  try simp only [Act.put, List.setIfInBounds_toArray, List.set_cons_zero, List.set_cons_succ]
  refine wpAnyH_take (i := 36) (oi := { dst := some 133, op := Op.move (Operand.tmp 132), type := 4, pos := "law.go:121", after := #[{ on := 35, ground := Ground.data }, { on := 34, ground := Ground.chain }], guard := none }) (v := ?_) rfl (by kernel_rfl) (by kernel_rfl) (by kernel_rfl) (fun _ _ _ h => h) (Or.inl ⟨by rfl, ?_⟩) hHeld ?_
  rotate_left
  · intro W_ hSw_
    obtain ⟨q, rfl⟩ := hSw_
    first | (go_simp; done) | (go_simp; with_reducible rfl)
  rotate_left
  try simp only [Act.put, List.setIfInBounds_toArray, List.set_cons_zero, List.set_cons_succ]
  refine wpAnyH_ready (rs := [37]) (by kernel_rfl) (by simp) ?_
  refine AllReadyH.cons (o := { dst := some 134, op := Op.call { callee := Callee.value (Operand.func 14), args := #[], argTypes := #[] }, type := 4, pos := "law.go:121", after := #[{ on := 36, ground := Ground.chain }, { on := 36, ground := Ground.guard }], guard := some (36, true) }) rfl (fun K hK => ?_) AllReadyH.nil
  go_simp
  refine ((awake_any Y7)).mono ?_
  rintro _ Y8 ⟨rfl, hb⟩
  have B8 : Hid (Below V9.heap.size V9 Y8) := below_over B7.out hb
  clear hb
  clear hHeld
  refine hK.out _ _ ⟨⟨_, B8.out⟩, rfl⟩ (fun hHeld => ?_)
  clear hK K
  try simp only [Act.put, List.setIfInBounds_toArray, List.set_cons_zero, List.set_cons_succ]
  refine wpAnyH_take (i := 38) (oi := { dst := some 135, op := Op.pick (Operand.tmp 133) (Operand.tmp 134) (Operand.const (Value.bool false)), type := 4, pos := "law.go:121", after := #[{ on := 36, ground := Ground.data }, { on := 37, ground := Ground.data }], guard := none }) (v := ?_) rfl (by kernel_rfl) (by kernel_rfl) (by kernel_rfl) (fun _ _ _ h => h) (Or.inl ⟨by rfl, ?_⟩) hHeld ?_
  rotate_left
  · intro W_ hSw_
    obtain ⟨q, rfl⟩ := hSw_
    first | (go_simp; done) | (go_simp; with_reducible rfl)
  rotate_left
  try simp only [Act.put, List.setIfInBounds_toArray, List.set_cons_zero, List.set_cons_succ]
  refine wpAnyH_take (i := 39) (oi := { dst := some 8, op := Op.assign (Operand.tmp 135), type := 4, pos := "law.go:121", after := #[{ on := 38, ground := Ground.data }, { on := 37, ground := Ground.chain }, { on := 0, ground := Ground.phase }, { on := 1, ground := Ground.phase }, { on := 2, ground := Ground.phase }, { on := 3, ground := Ground.phase }, { on := 4, ground := Ground.phase }, { on := 5, ground := Ground.phase }, { on := 6, ground := Ground.phase }, { on := 7, ground := Ground.phase }, { on := 8, ground := Ground.phase }, { on := 9, ground := Ground.phase }, { on := 10, ground := Ground.phase }, { on := 11, ground := Ground.phase }, { on := 12, ground := Ground.phase }, { on := 13, ground := Ground.phase }, { on := 14, ground := Ground.phase }, { on := 15, ground := Ground.phase }, { on := 16, ground := Ground.phase }, { on := 17, ground := Ground.phase }, { on := 18, ground := Ground.phase }, { on := 19, ground := Ground.phase }, { on := 20, ground := Ground.phase }, { on := 21, ground := Ground.phase }, { on := 22, ground := Ground.phase }, { on := 23, ground := Ground.phase }, { on := 24, ground := Ground.phase }, { on := 25, ground := Ground.phase }, { on := 26, ground := Ground.phase }, { on := 27, ground := Ground.phase }, { on := 28, ground := Ground.phase }, { on := 29, ground := Ground.phase }, { on := 30, ground := Ground.phase }, { on := 31, ground := Ground.phase }, { on := 32, ground := Ground.phase }, { on := 33, ground := Ground.phase }, { on := 34, ground := Ground.phase }, { on := 35, ground := Ground.phase }, { on := 36, ground := Ground.phase }, { on := 37, ground := Ground.phase }, { on := 38, ground := Ground.phase }], guard := none }) (v := ?_) rfl (by kernel_rfl) (by kernel_rfl) (by kernel_rfl) (fun _ _ _ h => h) (Or.inl ⟨by rfl, ?_⟩) hHeld ?_
  rotate_left
  · intro W_ hSw_
    obtain ⟨q, rfl⟩ := hSw_
    first | (go_simp; done) | (go_simp; with_reducible rfl)
  rotate_left
  try simp only [Act.put, List.setIfInBounds_toArray, List.set_cons_zero, List.set_cons_succ]
  refine wpAnyH_done (by kernel_rfl) ?_ _
  refine NoPanic.normal ?_
  clear hHeld
  clear f0
  go_wp2
  go_ret
  exact ⟨rfl, below_over M9.out.2.1 B8.out⟩
end Go.Proofs.Ytmfjlhcobhilcaa
