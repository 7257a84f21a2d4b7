/-
  Vectors in memory, held against each other: the walks of parts, Compare, Better, each for every input.
-/
import Derived.Test.YtcagdfdhpbeolaaRv
namespace Go.Proofs.Ytcagdfdhpbeolaa
set_option linter.unusedVariables false
set_option maxRecDepth 4000
set_option linter.unusedSimpArgs false
open Go.RowKit

/-- A vector. -/
structure V4 where
  r : Int
  c : Int
  b : Int
  p : Int
/-- Its cells. -/
def V4.cs (v : V4) : Array Value := #[.int .u64 v.r, .int .u32 v.c, .int .u64 v.b, .int .u16 v.p]
/-- Its numbers fit. -/
structure V4.wf (v : V4) : Prop where
  r : 0 ≤ v.r ∧ v.r ≤ 18446744073709551615
  c : 0 ≤ v.c ∧ v.c ≤ 4294967295
  b : 0 ≤ v.b ∧ v.b ≤ 18446744073709551615
  p : 0 ≤ v.p ∧ v.p ≤ 65535
theorem V4.size (v : V4) : v.cs.size = 4 := rfl
theorem V4.one (v : V4) : ∀ x ∈ v.cs.toList, x.oneCell' = true := by
  intro x hx
  simp only [V4.cs, List.mem_cons, List.not_mem_nil, or_false] at hx
  rcases hx with rfl | rfl | rfl | rfl <;> rfl
theorem infoV : (Try.prog.info? 56).map (·.size) = some 4 := by kernel_rfl
theorem rtV : RowTy 56 4 := ⟨infoV, _, Try.underlying56, rfl⟩
theorem infoQ : (Try.prog.info? 106).map (·.size) = some 4 := by kernel_rfl
theorem rtQ : RowTy 106 4 := ⟨infoQ, _, Try.underlying106, rfl⟩
theorem ldV (x : Value) : Instr.loadAt 56 x = ldS 56 x := rfl
theorem stV (x y : Value) : Instr.storeAt 56 x y = stS 56 x y := rfl
theorem stQ (x y : Value) : Instr.storeAt 106 x y = stS 106 x y := rfl
/-- Block b is a variable that holds v. -/
def VvAt (W : World) (b : Nat) (v : V4) : Prop := RvAt W b 56 v.cs
theorem VvAt.below {W W' : World} {b : Nat} {v : V4} (h : VvAt W b v) (hb : Below W.heap.size W W') : VvAt W' b v := RvAt.below h hb
theorem VvAt.lt {W : World} {b : Nat} {v : V4} (h : VvAt W b v) : b < W.heap.size := RvAt.lt h
theorem VvAt.ld {W : World} {b : Nat} {v : V4} (h : VvAt W b v) : (ldS 56 (.pointer (some ⟨b, 0, none⟩))).run Try.prog W = .ok (.agg v.cs) W := RvAt.ld rtV h v.size
theorem VvAt.c0 {W : World} {b : Nat} {v : V4} (h : VvAt W b v) : W.cell? ⟨b, 0, none⟩ = some (.int .u64 v.r) := RvAt.cell h 0 _ rfl
theorem VvAt.c1 {W : World} {b : Nat} {v : V4} (h : VvAt W b v) : W.cell? ⟨b, 1, none⟩ = some (.int .u32 v.c) := RvAt.cell h 1 _ rfl
theorem VvAt.c2 {W : World} {b : Nat} {v : V4} (h : VvAt W b v) : W.cell? ⟨b, 2, none⟩ = some (.int .u64 v.b) := RvAt.cell h 2 _ rfl
theorem VvAt.c3 {W : World} {b : Nat} {v : V4} (h : VvAt W b v) : W.cell? ⟨b, 3, none⟩ = some (.int .u16 v.p) := RvAt.cell h 3 _ rfl
theorem VvAt.new (W : World) (v : V4) : VvAt (W.alloc (.cells v.cs 56)) W.heap.size v := alloc_at W _
theorem two_new (w : World) (a b : V4) : ∃ W, (w.alloc (.cells a.cs 56)).alloc (.cells b.cs 56) = W ∧ VvAt W w.heap.size a ∧ VvAt W (w.heap.size + 1) b ∧ Below w.heap.size w W :=
  ⟨_, rfl, (VvAt.new w a).below ((Below.refl _ _).alloc (Nat.le_refl _) _), by have := VvAt.new (w.alloc (.cells a.cs 56)) b; simpa using this, ((Below.refl _ _).alloc (Nat.le_refl _) _).alloc (by simp) _⟩
/-- Two vectors held against each other: what stands behind the first difference counts no more. -/
def cmpV (a b : V4) : Int :=
  if a.r < b.r then -1 else if b.r < a.r then 1 else if a.c < b.c then -1 else if b.c < a.c then 1 else if a.b < b.b then -1 else if b.b < a.b then 1 else if a.p < b.p then -1 else if b.p < a.p then 1 else 0
/-- Is the first better? -/
def betV (a b : V4) : Bool := decide (cmpV a b < 0)
set_option maxHeartbeats 400000 in
theorem parts_any (v : V4) (w : World) (h : v.wf) :
    Calls Try.prog 56 #[.agg v.cs] w fun e w' => e = .returned (.agg #[.int .u64 v.r, .int .u64 v.c, .int .u64 v.b, .int .u64 v.p]) ∧ Below w.heap.size w w' := by
  obtain ⟨r, c, b, p⟩ := v
  obtain ⟨hr, hc, hb, hp⟩ := h
  simp only at hr hc hb hp
  show Calls Try.prog 56 #[.agg #[.int .u64 r, .int .u32 c, .int .u64 b, .int .u16 p]] w _
  go_enter Try.func56, Try.ntmps56
  go_wp2
  go_returns
  exact ⟨rfl, by go_grown⟩
@[go_sem] theorem ix0 (x y z t : Int) (w : World) : (Instr.index 106 (.agg #[.int .u64 x, .int .u64 y, .int .u64 z, .int .u64 t]) (.int .i64 0)).run Try.prog w = .ok (.int .u64 x) w := by kernel_rfl
@[go_sem] theorem ix1 (x y z t : Int) (w : World) : (Instr.index 106 (.agg #[.int .u64 x, .int .u64 y, .int .u64 z, .int .u64 t]) (.int .i64 1)).run Try.prog w = .ok (.int .u64 y) w := by kernel_rfl
@[go_sem] theorem ix2 (x y z t : Int) (w : World) : (Instr.index 106 (.agg #[.int .u64 x, .int .u64 y, .int .u64 z, .int .u64 t]) (.int .i64 2)).run Try.prog w = .ok (.int .u64 z) w := by kernel_rfl
@[go_sem] theorem ix3 (x y z t : Int) (w : World) : (Instr.index 106 (.agg #[.int .u64 x, .int .u64 y, .int .u64 z, .int .u64 t]) (.int .i64 3)).run Try.prog w = .ok (.int .u64 t) w := by kernel_rfl
attribute [local go_sem ↓] ldV stV stQ
set_option maxHeartbeats 1000000 in
theorem compare_any (a b : V4) (w : World) (ha : a.wf) (hb : b.wf) :
    Calls Try.prog 55 #[.agg a.cs, .agg b.cs] w fun e w' => e = .returned (.int .i64 (cmpV a b)) ∧ Below w.heap.size w w' := by
  obtain ⟨W, hW, va, vb, bW⟩ := two_new w a b
  have H : Hid (VvAt W w.heap.size a ∧ VvAt W (w.heap.size + 1) b ∧ Below w.heap.size w W ∧ a.wf ∧ b.wf) := ⟨va, vb, bW, ha, hb⟩
  have lb := vb.ld
  clear va vb bW ha hb
  go_enter Try.func55, Try.ntmps55
  go_wp2_with fail
  go_step3
  go_wp2_with fail
  refine (parts_any b _ H.out.2.2.2.2).mono ?_
  rintro _ W1 ⟨rfl, b1⟩
  obtain ⟨W2, st2, r2, b2, z2⟩ := row_new rtQ W1 #[.int .u64 0, .int .u64 0, .int .u64 0, .int .u64 0] #[.int .u64 b.r, .int .u64 b.c, .int .u64 b.b, .int .u64 b.p] rfl rfl (by simp [Value.oneCell'])
  have b12 := below_over b1 b2
  have H2 : Hid (RvAt W2 W1.heap.size 106 #[.int .u64 b.r, .int .u64 b.c, .int .u64 b.b, .int .u64 b.p] ∧ Below w.heap.size w W2 ∧ a.wf) := ⟨r2, below_over H.out.2.2.1 b12, H.out.2.2.2.1⟩
  have la := (H.out.1.below b12).ld
  clear r2 b1 b2 z2 b12 H lb
  go_wp2_with fail
  go_step3
  go_wp2_with fail
  refine (parts_any a _ H2.out.2.2).mono ?_
  rintro _ W3 ⟨rfl, b3⟩
  have r3 := H2.out.1.below b3
  have c0 := r3.cell 0 (.int .u64 b.r) rfl
  have c1 := r3.cell 1 (.int .u64 b.c) rfl
  have c2 := r3.cell 2 (.int .u64 b.b) rfl
  have c3 := r3.cell 3 (.int .u64 b.p) rfl
  have H3 : Hid (Below w.heap.size w W3) := below_over H2.out.2.1 b3
  clear r3 b3 st2 la H2 hW
  go_wp2_with fail
  go_rounds 5
  all_goals
    try rw [Exit.noGoto_ret]
    go_ret
    refine ⟨ret_int ?_, H3.out⟩
    unfold cmpV
    (repeat' split) <;> omega
set_option maxHeartbeats 400000 in
theorem better_any (a b : V4) (w : World) (ha : a.wf) (hb : b.wf) :
    Calls Try.prog 49 #[.agg a.cs, .agg b.cs] w fun e w' => e = .returned (.bool (betV a b)) ∧ Below w.heap.size w w' := by
  obtain ⟨W, hW, va, vb, bW⟩ := two_new w a b
  have H : Hid (a.wf ∧ b.wf ∧ Below w.heap.size w W) := ⟨ha, hb, bW⟩
  have la := va.ld
  have lb := vb.ld
  clear va vb bW ha hb
  go_enter Try.func49, Try.ntmps49
  go_wp2_with fail
  refine (compare_any a b _ H.out.1 H.out.2.1).mono ?_
  rintro _ W1 ⟨rfl, b1⟩
  have H1 : Hid (Below w.heap.size w W1) := below_over H.out.2.2 b1
  clear b1 H la lb hW
  go_wp2
  go_ret
  exact ⟨rfl, H1.out⟩
end Go.Proofs.Ytcagdfdhpbeolaa
