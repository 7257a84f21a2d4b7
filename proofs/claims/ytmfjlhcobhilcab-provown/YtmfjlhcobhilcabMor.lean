/-
  Maps and carries held against each other; parts of slices; room for rows. Plain laws over the program's types.
-/
import Derived.Test.YtmfjlhcobhilcabGd
namespace Go.Proofs.Ytmfjlhcobhilcab
set_option linter.unusedVariables false
set_option maxRecDepth 4000
set_option linter.unusedSimpArgs false
open Go.RowKit
attribute [local go_sem ↓] ldM stM ldC stC ldB stB ldP stP apI bsI
attribute [local go_sem] bsI_is bsI2_is

theorem eqM_iff {a b : Mp} : eqM a b = true ↔ a = b := by
  cases a; cases b
  simp [eqM]
theorem eqC_iff {a b : Cr} : eqC a b = true ↔ a = b := by
  cases a; cases b
  simp [eqC]
theorem eqlM0 (x y : Mp) (w : World) : (Op.equalIn 10000 40 (.agg x.cs) (.agg y.cs)).run Try.prog w = .ok (eqM x y) w := by
  obtain ⟨a, b, c⟩ := x
  obtain ⟨a', b', c'⟩ := y
  show (Op.equalIn 10000 40 (.agg #[.int .i64 a, .int .i64 b, .int .i64 c]) (.agg #[.int .i64 a', .int .i64 b', .int .i64 c'])).run Try.prog w = _
  rw [show (10000 : Nat) = 9999 + 1 from rfl, Op.equalIn]
  simp only [Sem.run_bind, run_underlying Try.underlying40, Result.andThen_ok]
  go_simp
  unfold eqM
  by_cases h1 : a = a' <;> by_cases h2 : b = b' <;> by_cases h3 : c = c' <;> simp [h1, h2, h3]
theorem eqlC0 (x y : Cr) (w : World) : (Op.equalIn 10000 42 (.agg x.cs) (.agg y.cs)).run Try.prog w = .ok (eqC x y) w := by
  obtain ⟨a, b⟩ := x
  obtain ⟨a', b'⟩ := y
  show (Op.equalIn 10000 42 (.agg #[.int .i64 a, .int .i64 b]) (.agg #[.int .i64 a', .int .i64 b'])).run Try.prog w = _
  rw [show (10000 : Nat) = 9999 + 1 from rfl, Op.equalIn]
  simp only [Sem.run_bind, run_underlying Try.underlying42, Result.andThen_ok]
  go_simp
  unfold eqC
  by_cases h1 : a = a' <;> by_cases h2 : b = b' <;> simp [h1, h2]
theorem gdM : Try.prog.eqGuardType Try.prog.depth 40 = false := by kernel_rfl
theorem eqgM (op : BinOp) (x y : Operand) (a b : Mp) (w : World) : (eqGuard op 40 x y (.agg a.cs) (.agg b.cs)).run Try.prog w = .ok () w := run_eqGuard_agg w op _ x y _ _ gdM
theorem neqM (a b : Mp) (w : World) : (binOp .neq 40 (.agg a.cs) (.agg b.cs)).run Try.prog w = .ok (.bool (!(eqM a b))) w := by
  rw [run_neq_struct, eqlM0]
  rfl
theorem eqlM (a b : Mp) (w : World) : (binOp .eql 40 (.agg a.cs) (.agg b.cs)).run Try.prog w = .ok (.bool (eqM a b)) w := by
  rw [run_eql_struct, eqlM0]
  rfl
theorem gdC : Try.prog.eqGuardType Try.prog.depth 42 = false := by kernel_rfl
theorem eqgC (op : BinOp) (x y : Operand) (a b : Cr) (w : World) : (eqGuard op 42 x y (.agg a.cs) (.agg b.cs)).run Try.prog w = .ok () w := run_eqGuard_agg w op _ x y _ _ gdC
theorem neqC (a b : Cr) (w : World) : (binOp .neq 42 (.agg a.cs) (.agg b.cs)).run Try.prog w = .ok (.bool (!(eqC a b))) w := by
  rw [run_neq_struct, eqlC0]
  rfl
theorem eqlC (a b : Cr) (w : World) : (binOp .eql 42 (.agg a.cs) (.agg b.cs)).run Try.prog w = .ok (.bool (eqC a b)) w := by
  rw [run_eql_struct, eqlC0]
  rfl
/-- A part of a slice. -/
def slS (t : TypeId) (x : Value) (lo hi mx : Option Value) : Sem Value := Instr.sliceAt t x lo hi mx
theorem SlAt.cut {α : Type} {e : El α} (k : e.Ok) {W : World} {a : Option Addr} {n c : Nat} {l : List α} (h : SlAt e W a n c l) {m : Nat} (hm : m ≤ n) : SlAt e W a m c (l.take m) := by
  refine ⟨by rw [List.length_take, h.len]; omega, by have := h.cap; omega, h.max, fun e => ⟨by have := (h.nil e).1; omega, (h.nil e).2⟩, fun x hx h0 => ?_⟩
  obtain ⟨b, o, e', hc⟩ := h.cells x hx (by omega)
  refine ⟨b, o, e', fun j u hj => hc j u ?_⟩
  rw [El.fl_get k] at hj ⊢
  rw [List.getElem?_take] at hj
  split at hj
  · exact hj
  · cases hj
theorem SlAt.suf {α : Type} {e : El α} (k : e.Ok) {W : World} {a : Option Addr} {n c : Nat} {l : List α} (h : SlAt e W a n c l) {i : Nat} (hi : i ≤ n) : SlAt e W (if c = i then a else a.map (·.add (i * e.K))) (n - i) (c - i) (l.drop i) := by
  have hcap := h.cap
  refine ⟨by rw [List.length_drop, h.len], by omega, by have := h.max; omega, fun e => ?_, fun x hx h0 => ?_⟩
  · split at e
    · have := h.nil e; omega
    · have := h.nil (by simpa using e); omega
  · rw [if_neg (by omega)] at hx
    obtain ⟨y, hy, rfl⟩ := Option.map_eq_some_iff.1 hx
    obtain ⟨b, o, rfl, hc⟩ := h.cells y hy (by omega)
    refine ⟨b, o + i * e.K, Addr.add_lit .., fun j u hj => ?_⟩
    rw [show o + i * e.K + j = o + (i * e.K + j) by omega]
    refine hc _ u ?_
    rw [El.fl_get k] at hj ⊢
    have hp := k.pos
    rw [List.getElem?_drop] at hj
    rw [show (i * e.K + j) / e.K = i + j / e.K by rw [Nat.mul_comm, Nat.mul_add_div hp], show (i * e.K + j) % e.K = j % e.K by rw [Nat.mul_comm, Nat.mul_add_mod]]
    exact hj
theorem slI (x : Value) (lo hi mx : Option Value) : Instr.sliceAt 36 x lo hi mx = slS 36 x lo hi mx := rfl
theorem slI_cut (a : Option Addr) (n c m : Nat) (hm : m ≤ n) (hc : n ≤ c) (V : World) : (slS 36 (.slice a n c) none (some (.int .i64 m)) none).run Try.prog V = .ok (.slice a m c) V := by
  have hin : (m : Int) ≤ (c : Int) := by omega
  have hz := Try.sizeOf3
  have hu : Try.prog.underlying 36 = some (.slice 3) := Try.underlying36
  unfold slS
  simp only [Instr.sliceAt, Sem.run_bind, run_underlying hu, Result.andThen_ok]
  simp only [Instr.slice, Sem.run_bind, run_underlying hu, Result.andThen_ok, Instr.sliceBounds, Sem.run_pure]
  rw [run_sliceBound V .i64 (m : Int) c _ (by omega) hin]
  simp only [Result.andThen_ok, Sem.run_pure, hz V, Int.toNat_natCast]
  cases a <;> simp [Addr.add]
theorem slI_suf (a : Option Addr) (n c i : Nat) (hi : i ≤ n) (V : World) : (slS 36 (.slice a n c) (some (.int .i64 i)) none none).run Try.prog V = .ok (.slice (if c = i then a else a.map (·.add (i * eI.K))) (n - i) (c - i)) V := by
  have hin : (i : Int) ≤ (n : Int) := by omega
  have hz := Try.sizeOf3
  have hu : Try.prog.underlying 36 = some (.slice 3) := Try.underlying36
  unfold slS
  simp only [Instr.sliceAt, Sem.run_bind, run_underlying hu, Result.andThen_ok]
  simp only [Instr.slice, Sem.run_bind, run_underlying hu, Result.andThen_ok, Instr.sliceBounds, Sem.run_pure]
  rw [run_sliceBound V .i64 (i : Int) n _ (by omega) hin]
  simp only [Result.andThen_ok, Sem.run_pure, hz V, Int.toNat_natCast]
  rfl
theorem slK (x : Value) (lo hi mx : Option Value) : Instr.sliceAt 24 x lo hi mx = slS 24 x lo hi mx := rfl
theorem slK_cut (a : Option Addr) (n c m : Nat) (hm : m ≤ n) (hc : n ≤ c) (V : World) : (slS 24 (.slice a n c) none (some (.int .i64 m)) none).run Try.prog V = .ok (.slice a m c) V := by
  have hin : (m : Int) ≤ (c : Int) := by omega
  have hz := Try.sizeOf31
  have hu : Try.prog.underlying 24 = some (.slice 31) := Try.underlying24
  unfold slS
  simp only [Instr.sliceAt, Sem.run_bind, run_underlying hu, Result.andThen_ok]
  simp only [Instr.slice, Sem.run_bind, run_underlying hu, Result.andThen_ok, Instr.sliceBounds, Sem.run_pure]
  rw [run_sliceBound V .i64 (m : Int) c _ (by omega) hin]
  simp only [Result.andThen_ok, Sem.run_pure, hz V, Int.toNat_natCast]
  cases a <;> simp [Addr.add]
theorem slK_suf (a : Option Addr) (n c i : Nat) (hi : i ≤ n) (V : World) : (slS 24 (.slice a n c) (some (.int .i64 i)) none none).run Try.prog V = .ok (.slice (if c = i then a else a.map (·.add (i * eK.K))) (n - i) (c - i)) V := by
  have hin : (i : Int) ≤ (n : Int) := by omega
  have hz := Try.sizeOf31
  have hu : Try.prog.underlying 24 = some (.slice 31) := Try.underlying24
  unfold slS
  simp only [Instr.sliceAt, Sem.run_bind, run_underlying hu, Result.andThen_ok]
  simp only [Instr.slice, Sem.run_bind, run_underlying hu, Result.andThen_ok, Instr.sliceBounds, Sem.run_pure]
  rw [run_sliceBound V .i64 (i : Int) n _ (by omega) hin]
  simp only [Result.andThen_ok, Sem.run_pure, hz V, Int.toNat_natCast]
  rfl
theorem slM (x : Value) (lo hi mx : Option Value) : Instr.sliceAt 25 x lo hi mx = slS 25 x lo hi mx := rfl
theorem slM_cut (a : Option Addr) (n c m : Nat) (hm : m ≤ n) (hc : n ≤ c) (V : World) : (slS 25 (.slice a n c) none (some (.int .i64 m)) none).run Try.prog V = .ok (.slice a m c) V := by
  have hin : (m : Int) ≤ (c : Int) := by omega
  have hz := Try.sizeOf40
  have hu : Try.prog.underlying 25 = some (.slice 40) := Try.underlying25
  unfold slS
  simp only [Instr.sliceAt, Sem.run_bind, run_underlying hu, Result.andThen_ok]
  simp only [Instr.slice, Sem.run_bind, run_underlying hu, Result.andThen_ok, Instr.sliceBounds, Sem.run_pure]
  rw [run_sliceBound V .i64 (m : Int) c _ (by omega) hin]
  simp only [Result.andThen_ok, Sem.run_pure, hz V, Int.toNat_natCast]
  cases a <;> simp [Addr.add]
theorem slM_suf (a : Option Addr) (n c i : Nat) (hi : i ≤ n) (V : World) : (slS 25 (.slice a n c) (some (.int .i64 i)) none none).run Try.prog V = .ok (.slice (if c = i then a else a.map (·.add (i * eM.K))) (n - i) (c - i)) V := by
  have hin : (i : Int) ≤ (n : Int) := by omega
  have hz := Try.sizeOf40
  have hu : Try.prog.underlying 25 = some (.slice 40) := Try.underlying25
  unfold slS
  simp only [Instr.sliceAt, Sem.run_bind, run_underlying hu, Result.andThen_ok]
  simp only [Instr.slice, Sem.run_bind, run_underlying hu, Result.andThen_ok, Instr.sliceBounds, Sem.run_pure]
  rw [run_sliceBound V .i64 (i : Int) n _ (by omega) hin]
  simp only [Result.andThen_ok, Sem.run_pure, hz V, Int.toNat_natCast]
  rfl
theorem slC (x : Value) (lo hi mx : Option Value) : Instr.sliceAt 26 x lo hi mx = slS 26 x lo hi mx := rfl
theorem slC_cut (a : Option Addr) (n c m : Nat) (hm : m ≤ n) (hc : n ≤ c) (V : World) : (slS 26 (.slice a n c) none (some (.int .i64 m)) none).run Try.prog V = .ok (.slice a m c) V := by
  have hin : (m : Int) ≤ (c : Int) := by omega
  have hz := Try.sizeOf42
  have hu : Try.prog.underlying 26 = some (.slice 42) := Try.underlying26
  unfold slS
  simp only [Instr.sliceAt, Sem.run_bind, run_underlying hu, Result.andThen_ok]
  simp only [Instr.slice, Sem.run_bind, run_underlying hu, Result.andThen_ok, Instr.sliceBounds, Sem.run_pure]
  rw [run_sliceBound V .i64 (m : Int) c _ (by omega) hin]
  simp only [Result.andThen_ok, Sem.run_pure, hz V, Int.toNat_natCast]
  cases a <;> simp [Addr.add]
theorem slC_suf (a : Option Addr) (n c i : Nat) (hi : i ≤ n) (V : World) : (slS 26 (.slice a n c) (some (.int .i64 i)) none none).run Try.prog V = .ok (.slice (if c = i then a else a.map (·.add (i * eC.K))) (n - i) (c - i)) V := by
  have hin : (i : Int) ≤ (n : Int) := by omega
  have hz := Try.sizeOf42
  have hu : Try.prog.underlying 26 = some (.slice 42) := Try.underlying26
  unfold slS
  simp only [Instr.sliceAt, Sem.run_bind, run_underlying hu, Result.andThen_ok]
  simp only [Instr.slice, Sem.run_bind, run_underlying hu, Result.andThen_ok, Instr.sliceBounds, Sem.run_pure]
  rw [run_sliceBound V .i64 (i : Int) n _ (by omega) hin]
  simp only [Result.andThen_ok, Sem.run_pure, hz V, Int.toNat_natCast]
  rfl
theorem slB (x : Value) (lo hi mx : Option Value) : Instr.sliceAt 27 x lo hi mx = slS 27 x lo hi mx := rfl
theorem slB_cut (a : Option Addr) (n c m : Nat) (hm : m ≤ n) (hc : n ≤ c) (V : World) : (slS 27 (.slice a n c) none (some (.int .i64 m)) none).run Try.prog V = .ok (.slice a m c) V := by
  have hin : (m : Int) ≤ (c : Int) := by omega
  have hz := Try.sizeOf38
  have hu : Try.prog.underlying 27 = some (.slice 38) := Try.underlying27
  unfold slS
  simp only [Instr.sliceAt, Sem.run_bind, run_underlying hu, Result.andThen_ok]
  simp only [Instr.slice, Sem.run_bind, run_underlying hu, Result.andThen_ok, Instr.sliceBounds, Sem.run_pure]
  rw [run_sliceBound V .i64 (m : Int) c _ (by omega) hin]
  simp only [Result.andThen_ok, Sem.run_pure, hz V, Int.toNat_natCast]
  cases a <;> simp [Addr.add]
theorem slB_suf (a : Option Addr) (n c i : Nat) (hi : i ≤ n) (V : World) : (slS 27 (.slice a n c) (some (.int .i64 i)) none none).run Try.prog V = .ok (.slice (if c = i then a else a.map (·.add (i * eB.K))) (n - i) (c - i)) V := by
  have hin : (i : Int) ≤ (n : Int) := by omega
  have hz := Try.sizeOf38
  have hu : Try.prog.underlying 27 = some (.slice 38) := Try.underlying27
  unfold slS
  simp only [Instr.sliceAt, Sem.run_bind, run_underlying hu, Result.andThen_ok]
  simp only [Instr.slice, Sem.run_bind, run_underlying hu, Result.andThen_ok, Instr.sliceBounds, Sem.run_pure]
  rw [run_sliceBound V .i64 (i : Int) n _ (by omega) hin]
  simp only [Result.andThen_ok, Sem.run_pure, hz V, Int.toNat_natCast]
  rfl
/-- Room for rows, made. -/
def mkS (t : TypeId) (x y : Value) : Sem Value := Instr.makeSlice t x y
theorem room_new {α : Type} {e : El α} (k : e.Ok) (hK : e.K ≤ 10) (m : Nat) (hm : m ≤ 1000) (w : World) : ∃ V, (mkS e.st (.int .i64 0) (.int .i64 (m : Int))).run Try.prog w = .ok (.slice (some ⟨w.heap.size, 0, none⟩) 0 m) V ∧ Own e V w.heap.size (.slice (some ⟨w.heap.size, 0, none⟩) 0 m) [] ∧ Below w.heap.size w V := by
  obtain ⟨z, hz, hzs⟩ := k.info
  obtain ⟨i0, hi, hz0, hz1, hz2⟩ := info_parts hz
  have hby := k.byt
  have hm1 : m * i0.bytes ≤ 1000 * 1000 := by rw [hz2]; exact Nat.mul_le_mul hm hby
  have hm2 : m * i0.size ≤ 1000 * 10 := by rw [hz1]; exact Nat.mul_le_mul hm hK
  have hm3 : ((m * i0.bytes : Nat) : Int) ≤ ((1000 * 1000 : Nat) : Int) := Int.ofNat_le.2 hm1
  rw [Int.natCast_mul, Int.mul_comm] at hm3
  have hr := run_makeSlice (P := Try.prog) w e.st e.ty i0 z k.slc hi hz0 .i64 .i64 0 (m : Int) (by omega) (by omega) (by rw [Int.toNat_natCast]; omega) (by omega) (by omega)
  have hp : PAt e (w.alloc (.cells (madeCells z.cells (m * i0.size)) e.ty)) w.heap.size m ([] : List α) := ⟨_, RvAt.new w _ _, Nat.zero_le _, by unfold maxLen; omega, by rw [size_madeCells, hz1], by simp [El.fl]⟩
  refine ⟨_, ?_, hp.own k (Nat.le_refl _), (Below.refl _ _).alloc (Nat.le_refl _) _⟩
  have := hr
  simp only [Int.toNat_natCast] at this
  exact this
theorem mkM (x y : Value) : Instr.makeSlice 25 x y = mkS 25 x y := rfl
theorem mkC (x y : Value) : Instr.makeSlice 26 x y = mkS 26 x y := rfl
theorem mkB (x y : Value) : Instr.makeSlice 27 x y = mkS 27 x y := rfl
end Go.Proofs.Ytmfjlhcobhilcab
