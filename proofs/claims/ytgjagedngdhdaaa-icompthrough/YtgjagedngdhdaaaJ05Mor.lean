/-
  Maps and carries held against each other; parts of slices; room for rows. Plain laws over the program's types. What is the same: walks of Equal, EqualFunc, Index, Contains, Same of the code, each for every input. What is the same: walks of Same of the code and of the definition, each for every input.
-/
import Derived.Test.YtgjagedngdhdaaaJ04Ris
namespace Go.Proofs.Ytgjagedngdhdaaa

section
set_option linter.unusedVariables false
set_option maxRecDepth 4000
set_option linter.unusedSimpArgs false
open Go.RowKit
attribute [local go_sem ↓] ldM stM ldC stC ldB stB ldP stP apI bsI
attribute [local go_sem] bsI_is bsI2_is

theorem eqM_iff {a b : Mp} : eqM a b = true ↔ a = b := by
  cases a; cases b
  simp [eqM]
theorem eqC_iff {a b : Cr} : eqC a b = true ↔ a = b := by
  cases a; cases b
  simp [eqC]
theorem eqlM0 (x y : Mp) (w : World) : (Op.equalIn 10000 100 (.agg x.cs) (.agg y.cs)).run Try.prog w = .ok (eqM x y) w := by
  obtain ⟨a, b, c⟩ := x
  obtain ⟨a', b', c'⟩ := y
  show (Op.equalIn 10000 100 (.agg #[.int .i64 a, .int .i64 b, .int .i64 c]) (.agg #[.int .i64 a', .int .i64 b', .int .i64 c'])).run Try.prog w = _
  rw [show (10000 : Nat) = 9999 + 1 from rfl, Op.equalIn]
  simp only [Sem.run_bind, run_underlying Try.underlying100, Result.andThen_ok]
  go_simp
  unfold eqM
  by_cases h1 : a = a' <;> by_cases h2 : b = b' <;> by_cases h3 : c = c' <;> simp [h1, h2, h3]
theorem eqlC0 (x y : Cr) (w : World) : (Op.equalIn 10000 102 (.agg x.cs) (.agg y.cs)).run Try.prog w = .ok (eqC x y) w := by
  obtain ⟨a, b⟩ := x
  obtain ⟨a', b'⟩ := y
  show (Op.equalIn 10000 102 (.agg #[.int .i64 a, .int .i64 b]) (.agg #[.int .i64 a', .int .i64 b'])).run Try.prog w = _
  rw [show (10000 : Nat) = 9999 + 1 from rfl, Op.equalIn]
  simp only [Sem.run_bind, run_underlying Try.underlying102, Result.andThen_ok]
  go_simp
  unfold eqC
  by_cases h1 : a = a' <;> by_cases h2 : b = b' <;> simp [h1, h2]
theorem gdM : Try.prog.eqGuardType Try.prog.depth 100 = false := by kernel_rfl
theorem eqgM (op : BinOp) (x y : Operand) (a b : Mp) (w : World) : (eqGuard op 100 x y (.agg a.cs) (.agg b.cs)).run Try.prog w = .ok () w := run_eqGuard_agg w op _ x y _ _ gdM
theorem neqM (a b : Mp) (w : World) : (binOp .neq 100 (.agg a.cs) (.agg b.cs)).run Try.prog w = .ok (.bool (!(eqM a b))) w := by
  rw [run_neq_struct, eqlM0]
  rfl
theorem eqlM (a b : Mp) (w : World) : (binOp .eql 100 (.agg a.cs) (.agg b.cs)).run Try.prog w = .ok (.bool (eqM a b)) w := by
  rw [run_eql_struct, eqlM0]
  rfl
theorem gdC : Try.prog.eqGuardType Try.prog.depth 102 = false := by kernel_rfl
theorem eqgC (op : BinOp) (x y : Operand) (a b : Cr) (w : World) : (eqGuard op 102 x y (.agg a.cs) (.agg b.cs)).run Try.prog w = .ok () w := run_eqGuard_agg w op _ x y _ _ gdC
theorem neqC (a b : Cr) (w : World) : (binOp .neq 102 (.agg a.cs) (.agg b.cs)).run Try.prog w = .ok (.bool (!(eqC a b))) w := by
  rw [run_neq_struct, eqlC0]
  rfl
theorem eqlC (a b : Cr) (w : World) : (binOp .eql 102 (.agg a.cs) (.agg b.cs)).run Try.prog w = .ok (.bool (eqC a b)) w := by
  rw [run_eql_struct, eqlC0]
  rfl
/-- A part of a slice. -/
def slS (t : TypeId) (x : Value) (lo hi mx : Option Value) : Sem Value := Instr.sliceAt t x lo hi mx
theorem SlAt.cut {α : Type} {e : El α} (k : e.Ok) {W : World} {a : Option Addr} {n c : Nat} {l : List α} (h : SlAt e W a n c l) {m : Nat} (hm : m ≤ n) : SlAt e W a m c (l.take m) := by
  refine ⟨by rw [List.length_take, h.len]; omega, by have := h.cap; omega, h.max, fun e => ⟨by have := (h.nil e).1; omega, (h.nil e).2⟩, fun x hx h0 => ?_⟩
  obtain ⟨b, o, e', hc⟩ := h.cells x hx (by omega)
  refine ⟨b, o, e', fun j u hj => hc j u ?_⟩
  rw [El.fl_get k] at hj ⊢
  rw [List.getElem?_take] at hj
  split at hj
  · exact hj
  · cases hj
theorem SlAt.suf {α : Type} {e : El α} (k : e.Ok) {W : World} {a : Option Addr} {n c : Nat} {l : List α} (h : SlAt e W a n c l) {i : Nat} (hi : i ≤ n) : SlAt e W (if c = i then a else a.map (·.add (i * e.K))) (n - i) (c - i) (l.drop i) := by
  have hcap := h.cap
  refine ⟨by rw [List.length_drop, h.len], by omega, by have := h.max; omega, fun e => ?_, fun x hx h0 => ?_⟩
  · split at e
    · have := h.nil e; omega
    · have := h.nil (by simpa using e); omega
  · rw [if_neg (by omega)] at hx
    obtain ⟨y, hy, rfl⟩ := Option.map_eq_some_iff.1 hx
    obtain ⟨b, o, rfl, hc⟩ := h.cells y hy (by omega)
    refine ⟨b, o + i * e.K, Addr.add_lit .., fun j u hj => ?_⟩
    rw [show o + i * e.K + j = o + (i * e.K + j) by omega]
    refine hc _ u ?_
    rw [El.fl_get k] at hj ⊢
    have hp := k.pos
    rw [List.getElem?_drop] at hj
    rw [show (i * e.K + j) / e.K = i + j / e.K by rw [Nat.mul_comm, Nat.mul_add_div hp], show (i * e.K + j) % e.K = j % e.K by rw [Nat.mul_comm, Nat.mul_add_mod]]
    exact hj
theorem slI (x : Value) (lo hi mx : Option Value) : Instr.sliceAt 61 x lo hi mx = slS 61 x lo hi mx := rfl
theorem slI_cut (a : Option Addr) (n c m : Nat) (hm : m ≤ n) (hc : n ≤ c) (V : World) : (slS 61 (.slice a n c) none (some (.int .i64 m)) none).run Try.prog V = .ok (.slice a m c) V := by
  have hin : (m : Int) ≤ (c : Int) := by omega
  have hz := Try.sizeOf3
  have hu : Try.prog.underlying 61 = some (.slice 3) := Try.underlying61
  unfold slS
  simp only [Instr.sliceAt, Sem.run_bind, run_underlying hu, Result.andThen_ok]
  simp only [Instr.slice, Sem.run_bind, run_underlying hu, Result.andThen_ok, Instr.sliceBounds, Sem.run_pure]
  rw [run_sliceBound V .i64 (m : Int) c _ (by omega) hin]
  simp only [Result.andThen_ok, Sem.run_pure, hz V, Int.toNat_natCast]
  cases a <;> simp [Addr.add]
theorem slI_suf (a : Option Addr) (n c i : Nat) (hi : i ≤ n) (V : World) : (slS 61 (.slice a n c) (some (.int .i64 i)) none none).run Try.prog V = .ok (.slice (if c = i then a else a.map (·.add (i * eI.K))) (n - i) (c - i)) V := by
  have hin : (i : Int) ≤ (n : Int) := by omega
  have hz := Try.sizeOf3
  have hu : Try.prog.underlying 61 = some (.slice 3) := Try.underlying61
  unfold slS
  simp only [Instr.sliceAt, Sem.run_bind, run_underlying hu, Result.andThen_ok]
  simp only [Instr.slice, Sem.run_bind, run_underlying hu, Result.andThen_ok, Instr.sliceBounds, Sem.run_pure]
  rw [run_sliceBound V .i64 (i : Int) n _ (by omega) hin]
  simp only [Result.andThen_ok, Sem.run_pure, hz V, Int.toNat_natCast]
  rfl
theorem slK (x : Value) (lo hi mx : Option Value) : Instr.sliceAt 24 x lo hi mx = slS 24 x lo hi mx := rfl
theorem slK_cut (a : Option Addr) (n c m : Nat) (hm : m ≤ n) (hc : n ≤ c) (V : World) : (slS 24 (.slice a n c) none (some (.int .i64 m)) none).run Try.prog V = .ok (.slice a m c) V := by
  have hin : (m : Int) ≤ (c : Int) := by omega
  have hz := Try.sizeOf95
  have hu : Try.prog.underlying 24 = some (.slice 95) := Try.underlying24
  unfold slS
  simp only [Instr.sliceAt, Sem.run_bind, run_underlying hu, Result.andThen_ok]
  simp only [Instr.slice, Sem.run_bind, run_underlying hu, Result.andThen_ok, Instr.sliceBounds, Sem.run_pure]
  rw [run_sliceBound V .i64 (m : Int) c _ (by omega) hin]
  simp only [Result.andThen_ok, Sem.run_pure, hz V, Int.toNat_natCast]
  cases a <;> simp [Addr.add]
theorem slK_suf (a : Option Addr) (n c i : Nat) (hi : i ≤ n) (V : World) : (slS 24 (.slice a n c) (some (.int .i64 i)) none none).run Try.prog V = .ok (.slice (if c = i then a else a.map (·.add (i * eK.K))) (n - i) (c - i)) V := by
  have hin : (i : Int) ≤ (n : Int) := by omega
  have hz := Try.sizeOf95
  have hu : Try.prog.underlying 24 = some (.slice 95) := Try.underlying24
  unfold slS
  simp only [Instr.sliceAt, Sem.run_bind, run_underlying hu, Result.andThen_ok]
  simp only [Instr.slice, Sem.run_bind, run_underlying hu, Result.andThen_ok, Instr.sliceBounds, Sem.run_pure]
  rw [run_sliceBound V .i64 (i : Int) n _ (by omega) hin]
  simp only [Result.andThen_ok, Sem.run_pure, hz V, Int.toNat_natCast]
  rfl
theorem slM (x : Value) (lo hi mx : Option Value) : Instr.sliceAt 25 x lo hi mx = slS 25 x lo hi mx := rfl
theorem slM_cut (a : Option Addr) (n c m : Nat) (hm : m ≤ n) (hc : n ≤ c) (V : World) : (slS 25 (.slice a n c) none (some (.int .i64 m)) none).run Try.prog V = .ok (.slice a m c) V := by
  have hin : (m : Int) ≤ (c : Int) := by omega
  have hz := Try.sizeOf100
  have hu : Try.prog.underlying 25 = some (.slice 100) := Try.underlying25
  unfold slS
  simp only [Instr.sliceAt, Sem.run_bind, run_underlying hu, Result.andThen_ok]
  simp only [Instr.slice, Sem.run_bind, run_underlying hu, Result.andThen_ok, Instr.sliceBounds, Sem.run_pure]
  rw [run_sliceBound V .i64 (m : Int) c _ (by omega) hin]
  simp only [Result.andThen_ok, Sem.run_pure, hz V, Int.toNat_natCast]
  cases a <;> simp [Addr.add]
theorem slM_suf (a : Option Addr) (n c i : Nat) (hi : i ≤ n) (V : World) : (slS 25 (.slice a n c) (some (.int .i64 i)) none none).run Try.prog V = .ok (.slice (if c = i then a else a.map (·.add (i * eM.K))) (n - i) (c - i)) V := by
  have hin : (i : Int) ≤ (n : Int) := by omega
  have hz := Try.sizeOf100
  have hu : Try.prog.underlying 25 = some (.slice 100) := Try.underlying25
  unfold slS
  simp only [Instr.sliceAt, Sem.run_bind, run_underlying hu, Result.andThen_ok]
  simp only [Instr.slice, Sem.run_bind, run_underlying hu, Result.andThen_ok, Instr.sliceBounds, Sem.run_pure]
  rw [run_sliceBound V .i64 (i : Int) n _ (by omega) hin]
  simp only [Result.andThen_ok, Sem.run_pure, hz V, Int.toNat_natCast]
  rfl
theorem slC (x : Value) (lo hi mx : Option Value) : Instr.sliceAt 26 x lo hi mx = slS 26 x lo hi mx := rfl
theorem slC_cut (a : Option Addr) (n c m : Nat) (hm : m ≤ n) (hc : n ≤ c) (V : World) : (slS 26 (.slice a n c) none (some (.int .i64 m)) none).run Try.prog V = .ok (.slice a m c) V := by
  have hin : (m : Int) ≤ (c : Int) := by omega
  have hz := Try.sizeOf102
  have hu : Try.prog.underlying 26 = some (.slice 102) := Try.underlying26
  unfold slS
  simp only [Instr.sliceAt, Sem.run_bind, run_underlying hu, Result.andThen_ok]
  simp only [Instr.slice, Sem.run_bind, run_underlying hu, Result.andThen_ok, Instr.sliceBounds, Sem.run_pure]
  rw [run_sliceBound V .i64 (m : Int) c _ (by omega) hin]
  simp only [Result.andThen_ok, Sem.run_pure, hz V, Int.toNat_natCast]
  cases a <;> simp [Addr.add]
theorem slC_suf (a : Option Addr) (n c i : Nat) (hi : i ≤ n) (V : World) : (slS 26 (.slice a n c) (some (.int .i64 i)) none none).run Try.prog V = .ok (.slice (if c = i then a else a.map (·.add (i * eC.K))) (n - i) (c - i)) V := by
  have hin : (i : Int) ≤ (n : Int) := by omega
  have hz := Try.sizeOf102
  have hu : Try.prog.underlying 26 = some (.slice 102) := Try.underlying26
  unfold slS
  simp only [Instr.sliceAt, Sem.run_bind, run_underlying hu, Result.andThen_ok]
  simp only [Instr.slice, Sem.run_bind, run_underlying hu, Result.andThen_ok, Instr.sliceBounds, Sem.run_pure]
  rw [run_sliceBound V .i64 (i : Int) n _ (by omega) hin]
  simp only [Result.andThen_ok, Sem.run_pure, hz V, Int.toNat_natCast]
  rfl
theorem slB (x : Value) (lo hi mx : Option Value) : Instr.sliceAt 27 x lo hi mx = slS 27 x lo hi mx := rfl
theorem slB_cut (a : Option Addr) (n c m : Nat) (hm : m ≤ n) (hc : n ≤ c) (V : World) : (slS 27 (.slice a n c) none (some (.int .i64 m)) none).run Try.prog V = .ok (.slice a m c) V := by
  have hin : (m : Int) ≤ (c : Int) := by omega
  have hz := Try.sizeOf76
  have hu : Try.prog.underlying 27 = some (.slice 76) := Try.underlying27
  unfold slS
  simp only [Instr.sliceAt, Sem.run_bind, run_underlying hu, Result.andThen_ok]
  simp only [Instr.slice, Sem.run_bind, run_underlying hu, Result.andThen_ok, Instr.sliceBounds, Sem.run_pure]
  rw [run_sliceBound V .i64 (m : Int) c _ (by omega) hin]
  simp only [Result.andThen_ok, Sem.run_pure, hz V, Int.toNat_natCast]
  cases a <;> simp [Addr.add]
theorem slB_suf (a : Option Addr) (n c i : Nat) (hi : i ≤ n) (V : World) : (slS 27 (.slice a n c) (some (.int .i64 i)) none none).run Try.prog V = .ok (.slice (if c = i then a else a.map (·.add (i * eB.K))) (n - i) (c - i)) V := by
  have hin : (i : Int) ≤ (n : Int) := by omega
  have hz := Try.sizeOf76
  have hu : Try.prog.underlying 27 = some (.slice 76) := Try.underlying27
  unfold slS
  simp only [Instr.sliceAt, Sem.run_bind, run_underlying hu, Result.andThen_ok]
  simp only [Instr.slice, Sem.run_bind, run_underlying hu, Result.andThen_ok, Instr.sliceBounds, Sem.run_pure]
  rw [run_sliceBound V .i64 (i : Int) n _ (by omega) hin]
  simp only [Result.andThen_ok, Sem.run_pure, hz V, Int.toNat_natCast]
  rfl
/-- Room for rows, made. -/
def mkS (t : TypeId) (x y : Value) : Sem Value := Instr.makeSlice t x y
theorem room_new {α : Type} {e : El α} (k : e.Ok) (hK : e.K ≤ 10) (m : Nat) (hm : m ≤ 1000) (w : World) : ∃ V, (mkS e.st (.int .i64 0) (.int .i64 (m : Int))).run Try.prog w = .ok (.slice (some ⟨w.heap.size, 0, none⟩) 0 m) V ∧ Own e V w.heap.size (.slice (some ⟨w.heap.size, 0, none⟩) 0 m) [] ∧ Below w.heap.size w V := by
  obtain ⟨z, hz, hzs⟩ := k.info
  obtain ⟨i0, hi, hz0, hz1, hz2⟩ := info_parts hz
  have hby := k.byt
  have hm1 : m * i0.bytes ≤ 1000 * 1000 := by rw [hz2]; exact Nat.mul_le_mul hm hby
  have hm2 : m * i0.size ≤ 1000 * 10 := by rw [hz1]; exact Nat.mul_le_mul hm hK
  have hm3 : ((m * i0.bytes : Nat) : Int) ≤ ((1000 * 1000 : Nat) : Int) := Int.ofNat_le.2 hm1
  rw [Int.natCast_mul, Int.mul_comm] at hm3
  have hr := run_makeSlice (P := Try.prog) w e.st e.ty i0 z k.slc hi hz0 .i64 .i64 0 (m : Int) (by omega) (by omega) (by rw [Int.toNat_natCast]; omega) (by omega) (by omega)
  have hp : PAt e (w.alloc (.cells (madeCells z.cells (m * i0.size)) e.ty)) w.heap.size m ([] : List α) := ⟨_, RvAt.new w _ _, Nat.zero_le _, by unfold maxLen; omega, by rw [size_madeCells, hz1], by simp [El.fl]⟩
  refine ⟨_, ?_, hp.own k (Nat.le_refl _), (Below.refl _ _).alloc (Nat.le_refl _) _⟩
  have := hr
  simp only [Int.toNat_natCast] at this
  exact this
theorem mkM (x y : Value) : Instr.makeSlice 25 x y = mkS 25 x y := rfl
theorem mkC (x y : Value) : Instr.makeSlice 26 x y = mkS 26 x y := rfl
theorem mkB (x y : Value) : Instr.makeSlice 27 x y = mkS 27 x y := rfl
end

section
set_option linter.unusedVariables false
set_option maxRecDepth 4000
set_option linter.unusedSimpArgs false
open Go.RowKit
attribute [local go_sem ↓] ldM stM ldC stC ldB stB ldP stP apI bsI
attribute [local go_sem] bsI_is bsI2_is

attribute [local go_sem ↓] eqgM eqgC neqM neqC eqlM eqlC
/-- A bool is told: is it so? -/
def TellB (r : Ending) (P : Prop) : Prop := ∃ R, r = .returned (.bool R) ∧ (R = true ↔ P)
theorem TellB.yes {P : Prop} (h : P) : TellB (.returned (.bool true)) P := ⟨true, rfl, fun _ => h, fun _ => rfl⟩
theorem TellB.no {P : Prop} (h : ¬ P) : TellB (.returned (.bool false)) P := ⟨false, rfl, (fun e => by cases e), fun e => absurd e h⟩
theorem take_next {α : Type} {l m : List α} {i : Nat} {x y : α} (h : l.take i = m.take i) (hx : l[i]? = some x) (hy : m[i]? = some y) (e : x = y) : l.take (i + 1) = m.take (i + 1) := by
  rw [List.take_add_one, List.take_add_one, h, hx, hy, e]
theorem ne_at {α : Type} {l m : List α} {i : Nat} {x y : α} (hx : l[i]? = some x) (hy : m[i]? = some y) (e : ¬ x = y) : ¬ l = m := fun h => by
  subst h
  rw [hx] at hy
  exact e (by simpa using hy)
theorem eq_end {α : Type} {l m : List α} {i : Nat} (h : l.take i = m.take i) (h1 : l.length = i) (h2 : m.length = i) : l = m := by
  rw [List.take_of_length_le (by omega), List.take_of_length_le (by omega)] at h
  exact h
theorem mb_ext {a b : Mb} (h1 : a.v = b.v) (h2 : a.ps = b.ps) : a = b := by cases a; cases b; simp_all
theorem pv_ext {p q : Pv} (h1 : p.o = q.o) (h2 : p.ks = q.ks) (h3 : p.ms = q.ms) (h4 : p.cs = q.cs) (h5 : p.bs = q.bs) : p = q := by cases p; cases q; simp_all
def eqO (a b : O6) : Bool := eq6 a.a a.b a.c a.d a.e a.f b.a b.b b.c b.d b.e b.f
theorem eqO_iff {a b : O6} : eqO a b = true ↔ a = b := by
  unfold eqO
  rw [eq6_iff]
  cases a; cases b
  simp
theorem eqlO0 (a b : O6) (w : World) : (Op.equalIn 10000 23 (.agg a.cs) (.agg b.cs)).run Try.prog w = .ok (eqO a b) w := eqMac ..
end

section
set_option linter.unusedVariables false
set_option maxRecDepth 4000
set_option linter.unusedSimpArgs false
open Go.RowKit
attribute [local go_sem ↓] ldM stM ldC stC ldB stB ldP stP apI bsI
attribute [local go_sem] bsI_is bsI2_is

attribute [local go_sem ↓] eqgM eqgC neqM neqC eqlM eqlC ldO
theorem eqM_no {a b : Mp} (h : ¬ a = b) : eqM a b = false := by
  cases hh : eqM a b with
  | false => rfl
  | true => exact absurd (eqM_iff.1 hh) h
theorem eqC_no {a b : Cr} (h : ¬ a = b) : eqC a b = false := by
  cases hh : eqC a b with
  | false => rfl
  | true => exact absurd (eqC_iff.1 hh) h
theorem gdO : Try.prog.eqGuardType Try.prog.depth 23 = false := by kernel_rfl
theorem eqgO (op : BinOp) (x y : Operand) (a b : O6) (w : World) : (eqGuard op 23 x y (.agg a.cs) (.agg b.cs)).run Try.prog w = .ok () w := run_eqGuard_agg w op _ x y _ _ gdO
theorem neqO (a b : O6) (w : World) : (binOp .neq 23 (.agg a.cs) (.agg b.cs)).run Try.prog w = .ok (.bool (!(eqO a b))) w := by
  rw [run_neq_struct, eqlO0]
  rfl
theorem eqlO (a b : O6) (w : World) : (binOp .eql 23 (.agg a.cs) (.agg b.cs)).run Try.prog w = .ok (.bool (eqO a b)) w := by
  rw [run_eql_struct, eqlO0]
  rfl
attribute [local go_sem ↓] eqgO neqO eqlO
/-- Two rows of numbers, the same? -/
def eqIs : List Int → List Int → Bool
  | [], [] => true
  | x :: l, y :: m => x == y && eqIs l m
  | _, _ => false
theorem eqIs_iff : ∀ {l m : List Int}, eqIs l m = true ↔ l = m
  | [], [] => by simp [eqIs]
  | [], y :: m => by simp [eqIs]
  | x :: l, [] => by simp [eqIs]
  | x :: l, y :: m => by rw [eqIs, Bool.and_eq_true, eqIs_iff]; simp
theorem eqIs_no {l m : List Int} (h : ¬ l = m) : eqIs l m = false := by
  cases hh : eqIs l m with
  | false => rfl
  | true => exact absurd (eqIs_iff.1 hh) h
end

end Go.Proofs.Ytgjagedngdhdaaa
