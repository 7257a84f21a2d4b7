/-
  The definition's databases in memory: their cells, parts of their rows. Plain laws over the program's types.
-/
import Derived.Test.YtpbpofmlpbobmaaFin
namespace Go.Proofs.Ytpbpofmlpbobmaa
set_option linter.unusedVariables false
set_option maxRecDepth 4000
set_option linter.unusedSimpArgs false
open Go.RowKit

/-- The cells of the definition's database. -/
def Cf.rs (c : Cf) (a : Option Addr) (n k : Nat) : Array Value := #[.int .i64 c.ports, .int .i64 c.room, .int .i64 c.age, .slice a n k]
theorem Cf.rsize (c : Cf) (a : Option Addr) (n k : Nat) : (c.rs a n k).size = 4 := rfl
theorem Cf.rone (c : Cf) (a : Option Addr) (n k : Nat) : ∀ v ∈ (c.rs a n k).toList, v.oneCell' = true := by
  intro v hv
  simp only [Cf.rs, List.mem_cons, List.not_mem_nil, or_false] at hv
  rcases hv with rfl | rfl | rfl | rfl <;> rfl
theorem infoR : (Try.prog.info? 29).map (·.size) = some 4 := by kernel_rfl
theorem rtR : RowTy 29 4 := ⟨infoR, _, Try.underlying29, rfl⟩
theorem ldR (x : Value) : Instr.loadAt 29 x = ldS 29 x := rfl
theorem stR (x y : Value) : Instr.storeAt 29 x y = stS 29 x y := rfl
/-- A part of a row of entries. -/
def slS (x : Value) (lo hi mx : Option Value) : Sem Value := Instr.sliceAt 27 x lo hi mx
theorem slE (x : Value) (lo hi mx : Option Value) : Instr.sliceAt 27 x lo hi mx = slS x lo hi mx := rfl
theorem elemE : Try.prog.underlying 27 = some (.slice 55) := Try.underlying27
theorem drop_flat (l : List En) (i j : Nat) : ((l.drop i).flatMap En.cl)[j]? = (l.flatMap En.cl)[i * 10 + j]? := by
  rw [flat_get, flat_get, show (i * 10 + j) / 10 = i + j / 10 by omega, show (i * 10 + j) % 10 = j % 10 by omega, List.getElem?_drop]
theorem take_flat {l : List En} {i j : Nat} {u : Value} (h : ((l.take i).flatMap En.cl)[j]? = some u) : (l.flatMap En.cl)[j]? = some u := by
  rw [flat_get] at h ⊢
  rw [List.getElem?_take] at h
  split at h
  · exact h
  · cases h
theorem SlAt.pre {W : World} {a : Option Addr} {n c : Nat} {l : List En} (h : SlAt W a n c l) {i : Nat} (hi : i ≤ n) (V : World) :
    (slS (.slice a n c) none (some (.int .i64 i)) none).run Try.prog V = .ok (.slice a i c) V ∧ SlAt W a i c (l.take i) := by
  constructor
  · have hic : (i : Int) ≤ (c : Int) := by have := h.cap; omega
    have hz := Try.sizeOf55
    have hu := elemE
    unfold slS
    simp only [Instr.sliceAt, Sem.run_bind, run_underlying hu, Result.andThen_ok]
    simp only [Instr.slice, Sem.run_bind, run_underlying hu, Result.andThen_ok, Instr.sliceBounds, Sem.run_pure]
    rw [run_sliceBound V .i64 (i : Int) c _ (by omega) hic]
    simp only [Result.andThen_ok, Sem.run_pure, hz V, Nat.zero_mul, Int.toNat_natCast, Nat.sub_zero]
    split
    · rfl
    · cases a <;> simp [Addr.add]
  · refine ⟨by rw [List.length_take, h.len]; omega, by have := h.cap; omega, h.max, fun e => ?_, h.blk, fun x e => ?_⟩
    · have := h.nil e
      omega
    · obtain ⟨b, o, e2, hc⟩ := h.cells x e
      exact ⟨b, o, e2, fun j u hj => hc j u (take_flat hj)⟩
theorem SlAt.suf {W : World} {a : Option Addr} {n c : Nat} {l : List En} (h : SlAt W a n c l) {i : Nat} (hi : i ≤ n) :
    ∃ a', (∀ V : World, (slS (.slice a n c) (some (.int .i64 i)) none none).run Try.prog V = .ok (.slice a' (n - i) (c - i)) V) ∧ SlAt W a' (n - i) (c - i) (l.drop i) := by
  refine ⟨if c = i then a else a.map (·.add (i * 10)), fun V => ?_, ?_⟩
  · have hin : (i : Int) ≤ (n : Int) := by omega
    have hz := Try.sizeOf55
    have hu := elemE
    unfold slS
    simp only [Instr.sliceAt, Sem.run_bind, run_underlying hu, Result.andThen_ok]
    simp only [Instr.slice, Sem.run_bind, run_underlying hu, Result.andThen_ok, Instr.sliceBounds, Sem.run_pure]
    rw [run_sliceBound V .i64 (i : Int) n _ (by omega) hin]
    simp only [Result.andThen_ok, Sem.run_pure, hz V, Int.toNat_natCast]
  · have hcap := h.cap
    refine ⟨by rw [List.length_drop, h.len], by omega, by have := h.max; omega, fun e => ?_, fun x e => ?_, fun x e => ?_⟩
    · split at e
      · have := h.nil e; omega
      · have := h.nil (by simpa using e); omega
    · split at e
      · exact h.blk x e
      · obtain ⟨y, hy, e3⟩ := Option.map_eq_some_iff.1 e
        obtain ⟨b, o, e2, _⟩ := h.cells y hy
        have := h.blk y hy
        subst e2
        rw [Addr.add_lit] at e3
        rw [← e3]
        exact this
    · split at e
      · next hci =>
        obtain ⟨b, o, e2, hc⟩ := h.cells x e
        refine ⟨b, o, e2, fun j u hj => ?_⟩
        have : l.drop i = [] := List.drop_eq_nil_of_le (by rw [h.len]; omega)
        rw [this] at hj
        simp at hj
      · obtain ⟨y, hy, e3⟩ := Option.map_eq_some_iff.1 e
        obtain ⟨b, o, e2, hc⟩ := h.cells y hy
        subst e2
        rw [Addr.add_lit] at e3
        refine ⟨b, o + i * 10, e3.symm, fun j u hj => ?_⟩
        rw [drop_flat] at hj
        rw [Nat.add_assoc]
        exact hc _ u hj
/-- Block b is a variable of the definition's database. -/
def RdAt (W : World) (b : Nat) (c : Cf) (a : Option Addr) (n k : Nat) : Prop := RvAt W b 29 (c.rs a n k)
theorem RdAt.c1 {W : World} {b : Nat} {c : Cf} {a : Option Addr} {n k : Nat} (h : RdAt W b c a n k) : W.cell? ⟨b, 1, none⟩ = some (.int .i64 c.room) := RvAt.cell h 1 _ rfl
theorem RdAt.c0 {W : World} {b : Nat} {c : Cf} {a : Option Addr} {n k : Nat} (h : RdAt W b c a n k) : W.cell? ⟨b, 0, none⟩ = some (.int .i64 c.ports) := RvAt.cell h 0 _ rfl
theorem RdAt.c2 {W : World} {b : Nat} {c : Cf} {a : Option Addr} {n k : Nat} (h : RdAt W b c a n k) : W.cell? ⟨b, 2, none⟩ = some (.int .i64 c.age) := RvAt.cell h 2 _ rfl
theorem RdAt.c3 {W : World} {b : Nat} {c : Cf} {a : Option Addr} {n k : Nat} (h : RdAt W b c a n k) : W.cell? ⟨b, 3, none⟩ = some (.slice a n k) := RvAt.cell h 3 _ rfl
theorem RdAt.below {W W' : World} {b : Nat} {c : Cf} {a : Option Addr} {n k : Nat} (h : RdAt W b c a n k) (hb : Below W.heap.size W W') : RdAt W' b c a n k := RvAt.below h hb
theorem RdAt.ld {W : World} {b : Nat} {c : Cf} {a : Option Addr} {n k : Nat} (h : RdAt W b c a n k) : (ldS 29 (.pointer (some ⟨b, 0, none⟩))).run Try.prog W = .ok (.agg (c.rs a n k)) W := RvAt.ld rtR h rfl
theorem RdAt.fz {W : World} {b : Nat} {c : Cf} {a : Option Addr} {n k : Nat} (h : RdAt W b c a n k) (o : Nat) : W.frozen? ⟨b, o, none⟩ = false := by
  unfold RdAt RvAt at h
  simp [World.frozen?, h]
/-- Another row, stored. -/
theorem RdAt.set {W : World} {b : Nat} {c : Cf} {a a' : Option Addr} {n k n' k' : Nat} (h : RdAt W b c a n k) : RdAt (W.setCell ⟨b, 3, none⟩ (.slice a' n' k')) b c a' n' k' ∧ W.grownBy (W.setCell ⟨b, 3, none⟩ (.slice a' n' k')) (some b) := by
  unfold RdAt RvAt at h ⊢
  constructor
  · simp [World.setCell, h, Array.getElem?_modify, Cf.rs]
  · refine ⟨rfl, rfl, rfl, by simp, fun i hi hne => ?_⟩
    exact RowKit.Below.heap_setCell _ _ _ _ (fun e => hne (by rw [e]))
end Go.Proofs.Ytpbpofmlpbobmaa
