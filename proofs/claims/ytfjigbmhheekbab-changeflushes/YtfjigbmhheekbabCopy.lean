/-
  Copies of trees: the walks of Copy, of the definition's and of Few.
-/
import Derived.Test.YtfjigbmhheekbabBlk
namespace Go.Proofs.Ytfjigbmhheekbab
set_option linter.unusedVariables false
set_option maxRecDepth 4000
set_option linter.unusedSimpArgs false
open Go.RowKit

theorem Own.base {W : World} {B B' : Nat} {v : Value} {l : List Pt} (h : Own W B v l) (hb : B' ≤ B) : Own W B' v l := by
  rcases h.pat with ⟨rfl, rfl⟩ | ⟨g, c, rfl, hB, hp⟩
  · exact Own.nil W B'
  · exact hp.own (by omega)
theorem Own.one {W : World} {B : Nat} {v : Value} {l : List Pt} (h : Own W B v l) : v.oneCell' = true := by
  rcases h.pat with ⟨rfl, rfl⟩ | ⟨g, c, rfl, hB, hp⟩ <;> rfl
theorem Own.apart {W : World} {B b : Nat} {v : Value} {l : List Pt} (h : Own W B v l) (hb : b < B) : v.ownBlock = none ∨ v.ownBlock ≠ some b := by
  rcases h.pat with ⟨rfl, rfl⟩ | ⟨g, c, rfl, hB, hp⟩
  · exact Or.inl rfl
  · refine Or.inr fun e => ?_
    simp only [Value.ownBlock, Option.some.injEq] at e
    omega
def nilS : Value := .slice none 0 0
/-- A tree of nothing. -/
def zeroT : Array Value := #[.int .u64 0, .int .u8 0, .int .u8 0, .int .u8 0, .int .u8 0, .int .u8 0, .bool false, .int .u16 0, .int .u64 0, .int .u32 0, .int .u64 0, .int .u16 0, .int .u8 0, .int .u8 0, .int .u8 0, .int .u8 0, .slice none 0 0]
theorem zeroT_is : zeroT = trc zeroH (.slice none 0 0) := by kernel_rfl
theorem two_t (w : World) (h : Hd) (x : Value) : ∃ W, (w.alloc (.cells (trc h x) 31)).alloc (.cells #[.int .u64 0, .int .u8 0, .int .u8 0, .int .u8 0, .int .u8 0, .int .u8 0, .bool false, .int .u16 0, .int .u64 0, .int .u32 0, .int .u64 0, .int .u16 0, .int .u8 0, .int .u8 0, .int .u8 0, .int .u8 0, .slice none 0 0] 31) = W ∧ RvAt W w.heap.size 31 (trc h x) ∧ RvAt W (w.heap.size + 1) 31 (trc zeroH (.slice none 0 0)) ∧ Below w.heap.size w W ∧ W.heap.size = w.heap.size + 2 := by
  obtain ⟨A, hA⟩ : ∃ A, w.alloc (.cells (trc h x) 31) = A := ⟨_, rfl⟩
  have bA : Below w.heap.size w A := by rw [← hA]; exact (Below.refl _ _).alloc (Nat.le_refl _) _
  have rA : RvAt A w.heap.size 31 (trc h x) := by rw [← hA]; exact RvAt.new w _ _
  have zA : A.heap.size = w.heap.size + 1 := by rw [← hA]; simp
  rw [hA]
  have bB : Below A.heap.size A (A.alloc (.cells zeroT 31)) := (Below.refl _ _).alloc (Nat.le_refl _) _
  refine ⟨_, rfl, rA.below bB, ?_, below_over bA bB, by simp [zA]⟩
  rw [← zA, ← zeroT_is]
  exact RvAt.new A _ _
attribute [local go_sem ↓] ldP stP ldT stT apE st32
/-- A part of a slice of ports. -/
def slS (x : Value) (lo hi mx : Option Value) : Sem Value := Instr.sliceAt 29 x lo hi mx
theorem slP (x : Value) (lo hi mx : Option Value) : Instr.sliceAt 29 x lo hi mx = slS x lo hi mx := rfl
theorem SlAt.cut {W : World} {a : Option Addr} {n c : Nat} {l : List Pt} (h : SlAt W a n c l) {m : Nat} (hm : m ≤ n) : SlAt W a m c (l.take m) := by
  refine ⟨by rw [List.length_take, h.len]; omega, by have := h.cap; omega, h.max, fun e => ⟨by have := (h.nil e).1; omega, (h.nil e).2⟩, fun x hx h0 => ?_⟩
  obtain ⟨b, o, e, hc⟩ := h.cells x hx (by omega)
  refine ⟨b, o, e, fun j u hj => hc j u ?_⟩
  rw [flat_get] at hj ⊢
  rw [List.getElem?_take] at hj
  split at hj
  · exact hj
  · cases hj
theorem sl_cut (a : Option Addr) (n c m : Nat) (hm : m ≤ n) (hc : n ≤ c) (V : World) : (slS (.slice a n c) none (some (.int .i64 m)) none).run Try.prog V = .ok (.slice a m c) V := by
  have hin : (m : Int) ≤ (c : Int) := by omega
  have hz := Try.sizeOf41
  have hu : Try.prog.underlying 29 = some (.slice 41) := Try.underlying29
  unfold slS
  simp only [Instr.sliceAt, Sem.run_bind, run_underlying hu, Result.andThen_ok]
  simp only [Instr.slice, Sem.run_bind, run_underlying hu, Result.andThen_ok, Instr.sliceBounds, Sem.run_pure]
  rw [run_sliceBound V .i64 (m : Int) c _ (by omega) hin]
  simp only [Result.andThen_ok, Sem.run_pure, hz V, Int.toNat_natCast]
  cases a <;> simp [Addr.add]
theorem zero_new (W : World) (B : Nat) (hB : B ≤ W.heap.size) : Own (W.alloc (.cells #[] 41)) B (.slice (some ⟨W.heap.size, 0, none⟩) 0 0) [] :=
  ⟨rfl, Or.inr ⟨W.heap.size, 0, #[], rfl, hB, alloc_at W _, Nat.le_refl _, by simp, rfl, rfl⟩⟩
attribute [local go_sem ↓] slP
end Go.Proofs.Ytfjigbmhheekbab
