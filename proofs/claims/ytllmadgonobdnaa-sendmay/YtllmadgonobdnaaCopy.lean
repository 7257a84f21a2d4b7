/-
  Copies of trees: the walks of Copy, of the definition's and of Few.
-/
import Derived.Test.YtllmadgonobdnaaBlk
namespace Go.Proofs.Ytllmadgonobdnaa
set_option linter.unusedVariables false
set_option maxRecDepth 4000
set_option linter.unusedSimpArgs false
open Go.RowKit

theorem Own.base {W : World} {B B' : Nat} {v : Value} {l : List Pt} (h : Own W B v l) (hb : B' ≤ B) : Own W B' v l := by
  rcases h.pat with ⟨rfl, rfl⟩ | ⟨g, c, rfl, hB, hp⟩
  · exact Own.nil W B'
  · exact hp.own (by omega)
theorem Own.one {W : World} {B : Nat} {v : Value} {l : List Pt} (h : Own W B v l) : v.oneCell' = true := by
  rcases h.pat with ⟨rfl, rfl⟩ | ⟨g, c, rfl, hB, hp⟩ <;> rfl
theorem Own.apart {W : World} {B b : Nat} {v : Value} {l : List Pt} (h : Own W B v l) (hb : b < B) : v.ownBlock = none ∨ v.ownBlock ≠ some b := by
  rcases h.pat with ⟨rfl, rfl⟩ | ⟨g, c, rfl, hB, hp⟩
  · exact Or.inl rfl
  · refine Or.inr fun e => ?_
    simp only [Value.ownBlock, Option.some.injEq] at e
    omega
def nilS : Value := .slice none 0 0
/-- A tree of nothing. -/
def zeroT : Array Value := #[.int .u64 0, .int .u8 0, .int .u8 0, .int .u8 0, .int .u8 0, .int .u8 0, .bool false, .int .u16 0, .int .u64 0, .int .u32 0, .int .u64 0, .int .u16 0, .int .u8 0, .int .u8 0, .int .u8 0, .int .u8 0, .slice none 0 0]
theorem zeroT_is : zeroT = trc zeroH (.slice none 0 0) := by kernel_rfl
theorem two_t (w : World) (h : Hd) (x : Value) : ∃ W, (w.alloc (.cells (trc h x) 31)).alloc (.cells #[.int .u64 0, .int .u8 0, .int .u8 0, .int .u8 0, .int .u8 0, .int .u8 0, .bool false, .int .u16 0, .int .u64 0, .int .u32 0, .int .u64 0, .int .u16 0, .int .u8 0, .int .u8 0, .int .u8 0, .int .u8 0, .slice none 0 0] 31) = W ∧ RvAt W w.heap.size 31 (trc h x) ∧ RvAt W (w.heap.size + 1) 31 (trc zeroH (.slice none 0 0)) ∧ Below w.heap.size w W ∧ W.heap.size = w.heap.size + 2 := by
  obtain ⟨A, hA⟩ : ∃ A, w.alloc (.cells (trc h x) 31) = A := ⟨_, rfl⟩
  have bA : Below w.heap.size w A := by rw [← hA]; exact (Below.refl _ _).alloc (Nat.le_refl _) _
  have rA : RvAt A w.heap.size 31 (trc h x) := by rw [← hA]; exact RvAt.new w _ _
  have zA : A.heap.size = w.heap.size + 1 := by rw [← hA]; simp
  rw [hA]
  have bB : Below A.heap.size A (A.alloc (.cells zeroT 31)) := (Below.refl _ _).alloc (Nat.le_refl _) _
  refine ⟨_, rfl, rA.below bB, ?_, below_over bA bB, by simp [zA]⟩
  rw [← zA, ← zeroT_is]
  exact RvAt.new A _ _
attribute [local go_sem ↓] ldP stP ldT stT apE st32
/-- A part of a slice of ports. -/
def slS (x : Value) (lo hi mx : Option Value) : Sem Value := Instr.sliceAt 29 x lo hi mx
theorem slP (x : Value) (lo hi mx : Option Value) : Instr.sliceAt 29 x lo hi mx = slS x lo hi mx := rfl
theorem SlAt.cut {W : World} {a : Option Addr} {n c : Nat} {l : List Pt} (h : SlAt W a n c l) {m : Nat} (hm : m ≤ n) : SlAt W a m c (l.take m) := by
  refine ⟨by rw [List.length_take, h.len]; omega, by have := h.cap; omega, h.max, fun e => ⟨by have := (h.nil e).1; omega, (h.nil e).2⟩, fun x hx h0 => ?_⟩
  obtain ⟨b, o, e, hc⟩ := h.cells x hx (by omega)
  refine ⟨b, o, e, fun j u hj => hc j u ?_⟩
  rw [flat_get] at hj ⊢
  rw [List.getElem?_take] at hj
  split at hj
  · exact hj
  · cases hj
theorem sl_cut (a : Option Addr) (n c m : Nat) (hm : m ≤ n) (hc : n ≤ c) (V : World) : (slS (.slice a n c) none (some (.int .i64 m)) none).run Try.prog V = .ok (.slice a m c) V := by
  have hin : (m : Int) ≤ (c : Int) := by omega
  have hz := Try.sizeOf53
  have hu : Try.prog.underlying 29 = some (.slice 53) := Try.underlying29
  unfold slS
  simp only [Instr.sliceAt, Sem.run_bind, run_underlying hu, Result.andThen_ok]
  simp only [Instr.slice, Sem.run_bind, run_underlying hu, Result.andThen_ok, Instr.sliceBounds, Sem.run_pure]
  rw [run_sliceBound V .i64 (m : Int) c _ (by omega) hin]
  simp only [Result.andThen_ok, Sem.run_pure, hz V, Int.toNat_natCast]
  cases a <;> simp [Addr.add]
theorem zero_new (W : World) (B : Nat) (hB : B ≤ W.heap.size) : Own (W.alloc (.cells #[] 53)) B (.slice (some ⟨W.heap.size, 0, none⟩) 0 0) [] :=
  ⟨rfl, Or.inr ⟨W.heap.size, 0, #[], rfl, hB, alloc_at W _, Nat.le_refl _, by simp, rfl, rfl⟩⟩
set_option maxHeartbeats 4000000 in
theorem rcopy_any (h : Hd) (a : Option Addr) (n c : Nat) (l : List Pt) (w : World) (hs : SlAt w a n c l) (hn : n ≤ 1000) :
    Calls Try.prog 36 #[.agg (trc h (.slice a n c))] w fun r w' => ∃ v, r = .returned (.agg (trc h v)) ∧ Own w' w.heap.size v l ∧ Below w.heap.size w w' := by
  obtain ⟨W, hW, r0, r1, bW, zW⟩ := two_t w h (.slice a n c)
  obtain ⟨W1, hW1⟩ : ∃ W1, W.alloc (.cells #[] 53) = W1 := ⟨_, rfl⟩
  have b1 : Below W.heap.size W W1 := by rw [← hW1]; exact (Below.refl _ _).alloc (Nat.le_refl _) _
  have o1 : Own W1 (w.heap.size + 2) (.slice (some ⟨w.heap.size + 2, 0, none⟩) 0 0) [] := by rw [← hW1, ← zW]; exact zero_new W _ (Nat.le_refl _)
  have z1 : W1.heap.size = w.heap.size + 3 := by rw [← hW1]; simp [zW]
  obtain ⟨v, W2, ap, o2, g2⟩ := o1.app (hs.below (below_over bW b1)) (by have := hs.len; simp; omega) (by omega) 29
  rw [List.nil_append] at o2
  have b2 : Below (w.heap.size + 2) W1 W2 := below_of_grown g2 (by omega) (fun j e => by cases e; exact Nat.le_refl _)
  have q0 := (r0.below b1).keptBut g2 (by simp [Value.ownBlock])
  have q1 := (r1.below b1).keptBut g2 (by simp [Value.ownBlock])
  obtain ⟨W3, s3, r3, g3⟩ := q0.tset o2.one
  have o3 := o2.keptBut g3 (o2.apart (by omega))
  have q3 := q1.keptBut g3 (by simp)
  obtain ⟨W4, s4, r4, g4⟩ := q3.tst (g := h) (y := v) o2.one
  have o4 := o3.keptBut g4 (o3.apart (by omega))
  have b4 : Below w.heap.size w W4 := gro (gro ((below_over bW b1).trans (b2.mono (by omega))) g3 (Nat.le_refl _) (by have := b2.size; omega)) g4 (by omega) (by have := b2.size; have := g3.size; omega)
  have c16 := (r0.below b1).t16
  have l3 := r3.tld
  have F : Hid (RvAt W4 (w.heap.size + 1) 31 (trc h v) ∧ Own W4 w.heap.size v l ∧ Below w.heap.size w W4) := ⟨r4, o4.base (by omega), b4⟩
  clear hs hn r0 r1 bW b1 o1 z1 o2 g2 b2 q0 q1 r3 g3 o3 q3 r4 g4 o4 b4
  go_enter Try.func36, Try.ntmps36
  go_wp2
  refine bodyPost_ret (results_row rtT Try.results36 _ _ _ _ rfl F.out.1 (trc_size _ _)) rfl ?_
  exact ⟨v, rfl, F.out.2.1, F.out.2.2⟩
attribute [local go_sem ↓] slP
set_option maxHeartbeats 4000000 in
theorem few_any (h : Hd) (a : Option Addr) (n c : Nat) (l : List Pt) (w : World) (hs : SlAt w a n c l) :
    Calls Try.prog 7 #[.agg (trc h (.slice a n c))] w fun r w' => ∃ v, r = .returned (.agg (trc h v)) ∧ Own w' w.heap.size v (l.take 10) ∧ Below w.heap.size w w' := by
  obtain ⟨m, hm, e10, hml⟩ : ∃ m : Nat, m ≤ n ∧ (if (10 : Int) < (n : Int) then (10 : Int) else (n : Int)) = (m : Int) ∧ m = min n 10 := by
    refine ⟨min n 10, by omega, ?_, rfl⟩
    split <;> omega
  have hlm : l.take m = l.take 10 := by
    have := hs.len
    rw [hml, ← this]
    rcases Nat.le_total l.length 10 with h | h
    · rw [Nat.min_eq_left h, List.take_of_length_le (Nat.le_refl _), List.take_of_length_le h]
    · rw [Nat.min_eq_right h]
  obtain ⟨W, hW, r0, r1, bW, zW⟩ := two_t w h (.slice a n c)
  obtain ⟨W1, hW1⟩ : ∃ W1, W.alloc (.cells #[] 53) = W1 := ⟨_, rfl⟩
  have b1 : Below W.heap.size W W1 := by rw [← hW1]; exact (Below.refl _ _).alloc (Nat.le_refl _) _
  have o1 : Own W1 (w.heap.size + 2) (.slice (some ⟨w.heap.size + 2, 0, none⟩) 0 0) [] := by rw [← hW1, ← zW]; exact zero_new W _ (Nat.le_refl _)
  have z1 : W1.heap.size = w.heap.size + 3 := by rw [← hW1]; simp [zW]
  have hs1 := (hs.cut hm).below (below_over bW b1)
  rw [hlm] at hs1
  obtain ⟨v, W2, ap, o2, g2⟩ := o1.app hs1 (by have := hs1.len; simp; omega) (by omega) 29
  rw [List.nil_append] at o2
  have b2 : Below (w.heap.size + 2) W1 W2 := below_of_grown g2 (by omega) (fun j e => by cases e; exact Nat.le_refl _)
  have q0 := (r0.below b1).keptBut g2 (by simp [Value.ownBlock])
  have q1 := (r1.below b1).keptBut g2 (by simp [Value.ownBlock])
  obtain ⟨W3, s3, r3, g3⟩ := q0.tset o2.one
  have o3 := o2.keptBut g3 (o2.apart (by omega))
  have q3 := q1.keptBut g3 (by simp)
  obtain ⟨W4, s4, r4, g4⟩ := q3.tst (g := h) (y := v) o2.one
  have o4 := o3.keptBut g4 (o3.apart (by omega))
  have b4 : Below w.heap.size w W4 := gro (gro ((below_over bW b1).trans (b2.mono (by omega))) g3 (Nat.le_refl _) (by have := b2.size; omega)) g4 (by omega) (by have := b2.size; have := g3.size; omega)
  have c16 := (r0.below b1).t16
  have sl := sl_cut a n c m hm hs.cap
  have l3 := r3.tld
  have F : Hid (RvAt W4 (w.heap.size + 1) 31 (trc h v) ∧ Own W4 w.heap.size v (l.take 10) ∧ Below w.heap.size w W4) := ⟨r4, o4.base (by omega), b4⟩
  clear hs hs1 hm hml hlm r0 r1 bW b1 o1 z1 o2 g2 b2 q0 q1 r3 g3 o3 q3 r4 g4 o4 b4
  go_enter Try.func7, Try.ntmps7
  go_wp2
  refine bodyPost_ret (results_row rtT Try.results7 _ _ _ _ rfl F.out.1 (trc_size _ _)) rfl ?_
  exact ⟨v, rfl, F.out.2.1, F.out.2.2⟩
set_option maxHeartbeats 4000000 in
theorem copy_any (h : Hd) (a : Option Addr) (n c : Nat) (l : List Pt) (w : World) (hs : SlAt w a n c l) (hn : n ≤ 1000) :
    Calls Try.prog 38 #[.agg (trc h (.slice a n c))] w fun r w' => ∃ v, r = .returned (.agg (trc h v)) ∧ Own w' w.heap.size v l ∧ Below w.heap.size w w' := by
  obtain ⟨W, hW, r0, r1, bW, zW⟩ := two_t w h (.slice a n c)
  obtain ⟨v, W2, ap, o2, g2⟩ := (Own.nil W (w.heap.size + 2)).app (hs.below bW) (by have := hs.len; simp; omega) (by omega) 29
  have b2 : Below W.heap.size W W2 := below_of_grown g2 (Nat.le_refl _) (fun j e => by cases e)
  rw [List.nil_append] at o2
  obtain ⟨W3, s3, r3, g3⟩ := (r0.below b2).tset o2.one
  have o3 := o2.keptBut g3 (o2.apart (by omega))
  have q3 := (r1.below b2).keptBut g3 (by simp)
  obtain ⟨W4, s4, r4, g4⟩ := q3.tst (g := h) (y := v) o2.one
  have o4 := o3.keptBut g4 (o3.apart (by omega))
  have b4 : Below w.heap.size w W4 := gro (gro (bW.trans (b2.mono (by omega))) g3 (Nat.le_refl _) (by have := b2.size; omega)) g4 (by omega) (by have := b2.size; have := g3.size; omega)
  have c16 := r0.t16
  have l3 := r3.tld
  have F : Hid (RvAt W4 (w.heap.size + 1) 31 (trc h v) ∧ Own W4 w.heap.size v l ∧ Below w.heap.size w W4) := ⟨r4, o4.base (by omega), b4⟩
  clear hs hn r0 r1 bW zW o2 g2 b2 r3 g3 o3 q3 r4 g4 o4 b4
  go_enter Try.func38, Try.ntmps38
  go_wp2
  refine bodyPost_ret (results_row rtT Try.results38 _ _ _ _ rfl F.out.1 (trc_size _ _)) rfl ?_
  exact ⟨v, rfl, F.out.2.1, F.out.2.2⟩
end Go.Proofs.Ytllmadgonobdnaa
