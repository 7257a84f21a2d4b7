/-
  The walk of the closure that reads bits, and of the one that makes it, told by the one block that they change.
-/
import Derived.Test.YteljcgdenagcmaaPutAny
namespace Go.Proofs.Yteljcgdenagcmaa
set_option linter.unusedVariables false
open Go.RowKit

/-- A world that is as W was, but for block g. -/
structure But (W : World) (g : Nat) where
  val : World
  os : val.os = W.os
  tape : val.tape = W.tape
  output : val.output = W.output
  size : val.heap.size = W.heap.size
  rest : ∀ i, i ≠ g → val.heap[i]? = W.heap[i]?

theorem But.cell {W : World} {g : Nat} (x : But W g) (b o : Nat) (h : b ≠ g) : x.val.cell? ⟨b, o, none⟩ = W.cell? ⟨b, o, none⟩ := World.cell?_of_block (w := W) (x.rest b h)
theorem But.frozen {W : World} {g : Nat} (x : But W g) (b o : Nat) (h : b ≠ g) : x.val.frozen? ⟨b, o, none⟩ = W.frozen? ⟨b, o, none⟩ := World.frozen?_of_block (w := W) (x.rest b h)
theorem But.below {W : World} {g : Nat} (x : But W g) (B : Nat) (h : B ≤ g) : Below B W x.val := ⟨x.os, x.tape, x.output, by rw [x.size]; exact Nat.le_refl _, fun i hi => x.rest i (by omega)⟩

/-- The count g is k, and all else is as in w. -/
structure RBt (w wr : World) (g : Nat) (k : Nat) : Prop where
  os : wr.os = w.os
  tape : wr.tape = w.tape
  output : wr.output = w.output
  size : wr.heap.size = w.heap.size
  rest : ∀ i, i ≠ g → wr.heap[i]? = w.heap[i]?
  at_ : wr.heap[g]? = some (.cells #[.int .i64 k] 3 (0, 0))

theorem RBt.step {w wr : World} {g k : Nat} (h : RBt w wr g k) (d k' : Nat) : RBt w ((wr.drewN d).setCell ⟨g, 0, none⟩ (.int .i64 k')) g k' where
  os := h.os
  tape := h.tape
  output := h.output
  size := by simpa using h.size
  rest := fun i h1 => by
    show (wr.setCell ⟨g, 0, none⟩ (.int .i64 k')).heap[i]? = _
    rw [heap_setCell_other _ _ _ _ (by simpa using h1)]
    exact h.rest i h1
  at_ := by
    show (wr.setCell ⟨g, 0, none⟩ (.int .i64 k')).heap[g]? = _
    exact one_setCell h.at_

theorem RBt.cell {w wr : World} {g k : Nat} (h : RBt w wr g k) (i o : Nat) (h1 : i ≠ g) : wr.cell? ⟨i, o, none⟩ = w.cell? ⟨i, o, none⟩ :=
  World.cell?_of_block (w := w) (h.rest i h1)

set_option maxHeartbeats 400000 in
theorem reads_any (m k n b o L c g x N : Nat) (W : World) (hbg : b ≠ g) (hxg : x ≠ g) (hn : n ≤ L) (hL : L ≤ maxLen) (hk : k + m ≤ 8 * n) (hm : m ≤ 24) (hcp : n ≤ 4)
    (hrow : ∀ j, j < n → W.cell? ⟨b, o + j, none⟩ = some (.int .u8 (byN n N j))) (hbox : W.cell? ⟨x, 0, none⟩ = some (.slice (some ⟨b, o, none⟩) L c))
    (h0 : W.heap[g]? = some (.cells #[.int .i64 k] 3 (0, 0))) :
    Calls Try.prog 73 #[.int .i64 m, .pointer (some ⟨x, 0, none⟩), .pointer (some ⟨g, 0, none⟩)] W fun r w' => r = .returned (.int .i64 (rN n N k m)) ∧ RBt W w' g (k + m) := by
  have h : RBt W W g k := ⟨rfl, rfl, rfl, rfl, fun _ _ => rfl, h0⟩
  clear h0
  go_enter Try.func73, Try.ntmps73
  go_wp2
  go_loopw [5, 7] (fun v5 v7 wr => ∃ i : Nat, i ≤ m ∧ v5 = .int .i64 (rN n N k i) ∧ v7 = .int .i64 i ∧ RBt W wr g (k + i)) (fun _ v7 _ => m - (intOf v7).toNat)
  case atStart =>
    refine ⟨0, by omega, ?_, rfl, h⟩
    have : rN n N k 0 = 0 := by unfold rN; rw [Nat.pow_zero, Nat.mod_one]
    rw [this]
    rfl
  case round =>
    obtain ⟨i, hi, rfl, rfl, ht⟩ := hrel
    have hr0 := rN_lt n N k i
    have hr1 : 2 ^ i ≤ 2 ^ 24 := Nat.pow_le_pow_right (by omega) (by omega)
    have hr : rN n N k i < 16777216 := Nat.lt_of_lt_of_le hr0 hr1
    clear hr0 hr1
    by_cases hlt : i < m
    · have h1 := (ht.cell x 0 hxg).trans hbox
      have h2 := cell_of_one ht.at_
      have h3 := free_of_one ht.at_
      have hj : (k + i) / 8 < n := by omega
      have hjL : (k + i) / 8 < L := by omega
      have h4 := (ht.cell b (o + (k + i) / 8) hbg).trans (hrow _ hj)
      have hT : Hid (RBt W _ g (k + i)) := ht
      clear ht h hbox hrow
      unfold maxLen at hL
      go_wp2
      go_quiet (fail)
      go_wp2
      go_roundw
      case rel =>
        refine ⟨i + 1, by omega, ?_, ?_, hT.out.step nq (k + (i + 1))⟩
        · rw [get_bit n N (k + i) (by omega), or_two _ _ (Nat.mod_lt _ (by omega)) (by omega), rN_step (by omega)]
        · go_num
      case measure => simp [intOf]; omega
    · have : i = m := by omega
      subst this
      have hT : Hid (RBt W _ g (k + i)) := ht
      clear ht h hbox hrow
      go_wp2
      go_ret
      exact ⟨rfl, hT.out⟩

/-- A reading, met in the walk. -/
theorem Calls.on_read {args : Array Value} {W : World} {g k : Nat} {v : Value} {K : Ending → World → Prop}
    (h : Calls Try.prog 73 args W fun r w' => r = .returned v ∧ RBt W w' g k) (k' : ∀ z : But W g, z.val.heap[g]? = some (.cells #[.int .i64 k] 3 (0, 0)) → K (.returned v) z.val) : Calls Try.prog 73 args W K :=
  h.mono fun _ w' ⟨he, hb⟩ => by subst he; exact k' ⟨w', hb.os, hb.tape, hb.output, hb.size, hb.rest⟩ hb.at_

theorem readers_any (a : Option Addr) (n c : Nat) (w : World) :
    Calls Try.prog 70 #[.slice a n c] w fun r w' => r = .returned (.func (.func 73) #[] #[.pointer (some ⟨w.heap.size, 0, none⟩), .pointer (some ⟨w.heap.size + 1, 0, none⟩)]) ∧ w' = (w.alloc (.cells #[.slice a n c] 28)).alloc (.cells #[.int .i64 0] 3) := by
  go_enter Try.func70, Try.ntmps70
  go_wp2
  go_ret
  exact ⟨rfl, rfl⟩

theorem eqnil_some (ad : Addr) (n c : Nat) (w : World) : (binOp .eql 28 (.slice (some ad) n c) (.slice none 0 0)).run Try.prog w = .ok (.bool false) w := by kernel_rfl
theorem eqnil_none (w : World) : (binOp .eql 28 (.slice none 0 0) (.slice none 0 0)).run Try.prog w = .ok (.bool true) w := by kernel_rfl

/-- A slice of bytes, cloned. -/
theorem clone_any (a : Option Addr) (n c : Nat) (l : List Int) (w : World) (h : Src w (.slice a n c) l) (hl : l.length ≤ 2000) :
    Calls Try.prog 36 #[.slice a n c] w fun r w' => ∃ s, r = .returned s ∧ Own w' w.heap.size s l ∧ Below w.heap.size w w' := by
  cases a with
  | none =>
    obtain ⟨a', c', e, _, _, h4, _⟩ := h
    cases e
    obtain ⟨rfl, rfl⟩ := h4 rfl
    have hq := eqnil_none
    go_enter Try.func36, Try.ntmps36
    go_wp2
    go_ret
    exact ⟨_, rfl, World.ownsRow_nil _ _ _ _, Below.refl _ _⟩
  | some ad =>
    have h' : Hid (Src (w.alloc (.cells #[] 5)) (.slice (some ad) n c) l) := h.below ((Below.refl _ _).alloc (Nat.le_refl _) _)
    have ho : Hid (Own (w.alloc (.cells #[] 5)) w.heap.size (.slice (some ⟨w.heap.size, 0, none⟩) 0 0) []) := own_new w [] _ _ #[] rfl rfl (Nat.le_refl _) (by simp)
    clear h
    have hq := eqnil_some ad n c
    go_enter Try.func36, Try.ntmps36
    go_wp2_with (at_builtin; refine wpList_app rfl _ _ rfl (by rfl) (by rfl) ho.out h'.out (by simp; omega) (by simp) ?_)
    intro v7 w7 ho7 hg7 hat7
    have hb7 : Hid (Below w.heap.size w w7) := ((Below.refl _ _).alloc (Nat.le_refl _) _).trans (grown_below ho.out hg7 (by simp))
    have HO7 : Hid (Own w7 w.heap.size v7 l) := ho7
    clear ho7 hg7 hat7
    go_wp2
    go_ret
    exact ⟨_, rfl, HO7.out, hb7.out⟩
end Go.Proofs.Yteljcgdenagcmaa
