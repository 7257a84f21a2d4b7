/-
  The walk of the closure that reads bits, for every width.
-/
import Derived.Test.YteljcgdenagcmaaWrite
namespace Go.Proofs.Yteljcgdenagcmaa
set_option linter.unusedVariables false
open Go.RowKit

/-- A world that is a later one of w, with a count g of its own, which is k. -/
structure RAt (w wr : World) (g : Nat) (k : Nat) : Prop where
  below : Below w.heap.size w wr
  hg : w.heap.size ≤ g
  at_ : wr.heap[g]? = some (.cells #[.int .i64 k] 3 (0, 0))

theorem RAt.step {w wr : World} {g k : Nat} (h : RAt w wr g k) (d k' : Nat) : RAt w ((wr.drewN d).setCell ⟨g, 0, none⟩ (.int .i64 k')) g k' where
  below := by
    have := h.below.setCell (p := ⟨g, 0, none⟩) h.hg (.int .i64 k')
    exact ⟨this.os, this.tape, this.output, this.size, this.block⟩
  hg := h.hg
  at_ := by
    show (wr.setCell ⟨g, 0, none⟩ (.int .i64 k')).heap[g]? = _
    exact one_setCell h.at_

theorem RAt.cell {w wr : World} {g k : Nat} (h : RAt w wr g k) (i o : Nat) (h1 : i < w.heap.size) : wr.cell? ⟨i, o, none⟩ = w.cell? ⟨i, o, none⟩ :=
  h.below.cell (p := ⟨i, o, none⟩) h1

/-- The i bits of N behind the first k. -/
def rN (n N k i : Nat) : Nat := N / 2 ^ (8 * n - k - i) % 2 ^ i

theorem rN_step {n N k i : Nat} (hk : k + i < 8 * n) : rN n N k (i + 1) = 2 * rN n N k i + N / 2 ^ (8 * n - (k + i) - 1) % 2 := by
  unfold rN
  rw [show 8 * n - k - (i + 1) = 8 * n - (k + i) - 1 by omega, show 8 * n - k - i = (8 * n - (k + i) - 1) + 1 by omega, Nat.pow_succ', Nat.mod_mul, Nat.pow_succ 2 (8 * n - (k + i) - 1), ← Nat.div_div_eq_div_mul]
  omega

theorem rN_lt (n N k i : Nat) : rN n N k i < 2 ^ i := Nat.mod_lt _ (Nat.pow_pos (by omega))

theorem or_two (a t : Nat) (ht : t < 2) (ha : a < 4294967296) : bits .or .i64 ((a : Int) * 2) (t : Int) = ((2 * a + t : Nat) : Int) := by
  rw [show (a : Int) * 2 = ((a * 2 : Nat) : Int) by omega, i64_or_nat _ _ (by omega) (by omega)]
  have := Nat.shiftLeft_add_eq_or_of_lt (a := a) (b := t) (i := 1) (by omega)
  rw [Nat.shiftLeft_eq] at this
  rw [← show a * 2 ^ 1 = a * 2 from rfl, ← this]
  omega

theorem byN_bd (n N j : Nat) : 0 ≤ byN n N j ∧ byN n N j < 256 := by unfold byN; split <;> omega

theorem get_bit (n N at_ : Nat) (hat : at_ < 8 * n) : wrap64 (bits .and .u8 (byN n N (at_ / 8) / 2 ^ (7 - at_ % 8)) 1) = ((N / 2 ^ (8 * n - at_ - 1) % 2 : Nat) : Int) := by
  rw [← byN_get n N at_ hat]
  have hb := byN_bd n N (at_ / 8)
  obtain ⟨y, hy⟩ := Int.eq_ofNat_of_zero_le hb.1
  rw [hy] at hb ⊢
  have e : ((y : Int) / 2 ^ (7 - at_ % 8)) = ((y / 2 ^ (7 - at_ % 8) : Nat) : Int) := by simp
  have hle : y / 2 ^ (7 - at_ % 8) ≤ y := Nat.div_le_self _ _
  rw [e, show (1 : Int) = ((1 : Nat) : Int) from rfl, u8_and_nat _ _ (by omega) (by omega), and1]
  unfold wrap64
  omega

set_option maxHeartbeats 400000 in
theorem read_any (m k n b o L c g x N : Nat) (w W : World) (hn : n ≤ L) (hL : L ≤ maxLen) (hk : k + m ≤ 8 * n) (hm : m ≤ 24) (hcp : n ≤ 4)
    (hrow : ∀ j, j < n → W.cell? ⟨b, o + j, none⟩ = some (.int .u8 (byN n N j))) (hbox : W.cell? ⟨x, 0, none⟩ = some (.slice (some ⟨b, o, none⟩) L c))
    (h : RAt W w g k) :
    Calls Try.prog 73 #[.int .i64 m, .pointer (some ⟨x, 0, none⟩), .pointer (some ⟨g, 0, none⟩)] w fun r w' => r = .returned (.int .i64 (rN n N k m)) ∧ RAt W w' g (k + m) := by
  have hbg : 0 < n → b < W.heap.size := fun hn => World.block_lt_of_cell? W _ (hrow 0 hn)
  have hxg : x < W.heap.size := World.block_lt_of_cell? W _ hbox
  go_enter Try.func73, Try.ntmps73
  go_wp2
  go_loopw [5, 7] (fun v5 v7 wr => ∃ i : Nat, i ≤ m ∧ v5 = .int .i64 (rN n N k i) ∧ v7 = .int .i64 i ∧ RAt W wr g (k + i)) (fun _ v7 _ => m - (intOf v7).toNat)
  case atStart =>
    refine ⟨0, by omega, ?_, rfl, h⟩
    have : rN n N k 0 = 0 := by unfold rN; rw [Nat.pow_zero, Nat.mod_one]
    rw [this]
    rfl
  case round =>
    obtain ⟨i, hi, rfl, rfl, ht⟩ := hrel
    have hr0 := rN_lt n N k i
    have hr1 : 2 ^ i ≤ 2 ^ 24 := Nat.pow_le_pow_right (by omega) (by omega)
    have hr : rN n N k i < 16777216 := Nat.lt_of_lt_of_le hr0 hr1
    clear hr0 hr1
    by_cases hlt : i < m
    · have h1 := (ht.cell x 0 hxg).trans hbox
      have h2 := cell_of_one ht.at_
      have h3 := free_of_one ht.at_
      have hj : (k + i) / 8 < n := by omega
      have hjL : (k + i) / 8 < L := by omega
      have h4 := (ht.cell b (o + (k + i) / 8) (hbg (by omega))).trans (hrow _ hj)
      have hT : Hid (RAt W _ g (k + i)) := ht
      clear ht h hbox hrow
      unfold maxLen at hL
      go_wp2
      go_quiet (fail)
      go_wp2
      go_roundw
      case rel =>
        refine ⟨i + 1, by omega, ?_, ?_, hT.out.step nq (k + (i + 1))⟩
        · rw [get_bit n N (k + i) (by omega), or_two _ _ (Nat.mod_lt _ (by omega)) (by omega), rN_step (by omega)]
        · go_num
      case measure => simp [intOf]; omega
    · have : i = m := by omega
      subst this
      have hT : Hid (RAt W _ g (k + i)) := ht
      clear ht h hbox hrow
      go_wp2
      go_ret
      exact ⟨rfl, hT.out⟩
end Go.Proofs.Yteljcgdenagcmaa
