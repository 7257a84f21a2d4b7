/-
  Numbers as bits and bytes. Plain arithmetic. The walk of the closure that writes bits, for every width and value. The walk of the closure that reads bits, for every width.
-/
import Derived.Handy
import Derived.Laws.BitsAllLaws
import Derived.Test.YtgjagedngdhdaaaJ06Put
import Derived.BigRegion
namespace Go.Proofs.Ytgjagedngdhdaaa

section
namespace S4
set_option linter.unusedVariables false
open Go.RowKit

theorem i64_and_nat (a b : Nat) (ha : a < 9223372036854775808) (hb : b < 9223372036854775808) : bits .and .i64 (a : Int) (b : Int) = ((a &&& b : Nat) : Int) := by
  have hx : a &&& b < 2 ^ 63 := Nat.and_lt_two_pow _ (by omega)
  have e : ∀ c : Nat, c < 9223372036854775808 → (BitVec.ofInt 64 (c : Int)).toNat = c := fun c hc => by
    rw [BitVec.ofInt_natCast, BitVec.toNat_ofNat]; exact Nat.mod_eq_of_lt (by omega)
  show IntKind.i64.wrap ((BitVec.ofInt 64 (a : Int) &&& BitVec.ofInt 64 (b : Int)).toNat : Int) = _
  rw [BitVec.toNat_and, e a ha, e b hb]
  exact IntWalk.i64_in _ ⟨by omega, by omega⟩

theorem i64_or_nat (a b : Nat) (ha : a < 9223372036854775808) (hb : b < 9223372036854775808) : bits .or .i64 (a : Int) (b : Int) = ((a ||| b : Nat) : Int) := by
  have hx : a ||| b < 2 ^ 63 := Nat.or_lt_two_pow (by omega) (by omega)
  have e : ∀ c : Nat, c < 9223372036854775808 → (BitVec.ofInt 64 (c : Int)).toNat = c := fun c hc => by
    rw [BitVec.ofInt_natCast, BitVec.toNat_ofNat]; exact Nat.mod_eq_of_lt (by omega)
  show IntKind.i64.wrap ((BitVec.ofInt 64 (a : Int) ||| BitVec.ofInt 64 (b : Int)).toNat : Int) = _
  rw [BitVec.toNat_or, e a ha, e b hb]
  exact IntWalk.i64_in _ ⟨by omega, by omega⟩

theorem and1 (a : Nat) : a &&& 1 = a % 2 := Nat.and_two_pow_sub_one_eq_mod a 1

/-- Byte j of the number N of n bytes, the highest first. -/
def byN (n N j : Nat) : Int := if j < n then ((N / 2 ^ (8 * (n - 1 - j)) % 256 : Nat) : Int) else 0

theorem or_low (r Y bit : Nat) (hr : r < 8) (hY : Y % 2 ^ (8 - r) = 0) (hb : bit < 2) : (Y % 256) ||| (bit * 2 ^ (7 - r)) = (Y + bit * 2 ^ (7 - r)) % 256 := by
  have key : ∀ A i c, c < 2 ^ i → (A * 2 ^ i) ||| c = A * 2 ^ i + c := fun A i c h => by
    have := Nat.shiftLeft_add_eq_or_of_lt (a := A) (b := c) (i := i) h
    rw [Nat.shiftLeft_eq] at this
    exact this.symm
  have h8 : r = 0 ∨ r = 1 ∨ r = 2 ∨ r = 3 ∨ r = 4 ∨ r = 5 ∨ r = 6 ∨ r = 7 := by omega
  rcases h8 with rfl | rfl | rfl | rfl | rfl | rfl | rfl | rfl
  · have := key (Y % 256 / 256) 8 (bit * 128) (by omega); simp at this hY ⊢; rw [show Y % 256 = 0 by omega, Nat.zero_or]; omega
  · have := key (Y % 256 / 128) 7 (bit * 64) (by omega); simp at this hY ⊢; rw [show Y % 256 = Y % 256 / 128 * 128 by omega, this]; omega
  · have := key (Y % 256 / 64) 6 (bit * 32) (by omega); simp at this hY ⊢; rw [show Y % 256 = Y % 256 / 64 * 64 by omega, this]; omega
  · have := key (Y % 256 / 32) 5 (bit * 16) (by omega); simp at this hY ⊢; rw [show Y % 256 = Y % 256 / 32 * 32 by omega, this]; omega
  · have := key (Y % 256 / 16) 4 (bit * 8) (by omega); simp at this hY ⊢; rw [show Y % 256 = Y % 256 / 16 * 16 by omega, this]; omega
  · have := key (Y % 256 / 8) 3 (bit * 4) (by omega); simp at this hY ⊢; rw [show Y % 256 = Y % 256 / 8 * 8 by omega, this]; omega
  · have := key (Y % 256 / 4) 2 (bit * 2) (by omega); simp at this hY ⊢; rw [show Y % 256 = Y % 256 / 4 * 4 by omega, this]; omega
  · have := key (Y % 256 / 2) 1 (bit * 1) (by omega); simp at this hY ⊢; rw [show Y % 256 = Y % 256 / 2 * 2 by omega, this]; omega

theorem or_high (r Y bit : Nat) (hr : r < 8) (hY : Y % 2 ^ (8 - r) = 0) (hb : bit < 2) : (Y + bit * 2 ^ (7 - r)) / 256 = Y / 256 := by
  have h8 : r = 0 ∨ r = 1 ∨ r = 2 ∨ r = 3 ∨ r = 4 ∨ r = 5 ∨ r = 6 ∨ r = 7 := by omega
  rcases h8 with rfl | rfl | rfl | rfl | rfl | rfl | rfl | rfl
  all_goals (simp at hY ⊢; omega)

/-- One bit more at the place at. -/
theorem byN_bit (n M at_ bit j : Nat) (hat : at_ < 8 * n) (hM : M % 2 ^ (8 * n - at_) = 0) (hb : bit < 2) :
    byN n (M + bit * 2 ^ (8 * n - at_ - 1)) j = if j = at_ / 8 then bits .or .u8 (byN n M j) ((bit * 2 ^ (7 - at_ % 8) : Nat) : Int) else byN n M j := by
  obtain ⟨q, r, rfl, hr, hq, hr'⟩ : ∃ q r, at_ = 8 * q + r ∧ r < 8 ∧ (8 * q + r) / 8 = q ∧ (8 * q + r) % 8 = r := ⟨at_ / 8, at_ % 8, by omega, by omega, by omega, by omega⟩
  rw [hq, hr']
  have hqn : q < n := by omega
  obtain ⟨d, rfl⟩ : ∃ d, n = q + 1 + d := ⟨n - 1 - q, by omega⟩
  have es : 8 * (q + 1 + d) - (8 * q + r) = (8 - r) + 8 * d := by omega
  have es' : 8 * (q + 1 + d) - (8 * q + r) - 1 = (7 - r) + 8 * d := by omega
  rw [es] at hM
  rw [es']
  obtain ⟨A, hA⟩ := Nat.dvd_of_mod_eq_zero hM
  obtain ⟨Y, hY⟩ : ∃ Y, Y = 2 ^ (8 - r) * A := ⟨_, rfl⟩
  have hYm : Y % 2 ^ (8 - r) = 0 := by rw [hY]; exact Nat.mul_mod_right _ _
  have eM : M = Y * 2 ^ (8 * d) := by rw [hA, hY, Nat.pow_add, Nat.mul_assoc, Nat.mul_assoc, Nat.mul_comm A]
  have eM' : M + bit * 2 ^ (7 - r + 8 * d) = (Y + bit * 2 ^ (7 - r)) * 2 ^ (8 * d) := by rw [eM, Nat.add_mul, Nat.pow_add, ← Nat.mul_assoc]
  rw [eM', eM]
  have hp : 0 < 2 ^ (8 * d) := Nat.pow_pos (by omega)
  have hbit : bit * 2 ^ (7 - r) < 256 := by
    have h8 : r = 0 ∨ r = 1 ∨ r = 2 ∨ r = 3 ∨ r = 4 ∨ r = 5 ∨ r = 6 ∨ r = 7 := by omega
    rcases h8 with rfl | rfl | rfl | rfl | rfl | rfl | rfl | rfl <;> (simp; omega)
  unfold byN
  by_cases hj : j = q
  · subst hj
    rw [if_pos rfl, if_pos (by omega), if_pos (by omega), show j + 1 + d - 1 - j = d by omega, Nat.mul_div_cancel _ hp, Nat.mul_div_cancel _ hp, u8_or_nat _ _ (by omega) hbit, or_low r Y bit hr hYm hb]
  · rw [if_neg hj]
    by_cases hjn : j < q + 1 + d
    · rw [if_pos hjn, if_pos hjn]
      by_cases hlt : j < q
      · have e : 8 * (q + 1 + d - 1 - j) = 8 * d + (8 + 8 * (q - j - 1)) := by omega
        rw [e, Nat.pow_add, ← Nat.div_div_eq_div_mul, ← Nat.div_div_eq_div_mul, Nat.mul_div_cancel _ hp, Nat.mul_div_cancel _ hp, Nat.pow_add, ← Nat.div_div_eq_div_mul, ← Nat.div_div_eq_div_mul]
        have := or_high r Y bit hr hYm hb
        rw [show (2 : Nat) ^ 8 = 256 from rfl, this]
      · have e : 8 * d = 8 * (q + 1 + d - 1 - j) + (8 + 8 * (j - q - 1)) := by omega
        have hz : ∀ X : Nat, X * 2 ^ (8 * d) / 2 ^ (8 * (q + 1 + d - 1 - j)) % 256 = 0 := fun X => by
          have h2 : X * 2 ^ (8 * d) = X * 2 ^ (8 * (j - q - 1)) * 256 * 2 ^ (8 * (q + 1 + d - 1 - j)) := by
            conv => lhs; rw [e, Nat.pow_add, Nat.pow_add]
            rw [show (2 : Nat) ^ 8 = 256 from rfl]
            simp only [Nat.mul_assoc, Nat.mul_comm, Nat.mul_left_comm]
          rw [h2, Nat.mul_div_cancel _ (Nat.pow_pos (by omega)), Nat.mul_mod_left]
        rw [hz, hz]
    · rw [if_neg hjn, if_neg hjn]

theorem half (v t : Nat) : v / 2 ^ t = 2 * (v / 2 ^ (t + 1)) + v / 2 ^ t % 2 := by
  rw [Nat.pow_succ, ← Nat.div_div_eq_div_mul]; omega

/-- Bit number at (from the highest) of a number of n bytes, out of its byte. -/
theorem byN_get (n N at_ : Nat) (hat : at_ < 8 * n) : byN n N (at_ / 8) / 2 ^ (7 - at_ % 8) % 2 = ((N / 2 ^ (8 * n - at_ - 1) % 2 : Nat) : Int) := by
  obtain ⟨q, r, rfl, hr, hq, hr'⟩ : ∃ q r, at_ = 8 * q + r ∧ r < 8 ∧ (8 * q + r) / 8 = q ∧ (8 * q + r) % 8 = r := ⟨at_ / 8, at_ % 8, by omega, by omega, by omega, by omega⟩
  rw [hq, hr']
  obtain ⟨d, rfl⟩ : ∃ d, n = q + 1 + d := ⟨n - 1 - q, by omega⟩
  unfold byN
  rw [if_pos (by omega), show 8 * (q + 1 + d) - (8 * q + r) - 1 = 8 * d + (7 - r) by omega, show q + 1 + d - 1 - q = d by omega, Nat.pow_add, ← Nat.div_div_eq_div_mul]
  generalize N / 2 ^ (8 * d) = X
  have h8 : r = 0 ∨ r = 1 ∨ r = 2 ∨ r = 3 ∨ r = 4 ∨ r = 5 ∨ r = 6 ∨ r = 7 := by omega
  rcases h8 with rfl | rfl | rfl | rfl | rfl | rfl | rfl | rfl
  all_goals first | (simp; done) | (simp; omega)

theorem bit_cast (t r : Nat) (ht : t < 2) (hr : r ≤ 7) : ((t : Nat) : Int) % 256 * 2 ^ r % 256 = ((t * 2 ^ r : Nat) : Int) := by
  have h8 : r = 0 ∨ r = 1 ∨ r = 2 ∨ r = 3 ∨ r = 4 ∨ r = 5 ∨ r = 6 ∨ r = 7 := by omega
  rcases h8 with rfl | rfl | rfl | rfl | rfl | rfl | rfl | rfl
  all_goals (simp; omega)
end S4
end

section
namespace S4
set_option linter.unusedVariables false
open Go.RowKit

/-- A world that is a later one of w, with a row b of its own, whose bytes are f, and a count g, which is k. -/
structure WAt (w wr : World) (b g x n cp : Nat) (f : Nat → Int) (k : Nat) : Prop where
  below : Below w.heap.size w wr
  hb : w.heap.size ≤ b
  hg : w.heap.size ≤ g
  bg : b ≠ g
  xb : x ≠ b
  xg : x ≠ g
  row : RowAt wr b cp f
  at_ : wr.heap[g]? = some (.cells #[.int .i64 k] 3 (0, 0))
  box : wr.cell? ⟨x, 0, none⟩ = some (.slice (some ⟨b, 0, none⟩) n cp)

theorem WAt.step {w wr : World} {b g x n cp : Nat} {f f' : Nat → Int} {k : Nat} (h : WAt w wr b g x n cp f k) (j : Nat) (hj : j < cp) (y : Int) (k' : Nat)
    (hf : ∀ i, i < cp → (if i = j then y else f i) = f' i) :
    WAt w ((wr.setCell ⟨b, j, none⟩ (.int .u8 y)).setCell ⟨g, 0, none⟩ (.int .i64 k')).drew b g x n cp f' k' where
  below := ((h.below.setCell (p := ⟨b, j, none⟩) h.hb _).setCell (p := ⟨g, 0, none⟩) h.hg _).drew
  hb := h.hb
  hg := h.hg
  bg := h.bg
  xb := h.xb
  xg := h.xg
  row := by
    refine RowAt.of_block (w := (wr.setCell ⟨b, j, none⟩ (.int .u8 y)).setCell ⟨g, 0, none⟩ (.int .i64 k')) ?_ rfl
    exact ((h.row.set j hj y).other (by simpa using h.bg) _).congr hf
  at_ := by
    show ((wr.setCell ⟨b, j, none⟩ (.int .u8 y)).setCell ⟨g, 0, none⟩ (.int .i64 k')).heap[g]? = _
    refine one_setCell (v := .int .i64 k) ?_
    rw [heap_setCell_other _ _ _ _ (by simpa using fun e => h.bg e.symm)]
    exact h.at_
  box := by
    show ((wr.setCell ⟨b, j, none⟩ (.int .u8 y)).setCell ⟨g, 0, none⟩ (.int .i64 k')).cell? ⟨x, 0, none⟩ = _
    rw [World.cell?_setCell_other _ _ _ _ (by intro e; injection e with e1; exact h.xg e1.symm), World.cell?_setCell_other _ _ _ _ (by intro e; injection e with e1; exact h.xb e1.symm)]
    exact h.box

/-- The number behind i of m bits of v, written from bit k on. -/
def wN (n N v m k i : Nat) : Nat := N + v / 2 ^ (m - i) * 2 ^ (8 * n - k - i)

theorem wN_step {n N v m k i : Nat} (hi : i < m) (hk : k + m ≤ 8 * n) (hN : N % 2 ^ (8 * n - k) = 0) :
    wN n N v m k i % 2 ^ (8 * n - (k + i)) = 0 ∧ wN n N v m k (i + 1) = wN n N v m k i + v / 2 ^ (m - i - 1) % 2 * 2 ^ (8 * n - (k + i) - 1) := by
  unfold wN
  have e1 : 8 * n - k - i = 8 * n - (k + i) := by omega
  rw [e1]
  constructor
  · have d : 2 ^ (8 * n - (k + i)) ∣ N := Nat.dvd_trans (Nat.pow_dvd_pow 2 (by omega)) (Nat.dvd_of_mod_eq_zero hN)
    exact Nat.mod_eq_zero_of_dvd (Nat.dvd_add d (Nat.dvd_mul_left _ _))
  · have e2 : 8 * n - k - (i + 1) = 8 * n - (k + i) - 1 := by omega
    have e3 : 2 ^ (8 * n - (k + i)) = 2 * 2 ^ (8 * n - (k + i) - 1) := by rw [← Nat.pow_succ']; congr 1; omega
    have e4 := half v (m - i - 1)
    rw [show m - i - 1 + 1 = m - i by omega] at e4
    rw [e2, e3, show m - (i + 1) = m - i - 1 by omega]
    generalize 2 ^ (8 * n - (k + i) - 1) = Z
    generalize v / 2 ^ (m - i) = X at e4 ⊢
    generalize v / 2 ^ (m - i - 1) = T at e4 ⊢
    conv => lhs; rw [e4]
    rw [Nat.add_mul, ← Nat.mul_assoc, Nat.mul_comm X 2, Nat.add_assoc]

set_option maxHeartbeats 400000 in
theorem write_any (m v k n cp b g x N : Nat) (w W : World) (hn : n ≤ cp) (hk : k + m ≤ 8 * n) (hm : m ≤ 24) (hcp : n ≤ 4) (hv : v < 2 ^ m) (hN : N % 2 ^ (8 * n - k) = 0)
    (h : WAt W w b g x n cp (byN n N) k) :
    Calls Try.prog 118 #[.int .i64 m, .int .i64 v, .pointer (some ⟨x, 0, none⟩), .pointer (some ⟨g, 0, none⟩)] w fun r w' => r = .returned (.tuple #[]) ∧ WAt W w' b g x n cp (byN n (N + v * 2 ^ (8 * n - k - m))) (k + m) := by
  have hbg := h.bg
  have hxb := h.xb
  have hxg := h.xg
  have hv24 : v < 16777216 := Nat.lt_of_lt_of_le hv (Nat.pow_le_pow_right (by omega) hm)
  go_enter Try.func118, Try.ntmps118
  go_wp2
  go_loopw [0] (fun v0 wr => ∃ i : Nat, i ≤ m ∧ v0 = .int .i64 ((m - i : Nat) : Int) ∧ WAt W wr b g x n cp (byN n (wN n N v m k i)) (k + i)) (fun v0 _ => (intOf v0).toNat)
  case atStart =>
    refine ⟨0, by omega, rfl, ?_⟩
    have : wN n N v m k 0 = N := by unfold wN; rw [Nat.sub_zero, Nat.div_eq_of_lt hv, Nat.zero_mul, Nat.add_zero]
    rw [this]
    exact h
  case round =>
    obtain ⟨i, hi, rfl, ht⟩ := hrel
    by_cases hlt : i < m
    · have h1 := ht.box
      have h2 := cell_of_one ht.at_
      have h3 := free_of_one ht.at_
      have hj : (k + i) / 8 < n := by omega
      have h4 := ht.row.cell ((k + i) / 8) (by omega)
      have h5 := ht.row.live ((k + i) / 8)
      have hT : Hid (WAt W _ b g x n cp (byN n (wN n N v m k i)) (k + i)) := ht
      clear ht h
      have p1 : (0 : Int) < ((m - i : Nat) : Int) := by omega
      have hbb : (b = g) = False := by simp [hbg]
      have hgg : (g = b) = False := by simp [Ne.symm hbg]
      go_wp2
      go_region
      go_wp2
      go_roundw
      case rel =>
        have hs := wN_step (v := v) hlt hk hN
        have hbit : bits .and .i64 ((v : Int) / 2 ^ (m - i - 1)) 1 = ((v / 2 ^ (m - i - 1) % 2 : Nat) : Int) := by
          have e : ((v : Int) / 2 ^ (m - i - 1)) = ((v / 2 ^ (m - i - 1) : Nat) : Int) := by simp
          have hle : v / 2 ^ (m - i - 1) ≤ v := Nat.div_le_self _ _
          rw [e, show (1 : Int) = ((1 : Nat) : Int) from rfl, i64_and_nat _ _ (by omega) (by omega), and1]
        refine ⟨i + 1, by omega, ?_, ?_⟩
        · congr 1; omega
        · have := hT.out.step (f' := byN n (wN n N v m k (i + 1))) ((k + i) / 8) (by omega) (bits .or .u8 (byN n (wN n N v m k i) ((k + i) / 8)) ((v / 2 ^ (m - i - 1) % 2 * 2 ^ (7 - (k + i) % 8) : Nat) : Int)) (k + (i + 1)) ?_
          · rw [hbit, bit_cast _ _ (Nat.mod_lt _ (by omega)) (by omega)]
            exact this
          · intro j hj'
            rw [hs.2, byN_bit n _ (k + i) _ j (by omega) hs.1 (Nat.mod_lt _ (by omega))]
            by_cases e : j = (k + i) / 8
            · subst e; rw [if_pos rfl]
            · rw [if_neg e, if_neg e]
      case measure => simp [intOf]; omega
    · have : i = m := by omega
      subst this
      have hT : Hid (WAt W _ b g x n cp (byN n (wN n N v i k i)) (k + i)) := ht
      clear ht h
      go_wp2
      go_end0
      refine ⟨rfl, ?_⟩
      have := hT.out
      unfold wN at this
      rw [Nat.sub_self, Nat.pow_zero, Nat.div_one] at this
      exact this
end S4
end

section
namespace S4
set_option linter.unusedVariables false
open Go.RowKit

/-- A world that is a later one of w, with a count g of its own, which is k. -/
structure RAt (w wr : World) (g : Nat) (k : Nat) : Prop where
  below : Below w.heap.size w wr
  hg : w.heap.size ≤ g
  at_ : wr.heap[g]? = some (.cells #[.int .i64 k] 3 (0, 0))

theorem RAt.step {w wr : World} {g k : Nat} (h : RAt w wr g k) (d k' : Nat) : RAt w ((wr.drewN d).setCell ⟨g, 0, none⟩ (.int .i64 k')) g k' where
  below := by
    have := h.below.setCell (p := ⟨g, 0, none⟩) h.hg (.int .i64 k')
    exact ⟨this.os, this.tape, this.output, this.size, this.block⟩
  hg := h.hg
  at_ := by
    show (wr.setCell ⟨g, 0, none⟩ (.int .i64 k')).heap[g]? = _
    exact one_setCell h.at_

theorem RAt.cell {w wr : World} {g k : Nat} (h : RAt w wr g k) (i o : Nat) (h1 : i < w.heap.size) : wr.cell? ⟨i, o, none⟩ = w.cell? ⟨i, o, none⟩ :=
  h.below.cell (p := ⟨i, o, none⟩) h1

/-- The i bits of N behind the first k. -/
def rN (n N k i : Nat) : Nat := N / 2 ^ (8 * n - k - i) % 2 ^ i

theorem rN_step {n N k i : Nat} (hk : k + i < 8 * n) : rN n N k (i + 1) = 2 * rN n N k i + N / 2 ^ (8 * n - (k + i) - 1) % 2 := by
  unfold rN
  rw [show 8 * n - k - (i + 1) = 8 * n - (k + i) - 1 by omega, show 8 * n - k - i = (8 * n - (k + i) - 1) + 1 by omega, Nat.pow_succ', Nat.mod_mul, Nat.pow_succ 2 (8 * n - (k + i) - 1), ← Nat.div_div_eq_div_mul]
  omega

theorem rN_lt (n N k i : Nat) : rN n N k i < 2 ^ i := Nat.mod_lt _ (Nat.pow_pos (by omega))

theorem or_two (a t : Nat) (ht : t < 2) (ha : a < 4294967296) : bits .or .i64 ((a : Int) * 2) (t : Int) = ((2 * a + t : Nat) : Int) := by
  rw [show (a : Int) * 2 = ((a * 2 : Nat) : Int) by omega, i64_or_nat _ _ (by omega) (by omega)]
  have := Nat.shiftLeft_add_eq_or_of_lt (a := a) (b := t) (i := 1) (by omega)
  rw [Nat.shiftLeft_eq] at this
  rw [← show a * 2 ^ 1 = a * 2 from rfl, ← this]
  omega

theorem byN_bd (n N j : Nat) : 0 ≤ byN n N j ∧ byN n N j < 256 := by unfold byN; split <;> omega

theorem get_bit (n N at_ : Nat) (hat : at_ < 8 * n) : wrap64 (bits .and .u8 (byN n N (at_ / 8) / 2 ^ (7 - at_ % 8)) 1) = ((N / 2 ^ (8 * n - at_ - 1) % 2 : Nat) : Int) := by
  rw [← byN_get n N at_ hat]
  have hb := byN_bd n N (at_ / 8)
  obtain ⟨y, hy⟩ := Int.eq_ofNat_of_zero_le hb.1
  rw [hy] at hb ⊢
  have e : ((y : Int) / 2 ^ (7 - at_ % 8)) = ((y / 2 ^ (7 - at_ % 8) : Nat) : Int) := by simp
  have hle : y / 2 ^ (7 - at_ % 8) ≤ y := Nat.div_le_self _ _
  rw [e, show (1 : Int) = ((1 : Nat) : Int) from rfl, u8_and_nat _ _ (by omega) (by omega), and1]
  unfold wrap64
  omega

set_option maxHeartbeats 400000 in
theorem read_any (m k n b o L c g x N : Nat) (w W : World) (hn : n ≤ L) (hL : L ≤ maxLen) (hk : k + m ≤ 8 * n) (hm : m ≤ 24) (hcp : n ≤ 4)
    (hrow : ∀ j, j < n → W.cell? ⟨b, o + j, none⟩ = some (.int .u8 (byN n N j))) (hbox : W.cell? ⟨x, 0, none⟩ = some (.slice (some ⟨b, o, none⟩) L c))
    (h : RAt W w g k) :
    Calls Try.prog 113 #[.int .i64 m, .pointer (some ⟨x, 0, none⟩), .pointer (some ⟨g, 0, none⟩)] w fun r w' => r = .returned (.int .i64 (rN n N k m)) ∧ RAt W w' g (k + m) := by
  have hbg : 0 < n → b < W.heap.size := fun hn => World.block_lt_of_cell? W _ (hrow 0 hn)
  have hxg : x < W.heap.size := World.block_lt_of_cell? W _ hbox
  go_enter Try.func113, Try.ntmps113
  go_wp2
  go_loopw [5, 7] (fun v5 v7 wr => ∃ i : Nat, i ≤ m ∧ v5 = .int .i64 (rN n N k i) ∧ v7 = .int .i64 i ∧ RAt W wr g (k + i)) (fun _ v7 _ => m - (intOf v7).toNat)
  case atStart =>
    refine ⟨0, by omega, ?_, rfl, h⟩
    have : rN n N k 0 = 0 := by unfold rN; rw [Nat.pow_zero, Nat.mod_one]
    rw [this]
    rfl
  case round =>
    obtain ⟨i, hi, rfl, rfl, ht⟩ := hrel
    have hr0 := rN_lt n N k i
    have hr1 : 2 ^ i ≤ 2 ^ 24 := Nat.pow_le_pow_right (by omega) (by omega)
    have hr : rN n N k i < 16777216 := Nat.lt_of_lt_of_le hr0 hr1
    clear hr0 hr1
    by_cases hlt : i < m
    · have h1 := (ht.cell x 0 hxg).trans hbox
      have h2 := cell_of_one ht.at_
      have h3 := free_of_one ht.at_
      have hj : (k + i) / 8 < n := by omega
      have hjL : (k + i) / 8 < L := by omega
      have h4 := (ht.cell b (o + (k + i) / 8) (hbg (by omega))).trans (hrow _ hj)
      have hT : Hid (RAt W _ g (k + i)) := ht
      clear ht h hbox hrow
      unfold maxLen at hL
      go_wp2
      go_quiet (fail)
      go_wp2
      go_roundw
      case rel =>
        refine ⟨i + 1, by omega, ?_, ?_, hT.out.step nq (k + (i + 1))⟩
        · rw [get_bit n N (k + i) (by omega), or_two _ _ (Nat.mod_lt _ (by omega)) (by omega), rN_step (by omega)]
        · go_num
      case measure => simp [intOf]; omega
    · have : i = m := by omega
      subst this
      have hT : Hid (RAt W _ g (k + i)) := ht
      clear ht h hbox hrow
      go_wp2
      go_ret
      exact ⟨rfl, hT.out⟩
end S4
end

end Go.Proofs.Ytgjagedngdhdaaa
