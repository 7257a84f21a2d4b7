/-
  Numbers as bits and bytes. Plain arithmetic.
-/
import Derived.Handy
import Derived.Laws.BitsAllLaws
namespace Go.Proofs.Yteljcgdenagcmaa
set_option linter.unusedVariables false
open Go.RowKit

theorem i64_and_nat (a b : Nat) (ha : a < 9223372036854775808) (hb : b < 9223372036854775808) : bits .and .i64 (a : Int) (b : Int) = ((a &&& b : Nat) : Int) := by
  have hx : a &&& b < 2 ^ 63 := Nat.and_lt_two_pow _ (by omega)
  have e : ∀ c : Nat, c < 9223372036854775808 → (BitVec.ofInt 64 (c : Int)).toNat = c := fun c hc => by
    rw [BitVec.ofInt_natCast, BitVec.toNat_ofNat]; exact Nat.mod_eq_of_lt (by omega)
  show IntKind.i64.wrap ((BitVec.ofInt 64 (a : Int) &&& BitVec.ofInt 64 (b : Int)).toNat : Int) = _
  rw [BitVec.toNat_and, e a ha, e b hb]
  exact IntWalk.i64_in _ ⟨by omega, by omega⟩

theorem i64_or_nat (a b : Nat) (ha : a < 9223372036854775808) (hb : b < 9223372036854775808) : bits .or .i64 (a : Int) (b : Int) = ((a ||| b : Nat) : Int) := by
  have hx : a ||| b < 2 ^ 63 := Nat.or_lt_two_pow (by omega) (by omega)
  have e : ∀ c : Nat, c < 9223372036854775808 → (BitVec.ofInt 64 (c : Int)).toNat = c := fun c hc => by
    rw [BitVec.ofInt_natCast, BitVec.toNat_ofNat]; exact Nat.mod_eq_of_lt (by omega)
  show IntKind.i64.wrap ((BitVec.ofInt 64 (a : Int) ||| BitVec.ofInt 64 (b : Int)).toNat : Int) = _
  rw [BitVec.toNat_or, e a ha, e b hb]
  exact IntWalk.i64_in _ ⟨by omega, by omega⟩

theorem and1 (a : Nat) : a &&& 1 = a % 2 := Nat.and_two_pow_sub_one_eq_mod a 1

/-- Byte j of the number N of n bytes, the highest first. -/
def byN (n N j : Nat) : Int := if j < n then ((N / 2 ^ (8 * (n - 1 - j)) % 256 : Nat) : Int) else 0

theorem or_low (r Y bit : Nat) (hr : r < 8) (hY : Y % 2 ^ (8 - r) = 0) (hb : bit < 2) : (Y % 256) ||| (bit * 2 ^ (7 - r)) = (Y + bit * 2 ^ (7 - r)) % 256 := by
  have key : ∀ A i c, c < 2 ^ i → (A * 2 ^ i) ||| c = A * 2 ^ i + c := fun A i c h => by
    have := Nat.shiftLeft_add_eq_or_of_lt (a := A) (b := c) (i := i) h
    rw [Nat.shiftLeft_eq] at this
    exact this.symm
  have h8 : r = 0 ∨ r = 1 ∨ r = 2 ∨ r = 3 ∨ r = 4 ∨ r = 5 ∨ r = 6 ∨ r = 7 := by omega
  rcases h8 with rfl | rfl | rfl | rfl | rfl | rfl | rfl | rfl
  · have := key (Y % 256 / 256) 8 (bit * 128) (by omega); simp at this hY ⊢; rw [show Y % 256 = 0 by omega, Nat.zero_or]; omega
  · have := key (Y % 256 / 128) 7 (bit * 64) (by omega); simp at this hY ⊢; rw [show Y % 256 = Y % 256 / 128 * 128 by omega, this]; omega
  · have := key (Y % 256 / 64) 6 (bit * 32) (by omega); simp at this hY ⊢; rw [show Y % 256 = Y % 256 / 64 * 64 by omega, this]; omega
  · have := key (Y % 256 / 32) 5 (bit * 16) (by omega); simp at this hY ⊢; rw [show Y % 256 = Y % 256 / 32 * 32 by omega, this]; omega
  · have := key (Y % 256 / 16) 4 (bit * 8) (by omega); simp at this hY ⊢; rw [show Y % 256 = Y % 256 / 16 * 16 by omega, this]; omega
  · have := key (Y % 256 / 8) 3 (bit * 4) (by omega); simp at this hY ⊢; rw [show Y % 256 = Y % 256 / 8 * 8 by omega, this]; omega
  · have := key (Y % 256 / 4) 2 (bit * 2) (by omega); simp at this hY ⊢; rw [show Y % 256 = Y % 256 / 4 * 4 by omega, this]; omega
  · have := key (Y % 256 / 2) 1 (bit * 1) (by omega); simp at this hY ⊢; rw [show Y % 256 = Y % 256 / 2 * 2 by omega, this]; omega

theorem or_high (r Y bit : Nat) (hr : r < 8) (hY : Y % 2 ^ (8 - r) = 0) (hb : bit < 2) : (Y + bit * 2 ^ (7 - r)) / 256 = Y / 256 := by
  have h8 : r = 0 ∨ r = 1 ∨ r = 2 ∨ r = 3 ∨ r = 4 ∨ r = 5 ∨ r = 6 ∨ r = 7 := by omega
  rcases h8 with rfl | rfl | rfl | rfl | rfl | rfl | rfl | rfl
  all_goals (simp at hY ⊢; omega)

/-- One bit more at the place at. -/
theorem byN_bit (n M at_ bit j : Nat) (hat : at_ < 8 * n) (hM : M % 2 ^ (8 * n - at_) = 0) (hb : bit < 2) :
    byN n (M + bit * 2 ^ (8 * n - at_ - 1)) j = if j = at_ / 8 then bits .or .u8 (byN n M j) ((bit * 2 ^ (7 - at_ % 8) : Nat) : Int) else byN n M j := by
  obtain ⟨q, r, rfl, hr, hq, hr'⟩ : ∃ q r, at_ = 8 * q + r ∧ r < 8 ∧ (8 * q + r) / 8 = q ∧ (8 * q + r) % 8 = r := ⟨at_ / 8, at_ % 8, by omega, by omega, by omega, by omega⟩
  rw [hq, hr']
  have hqn : q < n := by omega
  obtain ⟨d, rfl⟩ : ∃ d, n = q + 1 + d := ⟨n - 1 - q, by omega⟩
  have es : 8 * (q + 1 + d) - (8 * q + r) = (8 - r) + 8 * d := by omega
  have es' : 8 * (q + 1 + d) - (8 * q + r) - 1 = (7 - r) + 8 * d := by omega
  rw [es] at hM
  rw [es']
  obtain ⟨A, hA⟩ := Nat.dvd_of_mod_eq_zero hM
  obtain ⟨Y, hY⟩ : ∃ Y, Y = 2 ^ (8 - r) * A := ⟨_, rfl⟩
  have hYm : Y % 2 ^ (8 - r) = 0 := by rw [hY]; exact Nat.mul_mod_right _ _
  have eM : M = Y * 2 ^ (8 * d) := by rw [hA, hY, Nat.pow_add, Nat.mul_assoc, Nat.mul_assoc, Nat.mul_comm A]
  have eM' : M + bit * 2 ^ (7 - r + 8 * d) = (Y + bit * 2 ^ (7 - r)) * 2 ^ (8 * d) := by rw [eM, Nat.add_mul, Nat.pow_add, ← Nat.mul_assoc]
  rw [eM', eM]
  have hp : 0 < 2 ^ (8 * d) := Nat.pow_pos (by omega)
  have hbit : bit * 2 ^ (7 - r) < 256 := by
    have h8 : r = 0 ∨ r = 1 ∨ r = 2 ∨ r = 3 ∨ r = 4 ∨ r = 5 ∨ r = 6 ∨ r = 7 := by omega
    rcases h8 with rfl | rfl | rfl | rfl | rfl | rfl | rfl | rfl <;> (simp; omega)
  unfold byN
  by_cases hj : j = q
  · subst hj
    rw [if_pos rfl, if_pos (by omega), if_pos (by omega), show j + 1 + d - 1 - j = d by omega, Nat.mul_div_cancel _ hp, Nat.mul_div_cancel _ hp, u8_or_nat _ _ (by omega) hbit, or_low r Y bit hr hYm hb]
  · rw [if_neg hj]
    by_cases hjn : j < q + 1 + d
    · rw [if_pos hjn, if_pos hjn]
      by_cases hlt : j < q
      · have e : 8 * (q + 1 + d - 1 - j) = 8 * d + (8 + 8 * (q - j - 1)) := by omega
        rw [e, Nat.pow_add, ← Nat.div_div_eq_div_mul, ← Nat.div_div_eq_div_mul, Nat.mul_div_cancel _ hp, Nat.mul_div_cancel _ hp, Nat.pow_add, ← Nat.div_div_eq_div_mul, ← Nat.div_div_eq_div_mul]
        have := or_high r Y bit hr hYm hb
        rw [show (2 : Nat) ^ 8 = 256 from rfl, this]
      · have e : 8 * d = 8 * (q + 1 + d - 1 - j) + (8 + 8 * (j - q - 1)) := by omega
        have hz : ∀ X : Nat, X * 2 ^ (8 * d) / 2 ^ (8 * (q + 1 + d - 1 - j)) % 256 = 0 := fun X => by
          have h2 : X * 2 ^ (8 * d) = X * 2 ^ (8 * (j - q - 1)) * 256 * 2 ^ (8 * (q + 1 + d - 1 - j)) := by
            conv => lhs; rw [e, Nat.pow_add, Nat.pow_add]
            rw [show (2 : Nat) ^ 8 = 256 from rfl]
            simp only [Nat.mul_assoc, Nat.mul_comm, Nat.mul_left_comm]
          rw [h2, Nat.mul_div_cancel _ (Nat.pow_pos (by omega)), Nat.mul_mod_left]
        rw [hz, hz]
    · rw [if_neg hjn, if_neg hjn]

theorem half (v t : Nat) : v / 2 ^ t = 2 * (v / 2 ^ (t + 1)) + v / 2 ^ t % 2 := by
  rw [Nat.pow_succ, ← Nat.div_div_eq_div_mul]; omega

/-- Bit number at (from the highest) of a number of n bytes, out of its byte. -/
theorem byN_get (n N at_ : Nat) (hat : at_ < 8 * n) : byN n N (at_ / 8) / 2 ^ (7 - at_ % 8) % 2 = ((N / 2 ^ (8 * n - at_ - 1) % 2 : Nat) : Int) := by
  obtain ⟨q, r, rfl, hr, hq, hr'⟩ : ∃ q r, at_ = 8 * q + r ∧ r < 8 ∧ (8 * q + r) / 8 = q ∧ (8 * q + r) % 8 = r := ⟨at_ / 8, at_ % 8, by omega, by omega, by omega, by omega⟩
  rw [hq, hr']
  obtain ⟨d, rfl⟩ : ∃ d, n = q + 1 + d := ⟨n - 1 - q, by omega⟩
  unfold byN
  rw [if_pos (by omega), show 8 * (q + 1 + d) - (8 * q + r) - 1 = 8 * d + (7 - r) by omega, show q + 1 + d - 1 - q = d by omega, Nat.pow_add, ← Nat.div_div_eq_div_mul]
  generalize N / 2 ^ (8 * d) = X
  have h8 : r = 0 ∨ r = 1 ∨ r = 2 ∨ r = 3 ∨ r = 4 ∨ r = 5 ∨ r = 6 ∨ r = 7 := by omega
  rcases h8 with rfl | rfl | rfl | rfl | rfl | rfl | rfl | rfl
  all_goals first | (simp; done) | (simp; omega)

theorem bit_cast (t r : Nat) (ht : t < 2) (hr : r ≤ 7) : ((t : Nat) : Int) % 256 * 2 ^ r % 256 = ((t * 2 ^ r : Nat) : Int) := by
  have h8 : r = 0 ∨ r = 1 ∨ r = 2 ∨ r = 3 ∨ r = 4 ∨ r = 5 ∨ r = 6 ∨ r = 7 := by omega
  rcases h8 with rfl | rfl | rfl | rfl | rfl | rfl | rfl | rfl
  all_goals (simp; omega)
end Go.Proofs.Yteljcgdenagcmaa
