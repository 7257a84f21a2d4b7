/-
  The walk of the closure that writes bits, for every width and value.
-/
import Derived.Test.YteljcgdenagcmaaCells
import Derived.Test.YteljcgdenagcmaaArith
import Derived.BigRegion
namespace Go.Proofs.Yteljcgdenagcmaa
set_option linter.unusedVariables false
open Go.RowKit

/-- A world that is a later one of w, with a row b of its own, whose bytes are f, and a count g, which is k. -/
structure WAt (w wr : World) (b g x n cp : Nat) (f : Nat → Int) (k : Nat) : Prop where
  below : Below w.heap.size w wr
  hb : w.heap.size ≤ b
  hg : w.heap.size ≤ g
  bg : b ≠ g
  xb : x ≠ b
  xg : x ≠ g
  row : RowAt wr b cp f
  at_ : wr.heap[g]? = some (.cells #[.int .i64 k] 3 (0, 0))
  box : wr.cell? ⟨x, 0, none⟩ = some (.slice (some ⟨b, 0, none⟩) n cp)

theorem WAt.step {w wr : World} {b g x n cp : Nat} {f f' : Nat → Int} {k : Nat} (h : WAt w wr b g x n cp f k) (j : Nat) (hj : j < cp) (y : Int) (k' : Nat)
    (hf : ∀ i, i < cp → (if i = j then y else f i) = f' i) :
    WAt w ((wr.setCell ⟨b, j, none⟩ (.int .u8 y)).setCell ⟨g, 0, none⟩ (.int .i64 k')).drew b g x n cp f' k' where
  below := ((h.below.setCell (p := ⟨b, j, none⟩) h.hb _).setCell (p := ⟨g, 0, none⟩) h.hg _).drew
  hb := h.hb
  hg := h.hg
  bg := h.bg
  xb := h.xb
  xg := h.xg
  row := by
    refine RowAt.of_block (w := (wr.setCell ⟨b, j, none⟩ (.int .u8 y)).setCell ⟨g, 0, none⟩ (.int .i64 k')) ?_ rfl
    exact ((h.row.set j hj y).other (by simpa using h.bg) _).congr hf
  at_ := by
    show ((wr.setCell ⟨b, j, none⟩ (.int .u8 y)).setCell ⟨g, 0, none⟩ (.int .i64 k')).heap[g]? = _
    refine one_setCell (v := .int .i64 k) ?_
    rw [heap_setCell_other _ _ _ _ (by simpa using fun e => h.bg e.symm)]
    exact h.at_
  box := by
    show ((wr.setCell ⟨b, j, none⟩ (.int .u8 y)).setCell ⟨g, 0, none⟩ (.int .i64 k')).cell? ⟨x, 0, none⟩ = _
    rw [World.cell?_setCell_other _ _ _ _ (by intro e; injection e with e1; exact h.xg e1.symm), World.cell?_setCell_other _ _ _ _ (by intro e; injection e with e1; exact h.xb e1.symm)]
    exact h.box

/-- The number behind i of m bits of v, written from bit k on. -/
def wN (n N v m k i : Nat) : Nat := N + v / 2 ^ (m - i) * 2 ^ (8 * n - k - i)

theorem wN_step {n N v m k i : Nat} (hi : i < m) (hk : k + m ≤ 8 * n) (hN : N % 2 ^ (8 * n - k) = 0) :
    wN n N v m k i % 2 ^ (8 * n - (k + i)) = 0 ∧ wN n N v m k (i + 1) = wN n N v m k i + v / 2 ^ (m - i - 1) % 2 * 2 ^ (8 * n - (k + i) - 1) := by
  unfold wN
  have e1 : 8 * n - k - i = 8 * n - (k + i) := by omega
  rw [e1]
  constructor
  · have d : 2 ^ (8 * n - (k + i)) ∣ N := Nat.dvd_trans (Nat.pow_dvd_pow 2 (by omega)) (Nat.dvd_of_mod_eq_zero hN)
    exact Nat.mod_eq_zero_of_dvd (Nat.dvd_add d (Nat.dvd_mul_left _ _))
  · have e2 : 8 * n - k - (i + 1) = 8 * n - (k + i) - 1 := by omega
    have e3 : 2 ^ (8 * n - (k + i)) = 2 * 2 ^ (8 * n - (k + i) - 1) := by rw [← Nat.pow_succ']; congr 1; omega
    have e4 := half v (m - i - 1)
    rw [show m - i - 1 + 1 = m - i by omega] at e4
    rw [e2, e3, show m - (i + 1) = m - i - 1 by omega]
    generalize 2 ^ (8 * n - (k + i) - 1) = Z
    generalize v / 2 ^ (m - i) = X at e4 ⊢
    generalize v / 2 ^ (m - i - 1) = T at e4 ⊢
    conv => lhs; rw [e4]
    rw [Nat.add_mul, ← Nat.mul_assoc, Nat.mul_comm X 2, Nat.add_assoc]

set_option maxHeartbeats 400000 in
theorem write_any (m v k n cp b g x N : Nat) (w W : World) (hn : n ≤ cp) (hk : k + m ≤ 8 * n) (hm : m ≤ 24) (hcp : n ≤ 4) (hv : v < 2 ^ m) (hN : N % 2 ^ (8 * n - k) = 0)
    (h : WAt W w b g x n cp (byN n N) k) :
    Calls Try.prog 72 #[.int .i64 m, .int .i64 v, .pointer (some ⟨x, 0, none⟩), .pointer (some ⟨g, 0, none⟩)] w fun r w' => r = .returned (.tuple #[]) ∧ WAt W w' b g x n cp (byN n (N + v * 2 ^ (8 * n - k - m))) (k + m) := by
  have hbg := h.bg
  have hxb := h.xb
  have hxg := h.xg
  have hv24 : v < 16777216 := Nat.lt_of_lt_of_le hv (Nat.pow_le_pow_right (by omega) hm)
  go_enter Try.func72, Try.ntmps72
  go_wp2
  go_loopw [0] (fun v0 wr => ∃ i : Nat, i ≤ m ∧ v0 = .int .i64 ((m - i : Nat) : Int) ∧ WAt W wr b g x n cp (byN n (wN n N v m k i)) (k + i)) (fun v0 _ => (intOf v0).toNat)
  case atStart =>
    refine ⟨0, by omega, rfl, ?_⟩
    have : wN n N v m k 0 = N := by unfold wN; rw [Nat.sub_zero, Nat.div_eq_of_lt hv, Nat.zero_mul, Nat.add_zero]
    rw [this]
    exact h
  case round =>
    obtain ⟨i, hi, rfl, ht⟩ := hrel
    by_cases hlt : i < m
    · have h1 := ht.box
      have h2 := cell_of_one ht.at_
      have h3 := free_of_one ht.at_
      have hj : (k + i) / 8 < n := by omega
      have h4 := ht.row.cell ((k + i) / 8) (by omega)
      have h5 := ht.row.live ((k + i) / 8)
      have hT : Hid (WAt W _ b g x n cp (byN n (wN n N v m k i)) (k + i)) := ht
      clear ht h
      have p1 : (0 : Int) < ((m - i : Nat) : Int) := by omega
      have hbb : (b = g) = False := by simp [hbg]
      have hgg : (g = b) = False := by simp [Ne.symm hbg]
      go_wp2
      go_region
      go_wp2
      go_roundw
      case rel =>
        have hs := wN_step (v := v) hlt hk hN
        have hbit : bits .and .i64 ((v : Int) / 2 ^ (m - i - 1)) 1 = ((v / 2 ^ (m - i - 1) % 2 : Nat) : Int) := by
          have e : ((v : Int) / 2 ^ (m - i - 1)) = ((v / 2 ^ (m - i - 1) : Nat) : Int) := by simp
          have hle : v / 2 ^ (m - i - 1) ≤ v := Nat.div_le_self _ _
          rw [e, show (1 : Int) = ((1 : Nat) : Int) from rfl, i64_and_nat _ _ (by omega) (by omega), and1]
        refine ⟨i + 1, by omega, ?_, ?_⟩
        · congr 1; omega
        · have := hT.out.step (f' := byN n (wN n N v m k (i + 1))) ((k + i) / 8) (by omega) (bits .or .u8 (byN n (wN n N v m k i) ((k + i) / 8)) ((v / 2 ^ (m - i - 1) % 2 * 2 ^ (7 - (k + i) % 8) : Nat) : Int)) (k + (i + 1)) ?_
          · rw [hbit, bit_cast _ _ (Nat.mod_lt _ (by omega)) (by omega)]
            exact this
          · intro j hj'
            rw [hs.2, byN_bit n _ (k + i) _ j (by omega) hs.1 (Nat.mod_lt _ (by omega))]
            by_cases e : j = (k + i) / 8
            · subst e; rw [if_pos rfl]
            · rw [if_neg e, if_neg e]
      case measure => simp [intOf]; omega
    · have : i = m := by omega
      subst this
      have hT : Hid (WAt W _ b g x n cp (byN n (wN n N v i k i)) (k + i)) := ht
      clear ht h
      go_wp2
      go_end0
      refine ⟨rfl, ?_⟩
      have := hT.out
      unfold wN at this
      rw [Nat.sub_self, Nat.pow_zero, Nat.div_one] at this
      exact this
end Go.Proofs.Yteljcgdenagcmaa
