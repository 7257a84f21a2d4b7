/-
  The walk of an address's text, for every input.
-/
import Derived.Test.YticbihnnemojbaaDigit
namespace Go.Proofs.Yticbihnnemojbaa
set_option linter.unusedVariables false
open Go.RowKit

/-- Letter number k of the text of an address. -/
def lett (a b c d e f : Int) : Nat → Int
  | 0 => dig (a / 16) | 1 => dig (a % 16) | 2 => 45 | 3 => dig (b / 16) | 4 => dig (b % 16) | 5 => 45 | 6 => dig (c / 16) | 7 => dig (c % 16) | 8 => 45
  | 9 => dig (d / 16) | 10 => dig (d % 16) | 11 => 45 | 12 => dig (e / 16) | 13 => dig (e % 16) | 14 => 45 | 15 => dig (f / 16) | 16 => dig (f % 16) | _ => 0

theorem letter_any (a b c d e f : Int) (k : Nat) (hk : k < 17) (w : World) (ha : 0 ≤ a ∧ a ≤ 255) (hb : 0 ≤ b ∧ b ≤ 255) (hc : 0 ≤ c ∧ c ≤ 255) (hd : 0 ≤ d ∧ d ≤ 255) (he : 0 ≤ e ∧ e ≤ 255) (hf : 0 ≤ f ∧ f ≤ 255) :
    Calls Try.prog 31 #[.agg #[.int .u8 a, .int .u8 b, .int .u8 c, .int .u8 d, .int .u8 e, .int .u8 f], .int .i64 k] w fun r w' => r = .returned (.int .u8 (lett a b c d e f k)) ∧ Below w.heap.size w w' := by
  match k, hk with
  | 0, _ => exact letter_0 _ _ _ _ _ _ _ ha
  | 1, _ => exact letter_1 _ _ _ _ _ _ _ ha
  | 2, _ => exact letter_2 _ _ _ _ _ _ _
  | 3, _ => exact letter_3 _ _ _ _ _ _ _ hb
  | 4, _ => exact letter_4 _ _ _ _ _ _ _ hb
  | 5, _ => exact letter_5 _ _ _ _ _ _ _
  | 6, _ => exact letter_6 _ _ _ _ _ _ _ hc
  | 7, _ => exact letter_7 _ _ _ _ _ _ _ hc
  | 8, _ => exact letter_8 _ _ _ _ _ _ _
  | 9, _ => exact letter_9 _ _ _ _ _ _ _ hd
  | 10, _ => exact letter_10 _ _ _ _ _ _ _ hd
  | 11, _ => exact letter_11 _ _ _ _ _ _ _
  | 12, _ => exact letter_12 _ _ _ _ _ _ _ he
  | 13, _ => exact letter_13 _ _ _ _ _ _ _ he
  | 14, _ => exact letter_14 _ _ _ _ _ _ _
  | 15, _ => exact letter_15 _ _ _ _ _ _ _ hf
  | 16, _ => exact letter_16 _ _ _ _ _ _ _ hf
  | k + 17, h => omega

def bs (ns : List Int) : ByteArray := ns.foldl (fun r n => r.push (UInt8.ofNat n.toNat)) ByteArray.empty
/-- The text of an address. -/
def txt (a b c d e f : Int) : ByteArray := bs [dig (a / 16), dig (a % 16), 45, dig (b / 16), dig (b % 16), 45, dig (c / 16), dig (c % 16), 45, dig (d / 16), dig (d % 16), 45, dig (e / 16), dig (e % 16), 45, dig (f / 16), dig (f % 16)]

theorem make17 (w : World) : (Instr.makeSlice 52 (.int .i64 17) (.int .i64 17)).run Try.prog w = .ok (.slice (some ⟨w.heap.size, 0, none⟩) 17 17) (w.alloc (.cells #[.int .u8 0, .int .u8 0, .int .u8 0, .int .u8 0, .int .u8 0, .int .u8 0, .int .u8 0, .int .u8 0, .int .u8 0, .int .u8 0, .int .u8 0, .int .u8 0, .int .u8 0, .int .u8 0, .int .u8 0, .int .u8 0, .int .u8 0] 5)) := by kernel_rfl

/-- What stands at the head of round k: the address lies in its box, the first k letters in the row. -/
structure TextAt (a b c d e f : Int) (w wr : World) (k : Nat) : Prop where
  below : Below w.heap.size w wr
  size : w.heap.size + 1 < wr.heap.size
  b0 : wr.cell? ⟨w.heap.size, 0, none⟩ = some (.int .u8 a)
  b1 : wr.cell? ⟨w.heap.size, 1, none⟩ = some (.int .u8 b)
  b2 : wr.cell? ⟨w.heap.size, 2, none⟩ = some (.int .u8 c)
  b3 : wr.cell? ⟨w.heap.size, 3, none⟩ = some (.int .u8 d)
  b4 : wr.cell? ⟨w.heap.size, 4, none⟩ = some (.int .u8 e)
  b5 : wr.cell? ⟨w.heap.size, 5, none⟩ = some (.int .u8 f)
  row : ∀ j, j < 17 → wr.cell? ⟨w.heap.size + 1, j, none⟩ = some (.int .u8 (if j < k then lett a b c d e f j else 0))
  live : ∀ j, wr.frozen? ⟨w.heap.size + 1, j, none⟩ = false

theorem TextAt.step {a b c d e f : Int} {w wr : World} {k : Nat} (h : TextAt a b c d e f w wr k) (hk : k < 17) (x : Later wr) :
    TextAt a b c d e f w (x.val.setCell ⟨w.heap.size + 1, k, none⟩ (.int .u8 (lett a b c d e f k))) (k + 1) := by
  have hz := h.size
  have hcell : ∀ bl o, bl < wr.heap.size → x.val.cell? ⟨bl, o, none⟩ = wr.cell? ⟨bl, o, none⟩ := fun bl o hb => x.cell bl o hb
  have hz' := x.below.size
  have box : ∀ o, (x.val.setCell ⟨w.heap.size + 1, k, none⟩ (.int .u8 (lett a b c d e f k))).cell? ⟨w.heap.size, o, none⟩ = wr.cell? ⟨w.heap.size, o, none⟩ := fun o => by
    rw [World.cell?_setCell_other _ _ _ _ (by simp), hcell _ _ (by omega)]
  refine ⟨(h.below.trans (x.below.mono (by omega))).setCell (by simp) _, by simp [World.size_setCell]; omega, ?_, ?_, ?_, ?_, ?_, ?_, ?_, ?_⟩
  · rw [box, h.b0]
  · rw [box, h.b1]
  · rw [box, h.b2]
  · rw [box, h.b3]
  · rw [box, h.b4]
  · rw [box, h.b5]
  · intro j hj
    by_cases e1 : j = k
    · subst e1
      rw [World.cell?_setCell_same _ _ _ (u := .int .u8 (if j < j then lett a b c d e f j else 0)) (by rw [hcell _ _ (by omega)]; exact h.row j hj)]
      simp
    · rw [World.cell?_setCell_other _ _ _ _ (by intro h; injection h; omega), hcell _ _ (by omega), h.row j hj]
      by_cases e2 : j < k
      · rw [if_pos e2, if_pos (by omega)]
      · rw [if_neg e2, if_neg (by omega)]
  · intro j
    rw [World.frozen?_setCell, x.frozen _ _ (by omega)]
    exact h.live j

theorem TextAt.done {a b c d e f : Int} {w wr : World} (h : TextAt a b c d e f w wr 17) :
    (convert 52 9 (.slice (some ⟨w.heap.size + 1, 0, none⟩) 17 17)).run Try.prog wr = .ok (.string (txt a b c d e f)) wr := by
  rw [run_convert_bytes_string wr 52 9 5 _ _ _ Try.underlying52 Try.underlying5 Try.underlying9]
  unfold txt bs
  rw [run_bytesToString wr _ 17 17 [dig (a / 16), dig (a % 16), 45, dig (b / 16), dig (b % 16), 45, dig (c / 16), dig (c % 16), 45, dig (d / 16), dig (d % 16), 45, dig (e / 16), dig (e % 16), 45, dig (f / 16), dig (f % 16)] ?_]
  rw [run_loadCells wr _ 17 (fun j => .int .u8 (lett a b c d e f j)) (fun j hj => by have := h.row j hj; rw [if_pos hj] at this; rw [← this]; congr 1; unfold Addr.add; split <;> simp_all)]
  rfl

set_option maxHeartbeats 400000 in
theorem text_any (a b c d e f : Int) (w : World) (ha : 0 ≤ a ∧ a ≤ 255) (hb : 0 ≤ b ∧ b ≤ 255) (hc : 0 ≤ c ∧ c ≤ 255) (hd : 0 ≤ d ∧ d ≤ 255) (he : 0 ≤ e ∧ e ≤ 255) (hf : 0 ≤ f ∧ f ≤ 255) :
    Calls Try.prog 15 #[.agg #[.int .u8 a, .int .u8 b, .int .u8 c, .int .u8 d, .int .u8 e, .int .u8 f]] w fun r w' => r = .returned (.string (txt a b c d e f)) ∧ Below w.heap.size w w' := by
  have hmk := make17
  have hx := @Later.cell
  have hy := @Later.frozen
  go_enter Try.func15, Try.ntmps15
  go_wp2
  go_loopw [6] (fun v6 wr => ∃ k : Nat, k ≤ 17 ∧ v6 = .int .i64 k ∧ TextAt a b c d e f w wr k) (fun v6 _ => 17 - (intOf v6).toNat)
  case atStart =>
    refine ⟨0, by omega, rfl, ?_, ?_, ?_, ?_, ?_, ?_, ?_, ?_, ?_, ?_⟩
    · go_grown
    · simp
    all_goals first | (simp [go_sem]; done) | skip
    · intro j hj
      have hj' : j = 0 ∨ j = 1 ∨ j = 2 ∨ j = 3 ∨ j = 4 ∨ j = 5 ∨ j = 6 ∨ j = 7 ∨ j = 8 ∨ j = 9 ∨ j = 10 ∨ j = 11 ∨ j = 12 ∨ j = 13 ∨ j = 14 ∨ j = 15 ∨ j = 16 := by omega
      clear hj
      rcases hj' with rfl | rfl | rfl | rfl | rfl | rfl | rfl | rfl | rfl | rfl | rfl | rfl | rfl | rfl | rfl | rfl | rfl
      all_goals simp [go_sem]
  case round =>
    obtain ⟨k, hk, rfl, ht⟩ := hrel
    by_cases hlt : k < 17
    · have h0 := ht.b0
      have h1 := ht.b1
      have h2 := ht.b2
      have h3 := ht.b3
      have h4 := ht.b4
      have h5 := ht.b5
      have hrow := ht.row k hlt
      have hliv := ht.live k
      have hsz := ht.size
      have hst := ht.step hlt
      have hT : Hid (TextAt a b c d e f w _ k) := ht
      clear ht
      clear hst
      go_wp2_with (go_at_call 31; refine Calls.on_later (letter_any _ _ _ _ _ _ k hlt _ ha hb hc hd he hf) ?_; intro x)
      go_roundw
      case rel => exact ⟨k + 1, by omega, by go_num, hT.out.step hlt x⟩
      case measure => simp [intOf]; omega
    · have : k = 17 := by omega
      subst this
      have hcv := ht.done
      have hbl : Below w.heap.size w _ := ht.below
      clear ht
      go_wp2
      go_ret
      exact ⟨rfl, hbl⟩
end Go.Proofs.Yticbihnnemojbaa
