/-
  What parsing gives, in one form for every text.
-/
import Derived.Test.YticbihnnemojbaaParseRef
namespace Go.Proofs.Yticbihnnemojbaa
set_option linter.unusedVariables false
open Go.RowKit

def pbyte (s : ByteArray) (j : Nat) : Int := if okT s then dv (bt s (3 * j)) * 16 + dv (bt s (3 * j + 1)) else 0
def perr (s : ByteArray) : Int := if okT s then 0 else 10

theorem okT_no {s : ByteArray} (h : s.size ≠ 17) : okT s = false := by
  unfold okT; rw [decide_eq_false_iff_not]; intro ho; exact h ho.1

theorem both {r : Ending} {s : ByteArray}
    (h1 : okT s = true → r = .returned (.tuple #[.agg #[.int .u8 (dv (bt s 0) * 16 + dv (bt s 1)), .int .u8 (dv (bt s 3) * 16 + dv (bt s 4)), .int .u8 (dv (bt s 6) * 16 + dv (bt s 7)), .int .u8 (dv (bt s 9) * 16 + dv (bt s 10)), .int .u8 (dv (bt s 12) * 16 + dv (bt s 13)), .int .u8 (dv (bt s 15) * 16 + dv (bt s 16))], .int .i64 0]))
    (h2 : okT s = false → r = .returned (.tuple #[.agg #[.int .u8 0, .int .u8 0, .int .u8 0, .int .u8 0, .int .u8 0, .int .u8 0], .int .i64 10])) :
    r = .returned (.tuple #[.agg #[.int .u8 (pbyte s 0), .int .u8 (pbyte s 1), .int .u8 (pbyte s 2), .int .u8 (pbyte s 3), .int .u8 (pbyte s 4), .int .u8 (pbyte s 5)], .int .i64 (perr s)]) := by
  unfold pbyte perr
  by_cases h : okT s = true
  · rw [h1 h]; simp only [if_pos h]
  · have h' : okT s = false := by simpa using h
    rw [h2 h']; simp only [if_neg h]

theorem parse_all (s : ByteArray) (w : World) (hs : s.size ≤ maxLen) :
    Calls Try.prog 13 #[.string s] w fun r w' => r = .returned (.tuple #[.agg #[.int .u8 (pbyte s 0), .int .u8 (pbyte s 1), .int .u8 (pbyte s 2), .int .u8 (pbyte s 3), .int .u8 (pbyte s 4), .int .u8 (pbyte s 5)], .int .i64 (perr s)]) ∧ Below w.heap.size w w' := by
  by_cases h : s.size = 17
  · exact (parse_17 s w h).mono fun r w' ⟨h1, h2, hb⟩ => ⟨both h1 h2, hb⟩
  · exact (parse_no s w hs h).mono fun r w' ⟨h1, hb⟩ => ⟨both (fun ho => absurd ho (by rw [okT_no h]; decide)) (fun _ => h1), hb⟩

theorem parse_ref_all (s : ByteArray) (w : World) (hs : s.size ≤ maxLen) :
    Calls Try.prog 14 #[.string s] w fun r w' => r = .returned (.tuple #[.agg #[.int .u8 (pbyte s 0), .int .u8 (pbyte s 1), .int .u8 (pbyte s 2), .int .u8 (pbyte s 3), .int .u8 (pbyte s 4), .int .u8 (pbyte s 5)], .int .i64 (perr s)]) ∧ Below w.heap.size w w' := by
  by_cases h : s.size = 17
  · exact (parse_ref_17 s w h).mono fun r w' ⟨h1, h2, hb⟩ => ⟨both h1 h2, hb⟩
  · exact (parse_ref_no s w hs h).mono fun r w' ⟨h1, hb⟩ => ⟨both (fun ho => absurd ho (by rw [okT_no h]; decide)) (fun _ => h1), hb⟩

theorem pbyte_bd (s : ByteArray) (j : Nat) : 0 ≤ pbyte s j ∧ pbyte s j ≤ 255 := by
  have := dv_bd (bt s (3 * j))
  have := dv_bd (bt s (3 * j + 1))
  unfold pbyte; split <;> omega
end Go.Proofs.Yticbihnnemojbaa
