/-
  The walks of the functions that make the closures, and of those that tell which tags may be, for every input.
-/
import Derived.Test.YteljcgdenagcmaaRead
import Derived.Test.YteljcgdenagcmaaBytes
namespace Go.Proofs.Yteljcgdenagcmaa
set_option linter.unusedVariables false
open Go.RowKit

theorem byN_zero (n j : Nat) : byN n 0 j = 0 := by unfold byN; split <;> simp

theorem alloc_at (w : World) (o : Obj) : (w.alloc o).heap[w.heap.size]? = some o := by
  show (w.heap.push o)[w.heap.size]? = _
  simp

theorem RowAt.new (w : World) (cur : Array Value) (cp : Nat) (f : Nat → Int) (hcur : cur.size = cp) (hz : ∀ j, j < cp → cur[j]? = some (.int .u8 (f j))) : RowAt (w.alloc (.cells cur 5)) w.heap.size cp f :=
  ⟨cur, alloc_at w _, hcur, hz⟩

theorem cell_new (w : World) (v : Value) (t : TypeId) : (w.alloc (.cells #[v] t)).cell? ⟨w.heap.size, 0, none⟩ = some v := cell_of_one (t := t) (alloc_at w _)

theorem writer_any (W w : World) (b n cp : Nat) (hw : Below W.heap.size W w) (hb : W.heap.size ≤ b) (hr : RowAt w b cp (byN n 0)) :
    Calls Try.prog 64 #[.slice (some ⟨b, 0, none⟩) n cp] w fun r w' => ∃ x g, r = .returned (.func (.func 72) #[] #[.pointer (some ⟨x, 0, none⟩), .pointer (some ⟨g, 0, none⟩)]) ∧ WAt W w' b g x n cp (byN n 0) 0 := by
  have hlt := hr.lt
  have hs := hw.size
  go_enter Try.func64, Try.ntmps64
  go_wp2
  go_ret
  refine ⟨_, _, rfl, ?_⟩
  refine ⟨(hw.alloc hs _).alloc (by simp; omega) _, hb, by omega, by omega, by omega, by omega, ?_, ?_, ?_⟩
  · exact (hr.of_block (Below.heap_alloc _ _ _ hlt)).of_block (Below.heap_alloc _ _ _ (by simp; omega))
  · have := alloc_at (w.alloc (.cells #[.slice (some ⟨b, 0, none⟩) n cp] 28)) (.cells #[.int .i64 0] 3)
    simpa using this
  · rw [World.cell?_alloc_lt _ _ _ (by simp)]
    exact cell_new _ _ _

theorem reader_any (a : Option Addr) (n c : Nat) (w : World) :
    Calls Try.prog 70 #[.slice a n c] w fun r w' => r = .returned (.func (.func 73) #[] #[.pointer (some ⟨w.heap.size, 0, none⟩), .pointer (some ⟨w.heap.size + 1, 0, none⟩)]) ∧ RAt (w.alloc (.cells #[.slice a n c] 28)) w' (w.heap.size + 1) 0 := by
  go_enter Try.func70, Try.ntmps70
  go_wp2
  go_ret
  refine ⟨rfl, (Below.refl _ _).alloc (Nat.le_refl _) _, by simp, ?_⟩
  have := alloc_at (w.alloc (.cells #[.slice a n c] 28)) (.cells #[.int .i64 0] 3)
  simpa using this

/-- May a tag be? -/
def tagOk (p v : Int) : Bool := decide (0 ≤ p ∧ p ≤ 7 ∧ 1 ≤ v ∧ v ≤ 4094)
/-- May a service's tag be? -/
def itagOk (p i : Int) : Bool := decide (0 ≤ p ∧ p ≤ 7 ∧ 0 ≤ i ∧ i ≤ 16777215)
/-- The answer of a check. -/
def chk (b : Bool) : Int := if b then 0 else 20

theorem tagOk_iff {p v : Int} : tagOk p v = true ↔ (0 ≤ p ∧ p ≤ 7 ∧ 1 ≤ v ∧ v ≤ 4094) := by simp [tagOk]
theorem itagOk_iff {p i : Int} : itagOk p i = true ↔ (0 ≤ p ∧ p ≤ 7 ∧ 0 ≤ i ∧ i ≤ 16777215) := by simp [itagOk]
theorem ret_int {k : IntKind} {a b : Int} (h : a = b) : Ending.returned (.int k a) = .returned (.int k b) := by rw [h]
theorem ret_bool {a b : Bool} (h : a = b) : Ending.returned (.bool a) = .returned (.bool b) := by rw [h]

/-- A flag as a number. -/
def bitN (b : Bool) : Nat := if b then 1 else 0
theorem bitN_lt (b : Bool) : bitN b < 2 := by cases b <;> decide

theorem bit_any (b : Bool) (w : World) :
    Calls Try.prog 65 #[.bool b] w fun r w' => r = .returned (.int .i64 (bitN b : Nat)) ∧ w' = w := by
  cases b
  all_goals
    go_enter Try.func65, Try.ntmps65
    go_wp2
    go_ret
    exact ⟨rfl, rfl⟩

theorem bit_ref (b : Bool) (n : Int) (w : World) :
    Calls Try.prog 66 #[.bool b, .int .i64 n] w fun r w' => r = .returned (.int .i64 ((bitN b : Nat) * n)) ∧ w' = w := by
  cases b
  all_goals
    go_enter Try.func66, Try.ntmps66
    go_wp2
    go_ret
    exact ⟨ret_int (by simp [bitN]), rfl⟩

set_option maxHeartbeats 400000 in
theorem check_any (p v : Int) (d : Bool) (w : World) :
    Calls Try.prog 45 #[.agg #[.int .i64 p, .bool d, .int .i64 v]] w fun r w' => r = .returned (.int .i64 (chk (tagOk p v))) ∧ Below w.heap.size w w' := by
  go_enter Try.func45, Try.ntmps45
  go_wp2
  all_goals
    go_ret
    refine ⟨ret_int ?_, by go_grown⟩
    first | (simp_all [chk, tagOk]; done) | (simp_all [chk, tagOk]; omega)

set_option maxHeartbeats 400000 in
theorem is_any (p v : Int) (d : Bool) (w : World) :
    Calls Try.prog 32 #[.agg #[.int .i64 p, .bool d, .int .i64 v]] w fun r w' => r = .returned (.bool (tagOk p v)) ∧ Below w.heap.size w w' := by
  go_enter Try.func32, Try.ntmps32
  go_wp2
  all_goals
    go_ret
    refine ⟨ret_bool ?_, by go_grown⟩
    first | (simp_all [tagOk]; done) | (simp_all [tagOk]; omega)

set_option maxHeartbeats 400000 in
theorem checki_any (p : Int) (d u : Bool) (i : Int) (a0 a1 a2 a3 a4 a5 s0 s1 s2 s3 s4 s5 : Int) (w : World) :
    Calls Try.prog 53 #[.agg #[.int .i64 p, .bool d, .bool u, .int .i64 i, .int .u8 a0, .int .u8 a1, .int .u8 a2, .int .u8 a3, .int .u8 a4, .int .u8 a5, .int .u8 s0, .int .u8 s1, .int .u8 s2, .int .u8 s3, .int .u8 s4, .int .u8 s5]] w fun r w' => r = .returned (.int .i64 (chk (itagOk p i))) ∧ Below w.heap.size w w' := by
  go_enter Try.func53, Try.ntmps53
  go_wp2
  all_goals
    go_ret
    refine ⟨ret_int ?_, by go_grown⟩
    first | (simp_all [chk, itagOk]; done) | (simp_all [chk, itagOk]; omega)

set_option maxHeartbeats 400000 in
theorem isi_any (p : Int) (d u : Bool) (i : Int) (a0 a1 a2 a3 a4 a5 s0 s1 s2 s3 s4 s5 : Int) (w : World) :
    Calls Try.prog 33 #[.agg #[.int .i64 p, .bool d, .bool u, .int .i64 i, .int .u8 a0, .int .u8 a1, .int .u8 a2, .int .u8 a3, .int .u8 a4, .int .u8 a5, .int .u8 s0, .int .u8 s1, .int .u8 s2, .int .u8 s3, .int .u8 s4, .int .u8 s5]] w fun r w' => r = .returned (.bool (itagOk p i)) ∧ Below w.heap.size w w' := by
  go_enter Try.func33, Try.ntmps33
  go_wp2
  all_goals
    go_ret
    refine ⟨ret_bool ?_, by go_grown⟩
    first | (simp_all [itagOk]; done) | (simp_all [itagOk]; omega)

set_option maxHeartbeats 400000 in
theorem check_ref (p v : Int) (d : Bool) (w : World) :
    Calls Try.prog 55 #[.agg #[.int .i64 p, .bool d, .int .i64 v]] w fun r w' => r = .returned (.int .i64 (chk (tagOk p v))) ∧ Below w.heap.size w w' := by
  have hx := @Later.cell
  cases hb : tagOk p v
  all_goals
    go_enter Try.func55, Try.ntmps55
    go_wp2_with fail
    refine Calls.on_later (is_any p v d _) ?_
    intro y
    go_wp2
    go_ret
    exact ⟨rfl, below_later (by go_grown) y⟩

end Go.Proofs.Yteljcgdenagcmaa
