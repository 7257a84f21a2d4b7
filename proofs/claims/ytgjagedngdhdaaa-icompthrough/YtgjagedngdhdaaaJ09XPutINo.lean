/-
  The walk of the bytes of a service's tag, for every tag. The walk of the bytes of a service's tag that may be. The walks of the bytes of a tag by definition, for every tag.
-/
import Derived.Test.YtgjagedngdhdaaaJ08XBytes
import Derived.Deep.RegionHeld3
namespace Go.Proofs.Ytgjagedngdhdaaa

section
namespace S4
set_option linter.unusedVariables false
open Go.RowKit

/-- The bytes of a service's tag. -/
def itagL (p : Int) (d u : Bool) (i : Int) (a0 a1 a2 a3 a4 a5 s0 s1 s2 s3 s4 s5 : Int) : List Int := [p * 32 + (bitN d : Nat) * 16 + (bitN u : Nat) * 8, i / 65536, i / 256 % 256, i % 256] ++ [a0, a1, a2, a3, a4, a5] ++ [s0, s1, s2, s3, s4, s5]

theorem make4 (w : World) : (Instr.makeSlice 30 (.int .i64 4) (.int .i64 16)).run Try.prog w = .ok (.slice (some ⟨w.heap.size, 0, none⟩) 4 16) (w.alloc (.cells #[.int .u8 0, .int .u8 0, .int .u8 0, .int .u8 0, .int .u8 0, .int .u8 0, .int .u8 0, .int .u8 0, .int .u8 0, .int .u8 0, .int .u8 0, .int .u8 0, .int .u8 0, .int .u8 0, .int .u8 0, .int .u8 0] 5)) := by kernel_rfl

theorem zeros16 (j : Nat) (hj : j < 16) : (#[Value.int .u8 0, Value.int .u8 0, Value.int .u8 0, Value.int .u8 0, Value.int .u8 0, Value.int .u8 0, Value.int .u8 0, Value.int .u8 0, Value.int .u8 0, Value.int .u8 0, Value.int .u8 0, Value.int .u8 0, Value.int .u8 0, Value.int .u8 0, Value.int .u8 0, Value.int .u8 0] : Array Value)[j]? = some (.int .u8 (byN 4 0 j)) := by
  rw [byN_zero]
  have hj' : j = 0 ∨ j = 1 ∨ j = 2 ∨ j = 3 ∨ j = 4 ∨ j = 5 ∨ j = 6 ∨ j = 7 ∨ j = 8 ∨ j = 9 ∨ j = 10 ∨ j = 11 ∨ j = 12 ∨ j = 13 ∨ j = 14 ∨ j = 15 := by omega
  rcases hj' with rfl | rfl | rfl | rfl | rfl | rfl | rfl | rfl | rfl | rfl | rfl | rfl | rfl | rfl | rfl | rfl
  all_goals rfl

theorem checki_yes (p : Int) (d u : Bool) (i : Int) (a0 a1 a2 a3 a4 a5 s0 s1 s2 s3 s4 s5 : Int) (w : World) (h : itagOk p i = true) : Calls Try.prog 108 #[.agg #[.int .i64 p, .bool d, .bool u, .int .i64 i, .int .u8 a0, .int .u8 a1, .int .u8 a2, .int .u8 a3, .int .u8 a4, .int .u8 a5, .int .u8 s0, .int .u8 s1, .int .u8 s2, .int .u8 s3, .int .u8 s4, .int .u8 s5]] w fun r w' => r = .returned (.int .i64 0) ∧ Below w.heap.size w w' := by
  have := checki_any p d u i a0 a1 a2 a3 a4 a5 s0 s1 s2 s3 s4 s5 w
  rw [h] at this
  exact this
theorem checki_no (p : Int) (d u : Bool) (i : Int) (a0 a1 a2 a3 a4 a5 s0 s1 s2 s3 s4 s5 : Int) (w : World) (h : itagOk p i = false) : Calls Try.prog 108 #[.agg #[.int .i64 p, .bool d, .bool u, .int .i64 i, .int .u8 a0, .int .u8 a1, .int .u8 a2, .int .u8 a3, .int .u8 a4, .int .u8 a5, .int .u8 s0, .int .u8 s1, .int .u8 s2, .int .u8 s3, .int .u8 s4, .int .u8 s5]] w fun r w' => r = .returned (.int .i64 20) ∧ Below w.heap.size w w' := by
  have := checki_any p d u i a0 a1 a2 a3 a4 a5 s0 s1 s2 s3 s4 s5 w
  rw [h] at this
  exact this

theorem puti_n1 (p : Nat) : 0 + p * 2 ^ (8 * 4 - 0 - 3) = p * 536870912 := by omega
theorem puti_m1 (p : Nat) : p * 536870912 % 2 ^ (8 * 4 - 3) = 0 := by show p * 536870912 % 536870912 = 0; omega
theorem puti_n2 (p e : Nat) : p * 536870912 + e * 2 ^ (8 * 4 - 3 - 1) = p * 536870912 + e * 268435456 := by omega
theorem puti_m2 (p e : Nat) : (p * 536870912 + e * 268435456) % 2 ^ (8 * 4 - 4) = 0 := by show _ % 268435456 = 0; omega
theorem puti_n3 (p e f : Nat) : p * 536870912 + e * 268435456 + f * 2 ^ (8 * 4 - 4 - 1) = p * 536870912 + e * 268435456 + f * 134217728 := by omega
theorem puti_m3 (p e f : Nat) : (p * 536870912 + e * 268435456 + f * 134217728) % 2 ^ (8 * 4 - 5) = 0 := by show _ % 134217728 = 0; omega
theorem puti_n4 (p e f : Nat) : p * 536870912 + e * 268435456 + f * 134217728 + 0 * 2 ^ (8 * 4 - 5 - 3) = p * 536870912 + e * 268435456 + f * 134217728 := by omega
theorem puti_m4 (p e f : Nat) : (p * 536870912 + e * 268435456 + f * 134217728) % 2 ^ (8 * 4 - 8) = 0 := by show _ % 16777216 = 0; omega
theorem puti_n5 (p e f i : Nat) : p * 536870912 + e * 268435456 + f * 134217728 + i * 2 ^ (8 * 4 - 8 - 24) = p * 536870912 + e * 268435456 + f * 134217728 + i := by omega

theorem src6 {w : World} {b o : Nat} {a0 a1 a2 a3 a4 a5 : Int} (h0 : w.cell? ⟨b, o, none⟩ = some (.int .u8 a0)) (h1 : w.cell? ⟨b, o + 1, none⟩ = some (.int .u8 a1)) (h2 : w.cell? ⟨b, o + 2, none⟩ = some (.int .u8 a2))
    (h3 : w.cell? ⟨b, o + 3, none⟩ = some (.int .u8 a3)) (h4 : w.cell? ⟨b, o + 4, none⟩ = some (.int .u8 a4)) (h5 : w.cell? ⟨b, o + 5, none⟩ = some (.int .u8 a5)) : Src w (.slice (some ⟨b, o, none⟩) 6 6) [a0, a1, a2, a3, a4, a5] := by
  refine ⟨some ⟨b, o, none⟩, 6, rfl, Nat.le_refl _, by unfold maxLen; omega, (fun e => by cases e), (fun ad e j hj => ?_)⟩
  cases e
  have e : (⟨b, o, none⟩ : Addr).add j = ⟨b, o + j, none⟩ := by unfold Addr.add; split <;> simp_all
  rw [e]
  match j, hj with
  | 0, _ => exact h0
  | 1, _ => exact h1
  | 2, _ => exact h2
  | 3, _ => exact h3
  | 4, _ => exact h4
  | 5, _ => exact h5

end S4
end

section
namespace S4
set_option linter.unusedVariables false
open Go.RowKit

end S4
end

section
namespace S4
set_option linter.unusedVariables false
open Go.RowKit

theorem own_new (W : World) (l : List Int) (k B : Nat) (cs : Array Value) (hcs : cs = (l.map (Value.int .u8)).toArray) (hk : W.heap.size = k) (hB : B ≤ k) (hl : l.length ≤ 100000) : Own (W.alloc (.cells cs 5)) B (.slice (some ⟨k, 0, none⟩) l.length l.length) l := by
  subst hcs hk
  exact ⟨by simp, .inr ⟨_, _, _, rfl, hB, alloc_at W _, Nat.le_refl _, by unfold maxLen; omega, by simp, List.take_of_length_le (by simp)⟩⟩

theorem below_dn {B : Nat} {a w : World} (h : Below B a w) (n : Nat) : Below B a (w.drewN n) := ⟨h.os, h.tape, h.output, h.size, h.block⟩

set_option maxHeartbeats 400000 in
theorem bytes_ref (p v : Int) (d : Bool) (w : World) (h : tagOk p v = true) :
    Calls Try.prog 87 #[.agg #[.int .i64 p, .bool d, .int .i64 v]] w fun r w' => ∃ s, r = .returned s ∧ Own w' w.heap.size s (tagL p d v) ∧ Below w.heap.size w w' := by
  have hb := tagOk_iff.1 h
  clear h
  obtain ⟨hb1, hb2, hb3, hb4⟩ := hb
  have hd := bitN_lt d
  go_enter Try.func87, Try.ntmps87
  go_wp2
  go_quiet ((go_at_call 112; refine Calls.quiet_of_same (bit_ref _ _ _)))
  go_wp2
  go_ret
  refine ⟨_, rfl, ?_, ?_⟩
  · exact own_new _ [_, _] _ _ _ rfl (by simp) (by omega) (by simp)
  · exact (below_dn ((Below.refl _ _).alloc (Nat.le_refl _) _) nq).alloc (by simp) _

end S4
end

end Go.Proofs.Ytgjagedngdhdaaa
