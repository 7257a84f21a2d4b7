/-
  The walk of a tag's bytes, for every tag.
-/
import Derived.Test.YteljcgdenagcmaaMake
namespace Go.Proofs.Yteljcgdenagcmaa
set_option linter.unusedVariables false
open Go.RowKit

/-- A tag as a number. -/
def tagN (p : Int) (d : Bool) (v : Int) : Int := p * 8192 + (bitN d : Nat) * 4096 + v
/-- A tag's bytes. -/
def tagL (p : Int) (d : Bool) (v : Int) : List Int := [tagN p d v / 256, tagN p d v % 256]

theorem make2 (w : World) : (Instr.makeSlice 28 (.int .i64 2) (.int .i64 2)).run Try.prog w = .ok (.slice (some ⟨w.heap.size, 0, none⟩) 2 2) (w.alloc (.cells #[.int .u8 0, .int .u8 0] 5)) := by kernel_rfl

theorem check_yes (p v : Int) (d : Bool) (w : World) (h : tagOk p v = true) : Calls Try.prog 45 #[.agg #[.int .i64 p, .bool d, .int .i64 v]] w fun r w' => r = .returned (.int .i64 0) ∧ Below w.heap.size w w' := by
  have := check_any p v d w
  rw [h] at this
  exact this
theorem check_no (p v : Int) (d : Bool) (w : World) (h : tagOk p v = false) : Calls Try.prog 45 #[.agg #[.int .i64 p, .bool d, .int .i64 v]] w fun r w' => r = .returned (.int .i64 20) ∧ Below w.heap.size w w' := by
  have := check_any p v d w
  rw [h] at this
  exact this

/-- A writing, met in the walk. -/
theorem Calls.on_write {f : FuncId} {args : Array Value} {W w : World} {b g x n cp k : Nat} {F : Nat → Int} {v : Value} {K : Ending → World → Prop}
    (h : Calls Try.prog f args w fun r w' => r = .returned v ∧ WAt W w' b g x n cp F k) (k' : ∀ z : Later W, WAt W z.val b g x n cp F k → K (.returned v) z.val) : Calls Try.prog f args w K :=
  h.mono fun _ w' ⟨he, hb⟩ => by subst he; exact k' (Later.mk w' hb.below) hb

theorem Calls.on_writer {args : Array Value} {W w : World} {b n cp : Nat} {K : Ending → World → Prop}
    (h : Calls Try.prog 64 args w fun r w' => ∃ x g, r = .returned (.func (.func 72) #[] #[.pointer (some ⟨x, 0, none⟩), .pointer (some ⟨g, 0, none⟩)]) ∧ WAt W w' b g x n cp (byN n 0) 0)
    (k' : ∀ (z : Later W) (x g : Nat), WAt W z.val b g x n cp (byN n 0) 0 → K (.returned (.func (.func 72) #[] #[.pointer (some ⟨x, 0, none⟩), .pointer (some ⟨g, 0, none⟩)])) z.val) : Calls Try.prog 64 args w K :=
  h.mono fun _ w' ⟨x, g, he, hb⟩ => by subst he; exact k' (Later.mk w' hb.below) x g hb

set_option maxHeartbeats 400000 in
theorem put_no (p v : Int) (d : Bool) (w : World) (h : tagOk p v = false) :
    Calls Try.prog 47 #[.agg #[.int .i64 p, .bool d, .int .i64 v]] w fun r w' => r = .returned (.tuple #[.slice none 0 0, .int .i64 20]) ∧ Below w.heap.size w w' := by
  have hx := @Later.cell
  go_enter Try.func47, Try.ntmps47
  go_wp2_with fail
  refine Calls.on_later (check_no p v d _ h) ?_
  intro y
  go_wp2
  go_ret2
  exact ⟨rfl, below_later (by go_grown) y⟩

set_option maxHeartbeats 800000 in
theorem put_nat (p v : Nat) (d : Bool) (w : World) (hp : p ≤ 7) (hv1 : 1 ≤ v) (hv2 : v ≤ 4094) :
    Calls Try.prog 47 #[.agg #[.int .i64 p, .bool d, .int .i64 v]] w fun r w' => ∃ s, r = .returned (.tuple #[s, .int .i64 0]) ∧ Own w' w.heap.size s [byN 2 (p * 8192 + bitN d * 4096 + v) 0, byN 2 (p * 8192 + bitN d * 4096 + v) 1] ∧ Below w.heap.size w w' := by
  have hx := @Later.cell
  have hm := make2
  have h : tagOk p v = true := tagOk_iff.2 (by omega)
  obtain ⟨e, he⟩ : ∃ e, bitN d = e := ⟨_, rfl⟩
  have he2 : e < 2 := by rw [← he]; exact bitN_lt d
  go_enter Try.func47, Try.ntmps47
  go_wp2_with fail
  refine Calls.on_later (check_yes p v d _ h) ?_
  intro y
  have hbl : Hid (Below w.heap.size w y.val) := below_later (by go_grown) y
  have hz := y.below.size
  simp only [World.size_alloc] at hz
  have z1 : w.heap.size < y.val.heap.size := by omega
  go_wp2_with fail
  refine Calls.on_writer (writer_any y.val _ _ 2 2 ((Below.refl _ _).alloc (Nat.le_refl _) _) (Nat.le_refl _) (RowAt.new _ _ 2 _ rfl (by intro j hj; match j, hj with | 0, _ => rfl | 1, _ => rfl))) ?_
  intro y1 x g h1
  have H1 : Hid (WAt _ _ _ _ _ _ _ _ _) := h1
  clear h1
  go_wp2_with fail
  refine Calls.on_write (write_any 3 p 0 2 2 _ g x 0 _ y.val (by omega) (by omega) (by omega) (by omega) (by omega) (by simp) H1.out) ?_
  clear H1 y1
  intro y2 h2
  have H2 : Hid (WAt _ _ _ _ _ _ _ _ _) := h2
  clear h2
  go_wp2_with fail
  refine (bit_any d _).mono ?_
  rintro _ _ ⟨rfl, rfl⟩
  rw [he]
  go_wp2_with fail
  refine Calls.on_write (write_any 1 e 3 2 2 _ g x _ _ y.val (by omega) (by omega) (by omega) (by omega) (by omega) (by first | (simp; done) | (simp; omega)) H2.out) ?_
  clear H2 y2
  intro y3 h3
  have H3 : Hid (WAt _ _ _ _ _ _ _ _ _) := h3
  clear h3
  go_wp2_with fail
  refine Calls.on_write (write_any 12 v 4 2 2 _ g x _ _ y.val (by omega) (by omega) (by omega) (by omega) (by omega) (by first | (simp; done) | (simp; omega)) H3.out) ?_
  clear H3 y3
  intro y4 h4
  have H4 : Hid (WAt _ _ _ _ _ _ _ _ _) := h4
  clear h4
  go_wp2
  go_ret2
  have h4 := H4.out
  refine ⟨_, rfl, ?_, below_over hbl.out y4.below⟩
  have ho := h4.row.own w.heap.size 2 (by have := h4.hb; omega) (by omega) (by unfold maxLen; omega)
  have e4 : 0 + p * 2 ^ (8 * 2 - 0 - 3) + e * 2 ^ (8 * 2 - 3 - 1) + v * 2 ^ (8 * 2 - 4 - 12) = p * 8192 + bitN d * 4096 + v := by rw [he]; simp
  rw [e4] at ho
  exact ho

theorem put_yes (p v : Int) (d : Bool) (w : World) (h : tagOk p v = true) :
    Calls Try.prog 47 #[.agg #[.int .i64 p, .bool d, .int .i64 v]] w fun r w' => ∃ s, r = .returned (.tuple #[s, .int .i64 0]) ∧ Own w' w.heap.size s (tagL p d v) ∧ Below w.heap.size w w' := by
  have hb := tagOk_iff.1 h
  have hd := bitN_lt d
  obtain ⟨P, rfl⟩ := Int.eq_ofNat_of_zero_le hb.1
  obtain ⟨V, rfl⟩ := Int.eq_ofNat_of_zero_le (show 0 ≤ v by omega)
  have := put_nat P V d w (by omega) (by omega) (by omega)
  have e : [byN 2 (P * 8192 + bitN d * 4096 + V) 0, byN 2 (P * 8192 + bitN d * 4096 + V) 1] = tagL P d V := by
    unfold tagL tagN byN
    simp
    omega
  rw [e] at this
  exact this
end Go.Proofs.Yteljcgdenagcmaa
