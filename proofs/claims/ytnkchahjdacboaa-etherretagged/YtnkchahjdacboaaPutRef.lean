/-
  The walks of the bytes of a tag by definition, for every tag.
-/
import Derived.Test.YtnkchahjdacboaaPutINo
import Derived.Deep.RegionHeld3
namespace Go.Proofs.Ytnkchahjdacboaa
set_option linter.unusedVariables false
open Go.RowKit

theorem own_new (W : World) (l : List Int) (k B : Nat) (cs : Array Value) (hcs : cs = (l.map (Value.int .u8)).toArray) (hk : W.heap.size = k) (hB : B ≤ k) (hl : l.length ≤ 100000) : Own (W.alloc (.cells cs 5)) B (.slice (some ⟨k, 0, none⟩) l.length l.length) l := by
  subst hcs hk
  exact ⟨by simp, .inr ⟨_, _, _, rfl, hB, alloc_at W _, Nat.le_refl _, by unfold maxLen; omega, by simp, List.take_of_length_le (by simp)⟩⟩

theorem below_dn {B : Nat} {a w : World} (h : Below B a w) (n : Nat) : Below B a (w.drewN n) := ⟨h.os, h.tape, h.output, h.size, h.block⟩

set_option maxHeartbeats 400000 in
theorem bytes_ref (p v : Int) (d : Bool) (w : World) (h : tagOk p v = true) :
    Calls Try.prog 41 #[.agg #[.int .i64 p, .bool d, .int .i64 v]] w fun r w' => ∃ s, r = .returned s ∧ Own w' w.heap.size s (tagL p d v) ∧ Below w.heap.size w w' := by
  have hb := tagOk_iff.1 h
  clear h
  obtain ⟨hb1, hb2, hb3, hb4⟩ := hb
  have hd := bitN_lt d
  go_enter Try.func41, Try.ntmps41
  go_wp2
  go_quiet ((go_at_call 49; refine Calls.quiet_of_same (bit_ref _ _ _)))
  go_wp2
  go_ret
  refine ⟨_, rfl, ?_, ?_⟩
  · exact own_new _ [_, _] _ _ _ rfl (by simp) (by omega) (by simp)
  · exact (below_dn ((Below.refl _ _).alloc (Nat.le_refl _) _) nq).alloc (by simp) _

set_option maxHeartbeats 400000 in
theorem pref_no (p v : Int) (d : Bool) (w : World) (h : tagOk p v = false) :
    Calls Try.prog 24 #[.agg #[.int .i64 p, .bool d, .int .i64 v]] w fun r w' => r = .returned (.tuple #[.slice none 0 0, .int .i64 20]) ∧ Below w.heap.size w w' := by
  have hx := @Later.cell
  go_enter Try.func24, Try.ntmps24
  go_wp2_with fail
  refine Calls.on_later (is_any p v d _) ?_
  intro y
  go_wp2
  go_ret2
  exact ⟨rfl, below_later (by go_grown) y⟩

set_option maxHeartbeats 400000 in
theorem pref_yes (p v : Int) (d : Bool) (w : World) (h : tagOk p v = true) :
    Calls Try.prog 24 #[.agg #[.int .i64 p, .bool d, .int .i64 v]] w fun r w' => ∃ s, r = .returned (.tuple #[s, .int .i64 0]) ∧ Own w' w.heap.size s (tagL p d v) ∧ Below w.heap.size w w' := by
  have hx := @Later.cell
  go_enter Try.func24, Try.ntmps24
  go_wp2_with fail
  refine Calls.on_later (is_any p v d _) ?_
  intro y
  have hbl : Hid (Below w.heap.size w y.val) := below_later (by go_grown) y
  have hz := y.below.size
  simp only [World.size_alloc] at hz
  have z1 : w.heap.size < y.val.heap.size := by omega
  clear hz
  go_wp2_with fail
  refine (bytes_ref p v d _ h).mono ?_
  rintro _ w2 ⟨s, rfl, ho, hb2⟩
  have HO : Hid (Own w2 w.heap.size s (tagL p d v)) := ho.base (by omega)
  have HB : Hid (Below w.heap.size w w2) := below_over hbl.out hb2
  clear ho hb2
  go_wp2
  go_ret2
  exact ⟨_, rfl, HO.out, HB.out⟩

end Go.Proofs.Ytnkchahjdacboaa
