/-
  The walks of the bytes of a tag by definition, for every tag.
-/
import Derived.Test.YteljcgdenagcmaaPutI
import Derived.Deep.RegionHeld3
namespace Go.Proofs.Yteljcgdenagcmaa
set_option linter.unusedVariables false
open Go.RowKit

theorem puti_yes (p : Int) (d u : Bool) (i : Int) (a0 a1 a2 a3 a4 a5 s0 s1 s2 s3 s4 s5 : Int) (w : World) (h : itagOk p i = true) :
    Calls Try.prog 48 #[.agg #[.int .i64 p, .bool d, .bool u, .int .i64 i, .int .u8 a0, .int .u8 a1, .int .u8 a2, .int .u8 a3, .int .u8 a4, .int .u8 a5, .int .u8 s0, .int .u8 s1, .int .u8 s2, .int .u8 s3, .int .u8 s4, .int .u8 s5]] w fun r w' => ∃ s, r = .returned (.tuple #[s, .int .i64 0]) ∧ Own w' w.heap.size s (itagL p d u i a0 a1 a2 a3 a4 a5 s0 s1 s2 s3 s4 s5) ∧ Below w.heap.size w w' := by
  have hb := itagOk_iff.1 h
  have hd := bitN_lt d
  have hu := bitN_lt u
  obtain ⟨P, rfl⟩ := Int.eq_ofNat_of_zero_le hb.1
  obtain ⟨I, rfl⟩ := Int.eq_ofNat_of_zero_le (show 0 ≤ i by omega)
  have := puti_nat P I d u a0 a1 a2 a3 a4 a5 s0 s1 s2 s3 s4 s5 w (by omega) (by omega)
  have e : (List.range 4).map (byN 4 (P * 536870912 + bitN d * 268435456 + bitN u * 134217728 + I)) = [(P : Int) * 32 + (bitN d : Nat) * 16 + (bitN u : Nat) * 8, (I : Int) / 65536, (I : Int) / 256 % 256, (I : Int) % 256] := by
    simp [List.range_succ, byN]
    omega
  rw [e] at this
  exact this

theorem own_new (W : World) (l : List Int) (k B : Nat) (cs : Array Value) (hcs : cs = (l.map (Value.int .u8)).toArray) (hk : W.heap.size = k) (hB : B ≤ k) (hl : l.length ≤ 100000) : Own (W.alloc (.cells cs 5)) B (.slice (some ⟨k, 0, none⟩) l.length l.length) l := by
  subst hcs hk
  exact ⟨by simp, .inr ⟨_, _, _, rfl, hB, alloc_at W _, Nat.le_refl _, by unfold maxLen; omega, by simp, List.take_of_length_le (by simp)⟩⟩

theorem below_dn {B : Nat} {a w : World} (h : Below B a w) (n : Nat) : Below B a (w.drewN n) := ⟨h.os, h.tape, h.output, h.size, h.block⟩

set_option maxHeartbeats 400000 in
theorem bytes_ref (p v : Int) (d : Bool) (w : World) (h : tagOk p v = true) :
    Calls Try.prog 50 #[.agg #[.int .i64 p, .bool d, .int .i64 v]] w fun r w' => ∃ s, r = .returned s ∧ Own w' w.heap.size s (tagL p d v) ∧ Below w.heap.size w w' := by
  have hb := tagOk_iff.1 h
  clear h
  obtain ⟨hb1, hb2, hb3, hb4⟩ := hb
  have hd := bitN_lt d
  go_enter Try.func50, Try.ntmps50
  go_wp2
  go_quiet ((go_at_call 66; refine Calls.quiet_of_same (bit_ref _ _ _)))
  go_wp2
  go_ret
  refine ⟨_, rfl, ?_, ?_⟩
  · exact own_new _ [_, _] _ _ _ rfl (by simp) (by omega) (by simp)
  · exact (below_dn ((Below.refl _ _).alloc (Nat.le_refl _) _) nq).alloc (by simp) _

set_option maxHeartbeats 800000 in
theorem bytesi_ref (p : Int) (d u : Bool) (i : Int) (a0 a1 a2 a3 a4 a5 s0 s1 s2 s3 s4 s5 : Int) (w : World) (h : itagOk p i = true) :
    Calls Try.prog 51 #[.agg #[.int .i64 p, .bool d, .bool u, .int .i64 i, .int .u8 a0, .int .u8 a1, .int .u8 a2, .int .u8 a3, .int .u8 a4, .int .u8 a5, .int .u8 s0, .int .u8 s1, .int .u8 s2, .int .u8 s3, .int .u8 s4, .int .u8 s5]] w fun r w' => ∃ s, r = .returned s ∧ Own w' w.heap.size s (itagL p d u i a0 a1 a2 a3 a4 a5 s0 s1 s2 s3 s4 s5) ∧ Below w.heap.size w w' := by
  have hb := itagOk_iff.1 h
  clear h
  obtain ⟨hb1, hb2, hb3, hb4⟩ := hb
  have hd := bitN_lt d
  have hu := bitN_lt u
  have hx := @Later.cell
  go_enter Try.func51, Try.ntmps51
  go_wp2
  go_region_held3 (fun w' => w'.cell? ⟨w.heap.size, 0, none⟩ = some (.int .i64 p) ∧ w'.cell? ⟨w.heap.size, 1, none⟩ = some (.bool d) ∧ w'.cell? ⟨w.heap.size, 2, none⟩ = some (.bool u) ∧ w'.cell? ⟨w.heap.size, 3, none⟩ = some (.int .i64 i)) (go_keep) ((first | (go_at_call 66; refine (bit_ref _ _ _).mono ?_; rintro _ _ ⟨rfl, rfl⟩)))
  all_goals
    rename_i W0 hS
    clear hS
    have q0 : IntKind.u8.wrap (IntKind.i64.wrap (IntKind.i64.wrap (IntKind.i64.wrap (p * 32) + (bitN d : Nat) * 16) + (bitN u : Nat) * 8)) = p * 32 + (bitN d : Nat) * 16 + (bitN u : Nat) * 8 := by
      rw [IntWalk.i64_in (p * 32) (by omega), IntWalk.i64_in (p * 32 + (bitN d : Nat) * 16) (by omega), IntWalk.i64_in _ (by omega), IntKind.wrap_u8']; omega
    have q1 : IntKind.u8.wrap (IntKind.i64.wrap (i.tdiv 65536)) = i / 65536 := by
      rw [Int.tdiv_eq_ediv_of_nonneg hb3, IntWalk.i64_in _ (by omega), IntKind.wrap_u8']; omega
    have q2 : IntKind.u8.wrap ((IntKind.i64.wrap (i.tdiv 256)).tmod 256) = i / 256 % 256 := by
      rw [Int.tdiv_eq_ediv_of_nonneg hb3, IntWalk.i64_in _ (by omega), Int.tmod_eq_emod_of_nonneg (by omega), IntKind.wrap_u8']; omega
    have q3 : IntKind.u8.wrap (i.tmod 256) = i % 256 := by
      rw [Int.tmod_eq_emod_of_nonneg hb3, IntKind.wrap_u8']; omega
    simp only [q0, q1, q2, q3]
    clear q0 q1 q2 q3
    have ho := own_new (w.alloc (.cells #[.int .i64 p, .bool d, .bool u, .int .i64 i, .int .u8 a0, .int .u8 a1, .int .u8 a2, .int .u8 a3, .int .u8 a4, .int .u8 a5, .int .u8 s0, .int .u8 s1, .int .u8 s2, .int .u8 s3, .int .u8 s4, .int .u8 s5] 27)) [p * 32 + (bitN d : Nat) * 16 + (bitN u : Nat) * 8, i / 65536, i / 256 % 256, i % 256] (w.heap.size + 1) (w.heap.size + 1) #[.int .u8 (p * 32 + (bitN d : Nat) * 16 + (bitN u : Nat) * 8), .int .u8 (i / 65536), .int .u8 (i / 256 % 256), .int .u8 (i % 256)] rfl (by simp) (Nat.le_refl _) (by simp)
    obtain ⟨y6, hy6⟩ : ∃ y : Later (w.alloc (.cells #[.int .i64 p, .bool d, .bool u, .int .i64 i, .int .u8 a0, .int .u8 a1, .int .u8 a2, .int .u8 a3, .int .u8 a4, .int .u8 a5, .int .u8 s0, .int .u8 s1, .int .u8 s2, .int .u8 s3, .int .u8 s4, .int .u8 s5] 27)), y.val = ((w.alloc (.cells #[.int .i64 p, .bool d, .bool u, .int .i64 i, .int .u8 a0, .int .u8 a1, .int .u8 a2, .int .u8 a3, .int .u8 a4, .int .u8 a5, .int .u8 s0, .int .u8 s1, .int .u8 s2, .int .u8 s3, .int .u8 s4, .int .u8 s5] 27)).alloc (.cells #[.int .u8 (p * 32 + (bitN d : Nat) * 16 + (bitN u : Nat) * 8), .int .u8 (i / 65536), .int .u8 (i / 256 % 256), .int .u8 (i % 256)] 5)).drew := ⟨⟨_, ((Below.refl _ _).alloc (Nat.le_refl _) _).drew⟩, rfl⟩
    have ho6 : Hid (Own y6.val (w.heap.size + 1) (.slice (some ⟨w.heap.size + 1, 0, none⟩) 4 4) [p * 32 + (bitN d : Nat) * 16 + (bitN u : Nat) * 8, i / 65536, i / 256 % 256, i % 256]) := by
      rw [hy6]
      exact ho
    rw [← hy6]
    clear ho hy6
    have hz6 := y6.below.size
    simp only [World.size_alloc] at hz6
    have HA : Hid (Src y6.val (.slice (some ⟨w.heap.size, 4, none⟩) 6 6) [a0, a1, a2, a3, a4, a5]) := src6 (by go_simp) (by go_simp) (by go_simp) (by go_simp) (by go_simp) (by go_simp)
    go_wp2_with (at_builtin; refine wpList_app rfl _ _ rfl (by rfl) (by rfl) ho6.out HA.out (by simp) hz6 ?_)
    intro v7 w7 ho7 hg7 hat7
    obtain ⟨y7, rfl⟩ : ∃ y7 : Later (w.alloc (.cells #[.int .i64 p, .bool d, .bool u, .int .i64 i, .int .u8 a0, .int .u8 a1, .int .u8 a2, .int .u8 a3, .int .u8 a4, .int .u8 a5, .int .u8 s0, .int .u8 s1, .int .u8 s2, .int .u8 s3, .int .u8 s4, .int .u8 s5] 27)), y7.val = w7 := ⟨⟨w7, by
      have h1 := grown_below ho6.out hg7 hz6
      exact y6.below.trans (h1.mono (by simp))⟩, rfl⟩
    have HO7 : Hid (Own _ _ _ _) := ho7
    clear ho7 hg7 hat7 ho6 HA
    have HS : Hid (Src y7.val (.slice (some ⟨w.heap.size, 10, none⟩) 6 6) [s0, s1, s2, s3, s4, s5]) := src6 (by go_simp) (by go_simp) (by go_simp) (by go_simp) (by go_simp) (by go_simp)
    go_wp2_with (at_builtin; refine wpList_app rfl _ _ rfl (by rfl) (by rfl) HO7.out HS.out (by simp) (by have := y7.below.size; simpa using this) ?_)
    intro v8 w8 ho8 hg8 hat8
    have hb8 : Hid (Below w.heap.size w w8) := by
      have h1 := grown_below HO7.out hg8 (by have := y7.below.size; simpa using this)
      exact (below_later ((Below.refl _ _).alloc (Nat.le_refl _) _) y7).trans (h1.mono (by omega))
    have HO8 : Hid (Own _ _ _ _) := ho8
    clear ho8 hg8 hat8 HO7 HS
    go_wp2
    go_ret
    exact ⟨_, rfl, HO8.out.base (by omega), hb8.out⟩
end Go.Proofs.Yteljcgdenagcmaa
