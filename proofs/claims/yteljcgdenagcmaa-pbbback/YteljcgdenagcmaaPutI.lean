/-
  The walk of the bytes of a service's tag that may be.
-/
import Derived.Test.YteljcgdenagcmaaPutINo
namespace Go.Proofs.Yteljcgdenagcmaa
set_option linter.unusedVariables false
open Go.RowKit

set_option maxHeartbeats 1600000 in
theorem puti_nat (p i : Nat) (d u : Bool) (a0 a1 a2 a3 a4 a5 s0 s1 s2 s3 s4 s5 : Int) (w : World) (hp : p ≤ 7) (hi : i ≤ 16777215) :
    Calls Try.prog 48 #[.agg #[.int .i64 p, .bool d, .bool u, .int .i64 i, .int .u8 a0, .int .u8 a1, .int .u8 a2, .int .u8 a3, .int .u8 a4, .int .u8 a5, .int .u8 s0, .int .u8 s1, .int .u8 s2, .int .u8 s3, .int .u8 s4, .int .u8 s5]] w fun r w' => ∃ s, r = .returned (.tuple #[s, .int .i64 0]) ∧ Own w' w.heap.size s ((List.range 4).map (byN 4 (p * 536870912 + bitN d * 268435456 + bitN u * 134217728 + i)) ++ [a0, a1, a2, a3, a4, a5] ++ [s0, s1, s2, s3, s4, s5]) ∧ Below w.heap.size w w' := by
  have hx := @Later.cell
  have hm := make4
  have h : itagOk p i = true := itagOk_iff.2 (by omega)
  obtain ⟨e, he⟩ : ∃ e, bitN d = e := ⟨_, rfl⟩
  have he2 : e < 2 := by rw [← he]; exact bitN_lt d
  obtain ⟨f, hf⟩ : ∃ f, bitN u = f := ⟨_, rfl⟩
  have hf2 : f < 2 := by rw [← hf]; exact bitN_lt u
  go_enter Try.func48, Try.ntmps48
  go_wp2_with fail
  refine Calls.on_later (checki_yes p d u i a0 a1 a2 a3 a4 a5 s0 s1 s2 s3 s4 s5 _ h) ?_
  intro y
  have hbl : Hid (Below w.heap.size w y.val) := below_later (by go_grown) y
  have hz := y.below.size
  simp only [World.size_alloc] at hz
  have z1 : w.heap.size < y.val.heap.size := by omega
  go_wp2_with fail
  refine Calls.on_writer (writer_any y.val _ _ 4 16 ((Below.refl _ _).alloc (Nat.le_refl _) _) (Nat.le_refl _) (RowAt.new _ _ 16 _ rfl zeros16)) ?_
  intro y1 x g h1
  have H1 : Hid (WAt _ _ _ _ _ _ _ _ _) := h1
  clear h1
  go_wp2_with fail
  refine Calls.on_write (write_any 3 p 0 4 16 _ g x 0 _ y.val (by omega) (by omega) (by omega) (by omega) (by omega) (by simp) H1.out) ?_
  clear H1 y1
  intro y2 h2
  rw [puti_n1] at h2
  have H2 : Hid (WAt _ _ _ _ _ _ _ _ _) := h2
  clear h2
  go_wp2_with fail
  refine (bit_any d _).mono ?_
  rintro _ _ ⟨rfl, rfl⟩
  rw [he]
  go_wp2_with fail
  refine Calls.on_write (write_any 1 e 3 4 16 _ g x _ _ y.val (by omega) (by omega) (by omega) (by omega) (by omega) (puti_m1 _) H2.out) ?_
  clear H2 y2
  intro y3 h3
  rw [puti_n2] at h3
  have H3 : Hid (WAt _ _ _ _ _ _ _ _ _) := h3
  clear h3
  go_wp2_with fail
  refine (bit_any u _).mono ?_
  rintro _ _ ⟨rfl, rfl⟩
  rw [hf]
  go_wp2_with fail
  refine Calls.on_write (write_any 1 f 4 4 16 _ g x _ _ y.val (by omega) (by omega) (by omega) (by omega) (by omega) (puti_m2 _ _) H3.out) ?_
  clear H3 y3
  intro y4 h4
  rw [puti_n3] at h4
  have H4 : Hid (WAt _ _ _ _ _ _ _ _ _) := h4
  clear h4
  go_wp2_with fail
  refine Calls.on_write (write_any 3 0 5 4 16 _ g x _ _ y.val (by omega) (by omega) (by omega) (by omega) (by omega) (puti_m3 _ _ _) H4.out) ?_
  clear H4 y4
  intro y5 h5
  rw [puti_n4] at h5
  have H5 : Hid (WAt _ _ _ _ _ _ _ _ _) := h5
  clear h5
  go_wp2_with fail
  refine Calls.on_write (write_any 24 i 8 4 16 _ g x _ _ y.val (by omega) (by omega) (by omega) (by omega) (by omega) (puti_m4 _ _ _) H5.out) ?_
  clear H5 y5
  intro y6 h6
  rw [puti_n5] at h6
  have ho : Hid (Own y6.val y.val.heap.size _ _) := h6.row.own y.val.heap.size 4 h6.hb (by omega) (by unfold maxLen; omega)
  clear h6
  have hsa : Src y6.val (.slice (some ⟨w.heap.size, 4, none⟩) 6 6) [a0, a1, a2, a3, a4, a5] := src6 (by go_simp) (by go_simp) (by go_simp) (by go_simp) (by go_simp) (by go_simp)
  have HA : Hid (Src y6.val (.slice (some ⟨w.heap.size, 4, none⟩) 6 6) [a0, a1, a2, a3, a4, a5]) := hsa
  clear hsa
  go_wp2_with (at_builtin; refine wpList_app rfl _ _ rfl (by rfl) (by rfl) ho.out HA.out (by simp) y6.below.size ?_)
  intro v7 w7 ho7 hg7 hat7
  obtain ⟨y7, rfl⟩ : ∃ y7 : Later y.val, y7.val = w7 := ⟨⟨w7, y6.below.trans (grown_below ho.out hg7 y6.below.size)⟩, rfl⟩
  have HO7 : Hid (Own _ _ _ _) := ho7
  clear ho7 hg7 hat7 ho HA
  have hss : Src y7.val (.slice (some ⟨w.heap.size, 10, none⟩) 6 6) [s0, s1, s2, s3, s4, s5] := src6 (by go_simp) (by go_simp) (by go_simp) (by go_simp) (by go_simp) (by go_simp)
  have HS : Hid (Src y7.val (.slice (some ⟨w.heap.size, 10, none⟩) 6 6) [s0, s1, s2, s3, s4, s5]) := hss
  clear hss y6
  go_wp2_with (at_builtin; refine wpList_app rfl _ _ rfl (by rfl) (by rfl) HO7.out HS.out (by simp) y7.below.size ?_)
  intro v8 w8 ho8 hg8 hat8
  have hb8 : Hid (Below w.heap.size w w8) := below_over hbl.out (y7.below.trans (grown_below HO7.out hg8 y7.below.size))
  have HO8 : Hid (Own _ _ _ _) := ho8
  clear ho8 hg8 hat8 HO7 HS
  go_wp2
  go_ret2
  refine ⟨_, rfl, ?_, hb8.out⟩
  rw [he, hf]
  exact HO8.out.base (by omega)
end Go.Proofs.Yteljcgdenagcmaa
