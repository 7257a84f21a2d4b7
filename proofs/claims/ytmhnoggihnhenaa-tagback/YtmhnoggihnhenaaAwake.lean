/-
  The walks of the bytes of a service's tag by definition, and of the page's examples.
-/
import Derived.Test.YtmhnoggihnhenaaPutRef
import Derived.Deep.AppendLies
namespace Go.Proofs.Ytmhnoggihnhenaa
set_option linter.unusedVariables false
open Go.RowKit

set_option maxHeartbeats 800000 in
theorem prefi_no (p : Int) (d u : Bool) (i : Int) (a0 a1 a2 a3 a4 a5 s0 s1 s2 s3 s4 s5 : Int) (w : World) (h : itagOk p i = false) :
    Calls Try.prog 11 #[.agg #[.int .i64 p, .bool d, .bool u, .int .i64 i, .int .u8 a0, .int .u8 a1, .int .u8 a2, .int .u8 a3, .int .u8 a4, .int .u8 a5, .int .u8 s0, .int .u8 s1, .int .u8 s2, .int .u8 s3, .int .u8 s4, .int .u8 s5]] w fun r w' => r = .returned (.tuple #[.slice none 0 0, .int .i64 20]) ∧ Below w.heap.size w w' := by
  have hx := @Later.cell
  go_enter Try.func11, Try.ntmps11
  go_wp2_with fail
  refine Calls.on_later (isi_any p d u i a0 a1 a2 a3 a4 a5 s0 s1 s2 s3 s4 s5 _) ?_
  intro y
  go_wp2
  go_ret2
  exact ⟨rfl, below_later (by go_grown) y⟩

set_option maxHeartbeats 800000 in
theorem prefi_yes (p : Int) (d u : Bool) (i : Int) (a0 a1 a2 a3 a4 a5 s0 s1 s2 s3 s4 s5 : Int) (w : World) (h : itagOk p i = true) :
    Calls Try.prog 11 #[.agg #[.int .i64 p, .bool d, .bool u, .int .i64 i, .int .u8 a0, .int .u8 a1, .int .u8 a2, .int .u8 a3, .int .u8 a4, .int .u8 a5, .int .u8 s0, .int .u8 s1, .int .u8 s2, .int .u8 s3, .int .u8 s4, .int .u8 s5]] w fun r w' => ∃ s, r = .returned (.tuple #[s, .int .i64 0]) ∧ Own w' w.heap.size s (itagL p d u i a0 a1 a2 a3 a4 a5 s0 s1 s2 s3 s4 s5) ∧ Below w.heap.size w w' := by
  have hx := @Later.cell
  go_enter Try.func11, Try.ntmps11
  go_wp2_with fail
  refine Calls.on_later (isi_any p d u i a0 a1 a2 a3 a4 a5 s0 s1 s2 s3 s4 s5 _) ?_
  intro y
  have hbl : Hid (Below w.heap.size w y.val) := below_later (by go_grown) y
  have hz := y.below.size
  simp only [World.size_alloc] at hz
  have z1 : w.heap.size < y.val.heap.size := by omega
  clear hz
  go_wp2_with fail
  refine (bytesi_ref p d u i a0 a1 a2 a3 a4 a5 s0 s1 s2 s3 s4 s5 _ h).mono ?_
  rintro _ w2 ⟨s, rfl, ho, hb2⟩
  have HO : Hid (Own w2 w.heap.size s (itagL p d u i a0 a1 a2 a3 a4 a5 s0 s1 s2 s3 s4 s5)) := ho.base (by omega)
  have HB : Hid (Below w.heap.size w w2) := below_over hbl.out hb2
  clear ho hb2
  go_wp2
  go_ret2
  exact ⟨_, rfl, HO.out, HB.out⟩

theorem Src.take {w : World} {a : Option Addr} {n c : Nat} {l : List Int} (h : Src w (.slice a n c) l) (k : Nat) (hk : k ≤ n) (ha : a ≠ none) : Src w (.slice a k c) (l.take k) := by
  obtain ⟨a', c', e, h2, h3, h4, h5⟩ := h
  cases e
  have hl : (l.take k).length = k := by simp; omega
  refine ⟨a, c, by rw [hl], by rw [hl]; omega, h3, (fun e => absurd e ha), (fun ad e j hj => ?_)⟩
  rw [hl] at hj
  rw [h5 ad e j (by omega)]
  simp [List.getD, List.getElem?_take_of_lt hj]

set_option maxHeartbeats 800000 in
theorem awake_any (w : World) : Calls Try.prog 16 #[] w fun r w' => r = .returned (.bool true) ∧ Below w.heap.size w w' := by
  go_enter Try.func16, Try.ntmps16
  go_wp2_with fail
  refine (put_yes 5 100 true _ (by decide)).mono ?_
  rintro _ w1 ⟨s1, rfl, ho1, hb1⟩
  have HO1 : Hid (Own w1 w.heap.size s1 (tagL 5 true 100)) := ho1
  have HB1 : Hid (Below w.heap.size w w1) := hb1
  clear ho1 hb1
  go_wp2_with fail
  refine (puti_yes 3 false true 300 0 0 0 0 0 0 0 0 0 0 0 0 _ (by decide)).mono ?_
  rintro _ w2 ⟨s2, rfl, ho2, hb2⟩
  have HB2 : Hid (Below w.heap.size w w2) := below_over HB1.out hb2
  have c1 : (convert 28 9 s1).run Try.prog w2 = .ok (.string ⟨#[176, 100]⟩) w2 := (HO1.out.below hb2).src.string
  obtain ⟨g, cp, rfl, hg, hlt⟩ := World.ownsRow.form ho2 (by decide)
  have c2 : (convert 28 9 (.slice (some ⟨g, 0, none⟩) 4 cp)).run Try.prog w2 = .ok (.string ⟨#[104, 0, 1, 44]⟩) w2 := (ho2.src.take 4 (by decide) (by simp)).string
  have hcp : 16 ≤ cp := by
    obtain ⟨_, ⟨h, _⟩ | ⟨_, _, _, h, _, _, h16, _⟩⟩ := ho2
    · cases h
    · cases h; exact h16
  have hl : (itagL 3 false true 300 0 0 0 0 0 0 0 0 0 0 0 0).length = 16 := rfl
  rw [hl]
  clear ho2 HO1 hb2
  go_wp2
  go_ret
  exact ⟨rfl, HB2.out⟩
end Go.Proofs.Ytmhnoggihnhenaa
