/-
  The walks of putting a type ahead of parts, for every number and all parts.
-/
import Derived.Test.YteljcgdenagcmaaTake
import Derived.Test.YteljcgdenagcmaaPut
namespace Go.Proofs.Yteljcgdenagcmaa
set_option linter.unusedVariables false
set_option linter.unusedSimpArgs false
open Go.RowKit

/-- Parts, one by one: slice j leads to the bytes lf j. -/
def Parts (W : World) (pb k : Nat) (vf : Nat → Value) (lf : Nat → List Int) : Prop := ∀ j, j < k → W.cell? ⟨pb, j, none⟩ = some (vf j) ∧ Src W (vf j) (lf j) ∧ (lf j).length ≤ 2000
/-- A head, and j parts behind it. -/
def joined (hd : List Int) (lf : Nat → List Int) : Nat → List Int
  | 0 => hd
  | j + 1 => joined hd lf j ++ lf j

theorem Parts.below {W W' : World} {pb k : Nat} {vf : Nat → Value} {lf : Nat → List Int} (h : Parts W pb k vf lf) (hb : Below W.heap.size W W') : Parts W' pb k vf lf := fun j hj =>
  have h' := h j hj
  ⟨(hb.cell (p := ⟨pb, j, none⟩) (World.block_lt_of_cell? W _ h'.1)).trans h'.1, h'.2.1.below hb, h'.2.2⟩

theorem joined_len {W : World} {pb k : Nat} {vf : Nat → Value} {lf : Nat → List Int} (h : Parts W pb k vf lf) (hd : List Int) : ∀ j, j ≤ k → (joined hd lf j).length ≤ hd.length + 2000 * j
  | 0, _ => by simp [joined]
  | j + 1, hj => by
    have := joined_len h hd j (by omega)
    have h2 := (h j (by omega)).2.2
    simp only [joined, List.length_append]
    omega

/-- A type's bytes. -/
def typeL (n : Int) : List Int := [n / 256, n % 256]
/-- May a type be? -/
def typeOk (n : Int) : Bool := decide (0 ≤ n ∧ n ≤ 65535)

set_option maxHeartbeats 400000 in
theorem ptype_no (n : Int) (x : Value) (w : World) (h : n < 0 ∨ 65535 < n) :
    Calls Try.prog 49 #[.int .i64 n, x] w fun r w' => r = .returned (.tuple #[.slice none 0 0, .int .i64 1]) ∧ Below w.heap.size w w' := by
  by_cases h1 : n < 0
  all_goals
    go_enter Try.func49, Try.ntmps49
    go_wp2
    go_ret2
    exact ⟨rfl, Below.refl _ _⟩

set_option maxHeartbeats 800000 in
theorem ptype_nat (n pb k c : Nat) (vf : Nat → Value) (lf : Nat → List Int) (w : World) (hn : n ≤ 65535) (hk : k ≤ 2) (hkc : k ≤ c) (hP : Parts w pb k vf lf) :
    Calls Try.prog 49 #[.int .i64 n, .slice (some ⟨pb, 0, none⟩) k c] w fun r w' => ∃ s, r = .returned (.tuple #[s, .int .i64 0]) ∧ Own w' w.heap.size s (joined [byN 2 n 0, byN 2 n 1] lf k) ∧ Below w.heap.size w w' := by
  have hm := make2
  have hn1 : ¬ (n : Int) < 0 := by omega
  have hn2 : ¬ (65535 : Int) < (n : Int) := by omega
  have HP : Hid (Parts w pb k vf lf) := hP
  clear hP
  go_enter Try.func49, Try.ntmps49
  go_wp2_with fail
  refine Calls.on_writer (writer_any w _ _ 2 2 ((Below.refl _ _).alloc (Nat.le_refl _) _) (Nat.le_refl _) (RowAt.new _ _ 2 _ rfl (by intro j hj; match j, hj with | 0, _ => rfl | 1, _ => rfl))) ?_
  intro y1 x g h1
  have H1 : Hid (WAt _ _ _ _ _ _ _ _ _) := h1
  clear h1
  go_wp2_with fail
  refine Calls.on_write (write_any 16 n 0 2 2 _ g x 0 _ w (by omega) (by omega) (by omega) (by omega) (by omega) (by simp) H1.out) ?_
  clear H1 y1
  intro y2 h2
  have e4 : 0 + n * 2 ^ (8 * 2 - 0 - 16) = n := by simp
  rw [e4] at h2
  have ho : Hid (Own y2.val w.heap.size (.slice (some ⟨w.heap.size, 0, none⟩) 2 2) [byN 2 n 0, byN 2 n 1]) := h2.row.own w.heap.size 2 (Nat.le_refl _) (by omega) (by unfold maxLen; omega)
  have hb2 : Hid (Below w.heap.size w y2.val) := y2.below
  clear h2 e4
  obtain ⟨W2, hW2⟩ : ∃ W2, y2.val = W2 := ⟨_, rfl⟩
  rw [hW2] at ho hb2 ⊢
  clear hW2 y2
  go_wp2
  go_loopw [6, 24] (fun v6 v24 wr => ∃ j : Nat, j ≤ k ∧ v24 = .int .i64 j ∧ Own wr w.heap.size v6 (joined [byN 2 n 0, byN 2 n 1] lf j) ∧ Below w.heap.size w wr) (fun _ v24 _ => k - (intOf v24).toNat)
  case atStart => exact ⟨0, by omega, rfl, ho.out, hb2.out⟩
  case round =>
    obtain ⟨j, hj, rfl, hoj, hbj⟩ := hrel
    by_cases hlt : j < k
    · have hp := HP.out.below hbj
      have hpj := hp j hlt
      have hc1 := hpj.1
      have hlen : (joined [byN 2 n 0, byN 2 n 1] lf j).length + (lf j).length ≤ 100000 := by
        have := joined_len hp [byN 2 n 0, byN 2 n 1] j (by omega)
        have h2 := hpj.2.2
        simp at this
        omega
      have hS : Hid (Src _ (vf j) (lf j)) := hpj.2.1
      have HO : Hid (Own _ _ _ _) := hoj
      have HB : Hid (Below w.heap.size w _) := hbj
      have hj1 : (j : Int) < (k : Int) := by omega
      have hj0 : (0 : Int) ≤ (j : Int) := by omega
      clear hp hpj hoj hbj
      go_wp2_with (at_builtin; refine wpList_app rfl _ _ rfl (by rfl) (by rfl) HO.out hS.out hlen HB.out.size ?_)
      intro v7 w7 ho7 hg7 hat7
      have HO7 : Hid (Own w7 w.heap.size v7 (joined [byN 2 n 0, byN 2 n 1] lf (j + 1))) := ho7
      have HB7 : Hid (Below w.heap.size w w7) := HB.out.trans (grown_below HO.out hg7 HB.out.size)
      clear ho7 hg7 hat7 HO HB hS hc1 hlen
      go_wp2
      go_roundw
      case rel => exact ⟨j + 1, by omega, by go_num, HO7.out, HB7.out⟩
      case measure => simp [intOf]; omega
    · have : j = k := by omega
      subst this
      have HO : Hid (Own _ _ _ _) := hoj
      have HB : Hid (Below w.heap.size w _) := hbj
      clear hoj hbj
      go_wp2
      go_ret2
      exact ⟨_, rfl, HO.out, HB.out⟩

theorem ptype_yes (n : Int) (pb k c : Nat) (vf : Nat → Value) (lf : Nat → List Int) (w : World) (hn : 0 ≤ n ∧ n ≤ 65535) (hk : k ≤ 2) (hkc : k ≤ c) (hP : Parts w pb k vf lf) :
    Calls Try.prog 49 #[.int .i64 n, .slice (some ⟨pb, 0, none⟩) k c] w fun r w' => ∃ s, r = .returned (.tuple #[s, .int .i64 0]) ∧ Own w' w.heap.size s (joined (typeL n) lf k) ∧ Below w.heap.size w w' := by
  obtain ⟨N, rfl⟩ := Int.eq_ofNat_of_zero_le hn.1
  have := ptype_nat N pb k c vf lf w (by omega) hk hkc hP
  have e : [byN 2 N 0, byN 2 N 1] = typeL N := by
    unfold typeL byN
    simp
    omega
  rw [e] at this
  exact this
end Go.Proofs.Yteljcgdenagcmaa
