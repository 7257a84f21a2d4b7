/-
  The walks of the closures that put numbers and take them, and of what makes them: for every width, number and row of bytes.
-/
import Derived.Test.YtfpoopllkmnagaaDoorPure
import Derived.BigRegion
namespace Go.Proofs.YtfpoopllkmnagaaDoor
set_option linter.unusedVariables false
set_option maxRecDepth 4000
set_option linter.unusedSimpArgs false
open Go.RowKit

/-- What the putter stands on: a row of bytes (the bytes d, then zeros), its box, its count. -/
structure PSt (w : World) (b g x n cp : Nat) (d : List Int) : Prop where
  bg : b ≠ g
  xb : x ≠ b
  xg : x ≠ g
  row : RowAt w b cp (fun j => d.getD j 0)
  at_ : w.heap[g]? = some (.cells #[.int .i64 (d.length : Nat)] 3 (0, 0))
  box : w.heap[x]? = some (.cells #[.slice (some ⟨b, 0, none⟩) n cp] 33 (0, 0))

theorem PSt.ch {w w' : World} {b g x n cp : Nat} {d : List Int} {S : Nat → Prop} (h : PSt w b g x n cp d) (k : Ch S w w') (h1 : ¬ S b) (h2 : ¬ S g) (h3 : ¬ S x) : PSt w' b g x n cp d :=
  ⟨h.bg, h.xb, h.xg, h.row.of_block (k.block b h.row.lt h1), (k.block g (lt_of_block h.at_) h2).trans h.at_, (k.block x (lt_of_block h.box) h3).trans h.box⟩
theorem PSt.below {w w' : World} {b g x n cp : Nat} {d : List Int} (h : PSt w b g x n cp d) (k : Below w.heap.size w w') : PSt w' b g x n cp d := h.ch (Ch.of (S := fun _ => False) k) id id id

/-- Block g's count and the row b, in the midst of putting. -/
structure PMid (W w : World) (b g x n cp : Nat) (d : List Int) (s v i : Nat) : Prop where
  ch : Ch (fun j => j = b) W w
  row : RowAt w b cp (fun j => (d ++ (be s v).take i).getD j 0)

theorem getD_app (p : List Int) (q : List Int) (j : Nat) : (p ++ q).getD j 0 = if j < p.length then p.getD j 0 else q.getD (j - p.length) 0 := by
  simp only [List.getD_eq_getElem?_getD]
  split
  · next h => rw [List.getElem?_append_left h]
  · next h => rw [List.getElem?_append_right (by omega)]
theorem getD_take (q : List Int) (i j : Nat) : (q.take i).getD j 0 = if j < i then q.getD j 0 else 0 := by
  simp only [List.getD_eq_getElem?_getD]
  split
  · next h => rw [List.getElem?_take_of_lt h]
  · next h => rw [List.getElem?_eq_none (by simp; omega)]; rfl

theorem PMid.step {W w : World} {b g x n cp : Nat} {d : List Int} {s v i : Nat} (h : PMid W w b g x n cp d s v i) (hi : i < s) (hj : d.length + i < cp) (y : Int) (hy : y = ((v / 2 ^ (8 * (s - 1 - i)) % 256 : Nat) : Int)) :
    PMid W (w.setCell ⟨b, d.length + i, none⟩ (.int .u8 y)).drew b g x n cp d s v (i + 1) where
  ch := (h.ch.setCell _ _ (fun _ => rfl)).drew
  row := by
    refine RowAt.of_block (w := w.setCell ⟨b, d.length + i, none⟩ (.int .u8 y)) ?_ rfl
    refine (h.row.set (d.length + i) hj y).congr fun j hj' => ?_
    rw [getD_app, getD_app, getD_take, getD_take]
    by_cases e : j = d.length + i
    · subst e
      rw [if_pos rfl, if_neg (by omega), if_pos (by omega), show d.length + i - d.length = i by omega, be_getD _ _ _ hi, hy]
    · rw [if_neg e]
      by_cases e2 : j < d.length
      · rw [if_pos e2, if_pos e2]
      · rw [if_neg e2, if_neg e2]
        by_cases e3 : j - d.length < i
        · rw [if_pos e3, if_pos (by omega)]
        · rw [if_neg e3, if_neg (by omega)]

set_option maxHeartbeats 400000 in
theorem put_any (s v b g x n cp : Nat) (d : List Int) (w : World) (h : PSt w b g x n cp d) (hs : s ≤ 8) (hd : d.length + s ≤ n) (hn : n ≤ cp) (hc : cp ≤ 1000) (hv : v < 18446744073709551616) :
    Calls Tryd.prog 40 #[.int .i64 s, .int .u64 v, .pointer (some ⟨x, 0, none⟩), .pointer (some ⟨g, 0, none⟩)] w fun r w' => r = .returned (.tuple #[]) ∧ PSt w' b g x n cp (d ++ be s v) ∧ Ch (fun i => i = b ∨ i = g) w w' := by
  have hbg := h.bg
  have hxb := h.xb
  have hxg := h.xg
  have hxl := lt_of_block h.box
  have hgl := lt_of_block h.at_
  have H : Hid (PSt w b g x n cp d) := h
  obtain ⟨D, hD⟩ : ∃ D, d.length = D := ⟨_, rfl⟩
  have at0 := h.at_
  have box0 := h.box
  rw [hD] at hd at0
  have hp : PMid w w b g x n cp d s v 0 := ⟨Ch.refl _ _, h.row.congr fun j _ => by simp⟩
  clear h
  go_enter Tryd.func40, Tryd.ntmps40
  go_wp2
  go_loopw [8] (fun v8 wr => ∃ i : Nat, i ≤ s ∧ v8 = .int .i64 (i : Nat) ∧ PMid w wr b g x n cp d s v i) (fun v8 _ => s - (intOf v8).toNat)
  case atStart => exact ⟨0, by omega, rfl, hp⟩
  case round =>
    obtain ⟨i, hi, rfl, ht⟩ := hrel
    by_cases hlt : i < s
    · have h1 := cell_of_one ((ht.ch.block x hxl hxb).trans box0)
      have h2 := cell_of_one ((ht.ch.block g hgl (Ne.symm hbg)).trans at0)
      have h4 := ht.row.cell (D + i) (by omega)
      have h5 := ht.row.live (D + i)
      have h6 : Hid (d.length = D) := hD
      have hj : D + i < n := by omega
      have hT : Hid (PMid w _ b g x n cp d s v i) := ht
      clear ht hp H at0 box0 hD
      have p1 : (i : Int) < (s : Int) := by omega
      go_wp2
      go_region
      go_wp2
      go_roundw
      case rel =>
        refine ⟨i + 1, by omega, ?_, ?_⟩
        · congr 1
        · have := hT.out.step (y := (v : Int) / 2 ^ (8 * (s - 1 - i)) % 256) hlt (by rw [h6.out]; omega) (by simp)
          rw [h6.out] at this
          exact this
      case measure => simp [intOf]; omega
    · have : i = s := by omega
      subst this
      have h2 := cell_of_one ((ht.ch.block g hgl (Ne.symm hbg)).trans at0)
      have h3 := free_of_one ((ht.ch.block g hgl (Ne.symm hbg)).trans at0)
      have h6 : Hid (d.length = D) := hD
      have hT : Hid (PMid w _ b g x n cp d i v i) := ht
      clear ht hp at0 box0 hD
      go_wp2
      go_end0
      have ht := hT.out
      have hL : (d ++ be i v).length = D + i := by simp [be_len, h6.out]
      refine ⟨rfl, ⟨hbg, hxb, hxg, ?_, ?_, ?_⟩, ?_⟩
      · refine (ht.row.other (a := ⟨g, 0, none⟩) (by simpa using hbg) _).congr fun j _ => ?_
        rw [List.take_of_length_le (by simp [be_len])]
      · rw [hL]
        refine one_setCell (v := .int .i64 (D : Nat)) ?_
        rw [ht.ch.block g hgl (Ne.symm hbg), H.out.at_, h6.out]
      · rw [heap_setCell_other _ _ _ _ (by simpa using hxg), ht.ch.block x hxl hxb]
        exact H.out.box
      · exact (ht.ch.wide fun _ _ e => Or.inl e).setCell _ _ (fun _ => Or.inr rfl)

theorem putter_any (b n cp : Nat) (w : World) (hr : RowAt w b cp (fun _ => 0)) :
    Calls Tryd.prog 21 #[.slice (some ⟨b, 0, none⟩) n cp] w fun r w' => r = .returned (.func (.func 40) #[] #[.pointer (some ⟨w.heap.size, 0, none⟩), .pointer (some ⟨w.heap.size + 1, 0, none⟩)]) ∧ PSt w' b (w.heap.size + 1) w.heap.size n cp [] ∧ Below w.heap.size w w' := by
  have hlt := hr.lt
  go_enter Tryd.func21, Tryd.ntmps21
  go_wp2
  go_ret
  refine ⟨rfl, ⟨by omega, by omega, by omega, ?_, ?_, ?_⟩, ((Below.refl _ _).alloc (Nat.le_refl _) _).alloc (by simp) _⟩
  · exact (hr.of_block (Below.heap_alloc _ _ _ hlt)).of_block (Below.heap_alloc _ _ _ (by simp; omega))
  · have := alloc_at (w.alloc (.cells #[.slice (some ⟨b, 0, none⟩) n cp] 33)) (.cells #[.int .i64 0] 3)
    simpa using this
  · rw [Below.heap_alloc _ _ _ (by simp)]
    exact alloc_at w _

/-- What the taker stands on: bytes, its box, its count. -/
structure TSt (w : World) (b o L c x g : Nat) (l : List Int) (k : Nat) : Prop where
  bg : b ≠ g
  xg : x ≠ g
  len : l.length = L
  le : L ≤ c
  mx : c ≤ maxLen
  row : ∀ j, j < l.length → w.cell? ⟨b, o + j, none⟩ = some (.int .u8 (l.getD j 0))
  lt : b < w.heap.size
  at_ : w.heap[g]? = some (.cells #[.int .i64 (k : Nat)] 3 (0, 0))
  box : w.heap[x]? = some (.cells #[.slice (some ⟨b, o, none⟩) L c] 33 (0, 0))

theorem TSt.ch {w w' : World} {b o L c x g : Nat} {l : List Int} {k : Nat} {S : Nat → Prop} (h : TSt w b o L c x g l k) (q : Ch S w w') (h1 : ¬ S b) (h2 : ¬ S g) (h3 : ¬ S x) : TSt w' b o L c x g l k :=
  ⟨h.bg, h.xg, h.len, h.le, h.mx, fun j hj => (q.cell b _ h.lt h1).trans (h.row j hj), Nat.lt_of_lt_of_le h.lt q.size, (q.block g (lt_of_block h.at_) h2).trans h.at_, (q.block x (lt_of_block h.box) h3).trans h.box⟩
theorem TSt.below {w w' : World} {b o L c x g : Nat} {l : List Int} {k : Nat} (h : TSt w b o L c x g l k) (q : Below w.heap.size w w') : TSt w' b o L c x g l k := h.ch (Ch.of (S := fun _ => False) q) id id id

theorem sub_succ {l : List Int} {k i : Nat} (h : k + i < l.length) : sub l k (i + 1) = sub l k i ++ [l.getD (k + i) 0] := by
  unfold sub
  rw [List.take_add_one, List.getElem?_drop, List.getElem?_eq_getElem h, List.getD_eq_getElem?_getD, List.getElem?_eq_getElem h]
  rfl

/-- The count g is k', and all else is as in w. -/
structure TMid (w w' : World) (g k : Nat) : Prop where
  ch : Ch (fun j => j = g) w w'
  at_ : w'.heap[g]? = some (.cells #[.int .i64 (k : Nat)] 3 (0, 0))
theorem TMid.step {w w' : World} {g k : Nat} (h : TMid w w' g k) (k' : Nat) : TMid w (w'.setCell ⟨g, 0, none⟩ (.int .i64 (k' : Nat))) g k' :=
  ⟨h.ch.setCell _ _ (fun _ => rfl), one_setCell h.at_⟩

set_option maxHeartbeats 400000 in
theorem take_any (s b o L c x g k : Nat) (l : List Int) (w : World) (h : TSt w b o L c x g l k) (hb : ∀ x ∈ l, 0 ≤ x ∧ x ≤ 255) (hs : s ≤ 8) (hk : k + s ≤ l.length) :
    Calls Tryd.prog 42 #[.int .i64 s, .pointer (some ⟨x, 0, none⟩), .pointer (some ⟨g, 0, none⟩)] w fun r w' => r = .returned (.int .u64 (nu (sub l k s) : Nat)) ∧ TSt w' b o L c x g l (k + s) ∧ Ch (fun i => i = g) w w' := by
  have hbg := h.bg
  have hxg := h.xg
  have hxl := lt_of_block h.box
  have hbl := h.lt
  have hL := h.len
  have hc := h.le
  have hm := h.mx
  have H : Hid (TSt w b o L c x g l k) := h
  have box0 := h.box
  have hrow := h.row
  have hp : TMid w w g (k + 0) := ⟨Ch.refl _ _, h.at_⟩
  have HB : Hid (∀ x ∈ l, 0 ≤ x ∧ x ≤ 255) := hb
  clear h hb
  go_enter Tryd.func42, Tryd.ntmps42
  go_wp2
  go_loopw [5, 7] (fun v5 v7 wr => ∃ i : Nat, i ≤ s ∧ v5 = .int .u64 (nu (sub l k i) : Nat) ∧ v7 = .int .i64 (i : Nat) ∧ TMid w wr g (k + i)) (fun _ v7 _ => s - (intOf v7).toNat)
  case atStart => exact ⟨0, by omega, rfl, rfl, hp⟩
  case round =>
    obtain ⟨i, hi, rfl, rfl, ht⟩ := hrel
    by_cases hlt : i < s
    · have h1 := cell_of_one ((ht.ch.block x hxl hxg).trans box0)
      have h2 := cell_of_one ht.at_
      have h3 := free_of_one ht.at_
      have hj : k + i < L := by omega
      have h4 := (ht.ch.cell b (o + (k + i)) hbl hbg).trans (hrow (k + i) (by omega))
      have hy := HB.out (l.getD (k + i) 0) (by rw [List.getD_eq_getElem?_getD, List.getElem?_eq_getElem (by omega)]; exact List.getElem_mem _)
      have hn := nu_ok (sub_ok HB.out k i) 7 (Nat.le_trans (sub_le _ _ _) (by omega))
      have hsx : Hid (nu (sub l k (i + 1)) = nu (sub l k i) * 256 + (l.getD (k + i) 0).toNat) := by
        show _ = _
        rw [sub_succ (by omega), nu_snoc]
      have hT : Hid (TMid w _ g (k + i)) := ht
      obtain ⟨y, hyy⟩ : ∃ y, l.getD (k + i) 0 = y := ⟨_, rfl⟩
      obtain ⟨N, hN⟩ : ∃ N, nu (sub l k i) = N := ⟨_, rfl⟩
      rw [hyy] at h4 hy hsx
      rw [hN] at hn hsx ⊢
      clear ht hp box0 hrow hyy hN
      have p1 : (i : Int) < (s : Int) := by omega
      unfold maxLen at hm
      go_wp2
      go_roundw
      case rel =>
        refine ⟨i + 1, by omega, ?_, ?_, ?_⟩
        · rw [hsx.out]
          have := or_byte (N : Int) y (by omega) (by omega) hy
          rw [IntWalk.u64_in _ (by omega)] at this
          rw [this]
          congr 1
          omega
        · congr 1
        · have := hT.out.step (k + (i + 1))
          exact this
      case measure => simp [intOf]; omega
    · have : i = s := by omega
      subst this
      have hT : Hid (TMid w _ g (k + i)) := ht
      clear ht hp box0 hrow
      go_wp2
      go_ret
      have ht := hT.out
      have h := H.out
      exact ⟨rfl, ⟨hbg, hxg, hL, hc, hm, fun j hj => (ht.ch.cell b _ hbl hbg).trans (h.row j hj), Nat.lt_of_lt_of_le hbl ht.ch.size, ht.at_, (ht.ch.block x hxl hxg).trans h.box⟩, ht.ch⟩

theorem taker_any (b o L c : Nat) (l : List Int) (w : World) (h : Src w (.slice (some ⟨b, o, none⟩) L c) l) (h0 : 0 < l.length) :
    Calls Tryd.prog 28 #[.slice (some ⟨b, o, none⟩) L c] w fun r w' => r = .returned (.func (.func 42) #[] #[.pointer (some ⟨w.heap.size, 0, none⟩), .pointer (some ⟨w.heap.size + 1, 0, none⟩)]) ∧ TSt w' b o L c w.heap.size (w.heap.size + 1) l 0 ∧ Below w.heap.size w w' := by
  obtain ⟨hn, hc, hm⟩ := src_short h
  obtain ⟨b', o', e, hb, hj⟩ := src_some h h0
  cases e
  have HN : Hid (L = l.length) := hn
  clear h hn
  go_enter Tryd.func28, Tryd.ntmps28
  go_wp2
  go_ret
  have hB : Below w.heap.size w ((w.alloc (.cells #[.slice (some ⟨b, o, none⟩) L c] 33)).alloc (.cells #[.int .i64 0] 3)) := ((Below.refl _ _).alloc (Nat.le_refl _) _).alloc (by simp) _
  refine ⟨rfl, ⟨by omega, by omega, HN.out.symm, hc, hm, fun j hj' => (hB.cell (p := ⟨b, o + j, none⟩) hb).trans (hj j hj'), Nat.lt_of_lt_of_le hb hB.size, ?_, ?_⟩, hB⟩
  · have := alloc_at (w.alloc (.cells #[.slice (some ⟨b, o, none⟩) L c] 33)) (.cells #[.int .i64 0] 3)
    simpa using this
  · rw [Below.heap_alloc _ _ _ (by simp)]
    exact alloc_at w _
end Go.Proofs.YtfpoopllkmnagaaDoor
