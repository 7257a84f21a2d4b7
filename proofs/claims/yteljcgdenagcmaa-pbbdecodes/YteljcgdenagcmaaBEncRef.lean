/-
  The walk of the bytes of a frame of the backbone, by definition: for every one that may be.
-/
import Derived.Test.YteljcgdenagcmaaBEncode
import Derived.Test.YteljcgdenagcmaaBCheckRef
namespace Go.Proofs.Yteljcgdenagcmaa
set_option linter.unusedVariables false
set_option maxRecDepth 4000
set_option linter.unusedSimpArgs false
open Go.RowKit

attribute [local go_sem ↓] slS_eq ldS23 ldS25 ldI27 ldS30 ldS38 stS38 stS30 nqS_eq eqS_eq

theorem src_two_new (W : World) (x y : Int) : Src (W.alloc (.cells #[.int .u8 x, .int .u8 y] 5)) (.slice (some ⟨W.heap.size, 0, none⟩) 2 2) [x, y] := (own_new W [x, y] _ _ _ rfl rfl (Nat.le_refl _) (by simp)).src

theorem bytesB_f (f : Bf) (w : World) (h : tagOk f.p f.v = true) :
    Calls Try.prog 50 #[f.tag] w fun r w' => ∃ s, r = .returned s ∧ Own w' w.heap.size s (tagL f.p f.e f.v) ∧ Below w.heap.size w w' := bytes_ref f.p f.v f.e w h
theorem bytesBi_f (f : Bf) (w : World) (h : itagOk f.q f.i = true) :
    Calls Try.prog 51 #[f.itag] w fun r w' => ∃ s, r = .returned s ∧ Own w' w.heap.size s f.il ∧ Below w.heap.size w w' := bytesi_ref _ _ _ _ _ _ _ _ _ _ _ _ _ _ _ _ w h

set_option maxHeartbeats 2000000 in
theorem bbytes_any (f : Bf) (a : Option Addr) (n c : Nat) (l : List Int) (w : World) (h : Src w (.slice a n c) l) (hl : l.length ≤ 2000) (hq : tagOk f.p f.v = true) (hk : itagOk f.q f.i = true) :
    Calls Try.prog 29 #[.agg (bcs f (.slice a n c))] w fun r w' => ∃ s, r = .returned s ∧ Own w' w.heap.size s (bencL f l) ∧ Below w.heap.size w w' := by
  have hB : Below w.heap.size w (w.alloc (.cells (bcs f (.slice a n c)) 30)) := (Below.refl _ _).alloc (Nat.le_refl _) _
  obtain ⟨W, hW⟩ : ∃ W, (w.alloc (.cells (bcs f (.slice a n c)) 30)) = W := ⟨_, rfl⟩
  have hF := BfAt.new w f (.slice a n c)
  rw [hW] at hF hB
  have HF : Hid (BfAt W w.heap.size f (.slice a n c)) := hF
  have HB : Hid (Below w.heap.size w W) := hB
  have HS : Hid (Src W (.slice a n c) l) := h.below hB
  have HN : Hid (l.length ≤ 2000) := hl
  have HQ : Hid (tagOk f.p f.v = true ∧ itagOk f.q f.i = true) := ⟨hq, hk⟩
  have B1 : Hid (Below W.heap.size W (W.alloc (.cells #[] 5))) := (Below.refl _ _).alloc (Nat.le_refl _) _
  have O1 : Hid (Own (W.alloc (.cells #[] 5)) W.heap.size (.slice (some ⟨W.heap.size, 0, none⟩) 0 0) []) := own_empty W _ (Nat.le_refl _)
  have Sd : Hid (Src (W.alloc (.cells #[] 5)) (.slice (some ⟨w.heap.size, 0, none⟩) 6 6) f.d.l) := (HF.out.below B1.out).srcd
  clear h hl hq hk hF hB
  go_enter Try.func29, Try.ntmps29
  go_wp2_with (at_builtin; refine wpList_app rfl _ _ rfl (by rfl) (by rfl) O1.out Sd.out (by simp [M6.l]) B1.out.size ?_)
  clear hW
  intro v2 w2 ho2 hg2 _
  have O2 : Hid (Own w2 W.heap.size v2 f.d.l) := ho2
  have B2 : Hid (Below W.heap.size W w2) := B1.out.trans (grown_below O1.out hg2 B1.out.size)
  clear ho2 hg2 O1 B1 Sd
  have Ss : Hid (Src w2 (.slice (some ⟨w.heap.size, 6, none⟩) 6 6) f.s.l) := (HF.out.below B2.out).srcs
  go_wp2_with (at_builtin; refine wpList_app rfl _ _ rfl (by rfl) (by rfl) O2.out Ss.out (by simp [M6.l]) B2.out.size ?_)
  intro v3 w3 ho3 hg3 _
  obtain ⟨L3, hL3⟩ : ∃ L, f.d.l ++ f.s.l = L := ⟨_, rfl⟩
  have n3 : Hid (L3.length = 12) := by rw [← hL3]; rfl
  rw [hL3] at ho3
  have E3 : Hid (f.d.l ++ f.s.l = L3) := hL3
  have O3 : Hid (Own w3 W.heap.size v3 L3) := ho3
  have B3 : Hid (Below W.heap.size W w3) := B2.out.trans (grown_below O2.out hg3 B2.out.size)
  clear ho3 hg3 O2 B2 Ss hL3
  have C3 : Hid (Below w3.heap.size w3 (w3.alloc (.cells #[.int .u8 136, .int .u8 168] 5))) := (Below.refl _ _).alloc (Nat.le_refl _) _
  go_wp2_with (at_builtin; refine wpList_app rfl _ _ rfl (by rfl) (by rfl) (O3.out.below C3.out) (src_two_new w3 136 168) (by have := n3.out; simp; omega) (by have := B3.out.size; simp; omega) ?_)
  intro v4 w4 ho4 hg4 _
  have B4 : Hid (Below W.heap.size W w4) := (below_over B3.out C3.out).trans (grown_below (O3.out.below C3.out) hg4 (by have := B3.out.size; simp; omega))
  obtain ⟨L4, hL4⟩ : ∃ L, L3 ++ [136, 168] = L := ⟨_, rfl⟩
  have n4 : Hid (L4.length = 14) := by have := n3.out; rw [← hL4]; show _ = _; simp; omega
  rw [hL4] at ho4
  have E4 : Hid (L3 ++ [136, 168] = L4) := hL4
  have O4 : Hid (Own w4 W.heap.size v4 L4) := ho4
  clear ho4 hg4 O3 B3 C3 hL4 n3
  have ldb := (HF.out.below B4.out).ldb
  go_wp2_with fail
  refine (bytesB_f f _ HQ.out.1).mono ?_
  rintro _ w5 ⟨s5, rfl, ho5, hb5⟩
  have O5 : Hid (Own w5 W.heap.size v4 L4) := O4.out.below hb5
  have S5 : Hid (Src w5 s5 (tagL f.p f.e f.v)) := ho5.src
  have B5 : Hid (Below W.heap.size W w5) := below_over B4.out hb5
  clear ho5 hb5 O4 B4 ldb
  go_wp2_with (at_builtin; refine wpList_app rfl _ _ rfl (by rfl) (by rfl) O5.out S5.out (by have := n4.out; simp [tagL]; omega) B5.out.size ?_)
  intro v6 w6 ho6 hg6 _
  have B6 : Hid (Below W.heap.size W w6) := B5.out.trans (grown_below O5.out hg6 B5.out.size)
  obtain ⟨L6, hL6⟩ : ∃ L, L4 ++ tagL f.p f.e f.v = L := ⟨_, rfl⟩
  have n6 : Hid (L6.length = 16) := by have := n4.out; rw [← hL6]; show _ = _; simp [tagL]; omega
  rw [hL6] at ho6
  have E6 : Hid (L4 ++ tagL f.p f.e f.v = L6) := hL6
  have O6 : Hid (Own w6 W.heap.size v6 L6) := ho6
  clear ho6 hg6 O5 B5 S5 hL6 n4
  have C6 : Hid (Below w6.heap.size w6 (w6.alloc (.cells #[.int .u8 136, .int .u8 231] 5))) := (Below.refl _ _).alloc (Nat.le_refl _) _
  go_wp2_with (at_builtin; refine wpList_app rfl _ _ rfl (by rfl) (by rfl) (O6.out.below C6.out) (src_two_new w6 136 231) (by have := n6.out; simp; omega) (by have := B6.out.size; simp; omega) ?_)
  intro v7 w7 ho7 hg7 _
  have B7 : Hid (Below W.heap.size W w7) := (below_over B6.out C6.out).trans (grown_below (O6.out.below C6.out) hg7 (by have := B6.out.size; simp; omega))
  obtain ⟨L7, hL7⟩ : ∃ L, L6 ++ [136, 231] = L := ⟨_, rfl⟩
  have n7 : Hid (L7.length = 18) := by have := n6.out; rw [← hL7]; show _ = _; simp; omega
  rw [hL7] at ho7
  have E7 : Hid (L6 ++ [136, 231] = L7) := hL7
  have O7 : Hid (Own w7 W.heap.size v7 L7) := ho7
  clear ho7 hg7 O6 B6 C6 hL7 n6
  have ldi := (HF.out.below B7.out).ldi
  go_wp2_with fail
  refine (bytesBi_f f _ HQ.out.2).mono ?_
  rintro _ w8 ⟨s8, rfl, ho8, hb8⟩
  have O8 : Hid (Own w8 W.heap.size v7 L7) := O7.out.below hb8
  have S8 : Hid (Src w8 s8 f.il) := ho8.src
  have B8 : Hid (Below W.heap.size W w8) := below_over B7.out hb8
  clear ho8 hb8 O7 B7 ldi
  go_wp2_with (at_builtin; refine wpList_app rfl _ _ rfl (by rfl) (by rfl) O8.out S8.out (by have := n7.out; rw [il_len]; omega) B8.out.size ?_)
  intro v9 w9 ho9 hg9 _
  have B9 : Hid (Below W.heap.size W w9) := B8.out.trans (grown_below O8.out hg9 B8.out.size)
  obtain ⟨L9, hL9⟩ : ∃ L, L7 ++ f.il = L := ⟨_, rfl⟩
  have n9 : Hid (L9.length = 34) := by have := n7.out; rw [← hL9]; show _ = _; rw [List.length_append, il_len]; omega
  rw [hL9] at ho9
  have E9 : Hid (L7 ++ f.il = L9) := hL9
  have O9 : Hid (Own w9 W.heap.size v9 L9) := ho9
  clear ho9 hg9 O8 B8 S8 hL9 n7
  have c31 := (HF.out.below B9.out).c31
  have S9 : Hid (Src w9 (.slice a n c) l) := HS.out.below B9.out
  go_wp2_with (at_builtin; refine wpList_app rfl _ _ rfl (by rfl) (by rfl) O9.out S9.out (by have := n9.out; have := HN.out; omega) B9.out.size ?_)
  intro vx wx hox hgx _
  have BX : Hid (Below W.heap.size W wx) := B9.out.trans (grown_below O9.out hgx B9.out.size)
  have eX : L9 ++ l = bencL f l := by
    rw [← E9.out, ← E7.out, ← E6.out, ← E4.out, ← E3.out]
    simp [bencL, btL]
  rw [eX] at hox
  have OX : Hid (Own wx W.heap.size vx (bencL f l)) := hox
  clear hox hgx O9 B9 S9 c31 eX E9 E7 E6 E4 E3
  go_wp2
  go_ret
  exact ⟨_, rfl, OX.out.base HB.out.size, below_over HB.out BX.out⟩

set_option maxHeartbeats 1000000 in
theorem bencref_any (f : Bf) (x : Value) (l : List Int) (w : World) (h : Src w x l) (hb : ∀ x ∈ l, 0 ≤ x ∧ x ≤ 255) (hf : f.ok) :
    Calls Try.prog 11 #[.agg (bcs f x)] w fun r w' => ∃ s, r = .returned (.tuple #[s, .int .i64 (chkB f l)]) ∧ Own w' w.heap.size s (bencO f l) ∧ Below w.heap.size w w' := by
  obtain ⟨a, n, c, rfl⟩ := src_form h
  have hF := BfAt.new w f (.slice a n c)
  have ld := hF.ld
  have hB : Below w.heap.size w (w.alloc (.cells (bcs f (.slice a n c)) 30)) := (Below.refl _ _).alloc (Nat.le_refl _) _
  have HB : Hid (Below w.heap.size w (w.alloc (.cells (bcs f (.slice a n c)) 30))) := hB
  have HF : Hid (BfAt (w.alloc (.cells (bcs f (.slice a n c)) 30)) w.heap.size f (.slice a n c)) := hF
  have HS : Hid (Src w (.slice a n c) l) := h
  have hk := bcheckref_any f _ l _ (h.below hB) hb hf
  unfold bencO
  by_cases he : chkB f l = 0
  · obtain ⟨hl1, hl2, hl3, _⟩ := bchk_zero he
    have HQ : Hid (l.length ≤ 1502 ∧ tagOk f.p f.v = true ∧ itagOk f.q f.i = true) := ⟨hl1, hl2, hl3⟩
    rw [if_pos he, he]
    rw [he] at hk
    have HK : Hid _ := hk
    clear h hb hf hF hB hk he hl1 hl2 hl3
    go_enter Try.func11, Try.ntmps11
    go_wp2_with fail
    refine Calls.mono HK.out ?_
    rintro _ W ⟨rfl, hW⟩
    have B1 : Hid (Below w.heap.size w W) := below_over HB.out hW
    have ld1 := (HF.out.below hW).ld
    clear hW HK HB HF ld
    go_wp2_with fail
    refine (bbytes_any f a n c l _ (HS.out.below B1.out) (by have := HQ.out.1; omega) HQ.out.2.1 HQ.out.2.2).mono ?_
    rintro _ W2 ⟨s2, rfl, ho2, hb2⟩
    have O2 : Hid (Own W2 w.heap.size s2 (bencL f l)) := ho2.base B1.out.size
    have B2 : Hid (Below w.heap.size w W2) := below_over B1.out hb2
    clear ho2 hb2 ld1
    go_wp2
    go_ret2
    exact ⟨_, rfl, O2.out, B2.out⟩
  · rw [if_neg he]
    obtain ⟨E, hE⟩ : ∃ E, chkB f l = E := ⟨_, rfl⟩
    rw [hE] at he hk ⊢
    have HK : Hid _ := hk
    have he' : (E != 0) = true := by simpa using he
    clear h hb hf hF hB hE hk he
    go_enter Try.func11, Try.ntmps11
    go_wp2_with fail
    refine Calls.mono HK.out ?_
    rintro _ W ⟨rfl, hW⟩
    have B1 : Hid (Below w.heap.size w W) := below_over HB.out hW
    clear hW HK HB HF ld
    go_wp2
    go_ret2
    exact ⟨_, rfl, own_nil _ _, B1.out⟩
end Go.Proofs.Yteljcgdenagcmaa
