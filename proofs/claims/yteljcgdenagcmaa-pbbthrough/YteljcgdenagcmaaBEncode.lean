/-
  The walk of the bytes of a frame of the backbone: for every one.
-/
import Derived.Test.YteljcgdenagcmaaBCheck
namespace Go.Proofs.Yteljcgdenagcmaa
set_option linter.unusedVariables false
set_option maxRecDepth 4000
set_option linter.unusedSimpArgs false
open Go.RowKit

/-- What stands between the addresses and the rest. -/
def btL (f : Bf) : List Int := 136 :: 168 :: (tagL f.p f.e f.v ++ 136 :: 231 :: f.il)
/-- The bytes of such a frame. -/
def bencL (f : Bf) (l : List Int) : List Int := f.d.l ++ f.s.l ++ btL f ++ l
/-- The bytes that are told. -/
def bencO (f : Bf) (l : List Int) : List Int := if chkB f l = 0 then bencL f l else []
theorem btL_len (f : Bf) : (btL f).length = 22 := rfl
theorem il_len (f : Bf) : f.il.length = 16 := rfl

theorem parts_one (W : World) (v0 : Value) (l0 : List Int) (h0 : Src W v0 l0) (k0 : l0.length ≤ 2000) : Parts (W.alloc (.cells #[v0] 28)) W.heap.size 1 (fun _ => v0) (fun _ => l0) := by
  intro j hj
  have hb : Below W.heap.size W (W.alloc (.cells #[v0] 28)) := (Below.refl _ _).alloc (Nat.le_refl _) _
  have hc := alloc_at W (.cells #[v0] 28)
  have hj' : j = 0 := by omega
  subst hj'
  exact ⟨cell_at hc 0 _ rfl, h0.below hb, k0⟩
theorem parts_two (W : World) (v0 v1 : Value) (l0 l1 : List Int) (h0 : Src W v0 l0) (h1 : Src W v1 l1) (k0 : l0.length ≤ 2000) (k1 : l1.length ≤ 2000) : Parts (W.alloc (.cells #[v0, v1] 28)) W.heap.size 2 (fun j => if j = 0 then v0 else v1) (fun j => if j = 0 then l0 else l1) := by
  intro j hj
  have hb : Below W.heap.size W (W.alloc (.cells #[v0, v1] 28)) := (Below.refl _ _).alloc (Nat.le_refl _) _
  have hc := alloc_at W (.cells #[v0, v1] 28)
  have hj' : j = 0 ∨ j = 1 := by omega
  rcases hj' with rfl | rfl
  · exact ⟨cell_at hc 0 _ rfl, h0.below hb, k0⟩
  · exact ⟨cell_at hc 1 _ rfl, h1.below hb, k1⟩

attribute [local go_sem ↓] slS_eq ldS23 ldS25 ldI27 ldS30 ldS38 stS38 stS30 nqS_eq eqS_eq

set_option maxHeartbeats 2000000 in
theorem btagb_any (f : Bf) (x : Value) (w : World) (hq : tagOk f.p f.v = true) (hk : itagOk f.q f.i = true) :
    Calls Try.prog 28 #[.agg (bcs f x)] w fun r w' => ∃ s, r = .returned s ∧ Own w' w.heap.size s (btL f) ∧ Below w.heap.size w w' := by
  have hF := BfAt.new w f x
  have ldb := hF.ldb
  have HF : Hid (BfAt (w.alloc (.cells (bcs f x) 30)) w.heap.size f x) := hF
  have HB : Hid (Below w.heap.size w (w.alloc (.cells (bcs f x) 30))) := (Below.refl _ _).alloc (Nat.le_refl _) _
  have HQ : Hid (tagOk f.p f.v = true ∧ itagOk f.q f.i = true) := ⟨hq, hk⟩
  clear hF hq hk
  go_enter Try.func28, Try.ntmps28
  go_wp2_with fail
  refine (putB_f f _ HQ.out.1).mono ?_
  rintro _ w1 ⟨s1, rfl, ho1, hb1⟩
  have HB1 : Hid (Below w.heap.size w w1) := below_over HB.out hb1
  have HO1 : Hid (Src w1 s1 (tagL f.p f.e f.v)) := ho1.src
  have ldi := (HF.out.below hb1).ldi
  clear ho1 hb1 HB HF ldb
  go_wp2_with fail
  refine (putBi_f f _ HQ.out.2).mono ?_
  rintro _ w2 ⟨s2, rfl, ho2, hb2⟩
  have HB2 : Hid (Below w.heap.size w w2) := below_over HB1.out hb2
  have HV2 : Hid (Src w2 s1 (tagL f.p f.e f.v)) := HO1.out.below hb2
  obtain ⟨a2, n2, c2, rfl⟩ := src_form ho2.src
  have HO2 : Hid (Src w2 (.slice a2 n2 c2) f.il) := ho2.src
  clear ho2 hb2 HB1 HO1 ldi
  go_wp2_with fail
  refine (ptype_any 35047 _ 1 1 _ _ _ (by omega) (by omega) (parts_one w2 _ _ HO2.out (by rw [il_len]; omega))).mono ?_
  rintro _ w3 ⟨s3, rfl, ho3, hb3⟩
  have hb3' := below_over ((Below.refl _ _).alloc (Nat.le_refl _) _) hb3
  have HB3 : Hid (Below w.heap.size w w3) := below_over HB2.out hb3'
  have HV3 : Hid (Src w3 s1 (tagL f.p f.e f.v)) := HV2.out.below hb3'
  have e3 : ptL 35047 (fun _ => f.il) 1 = 136 :: 231 :: f.il := by
    unfold ptL
    rw [if_pos (by omega)]
    rfl
  rw [e3] at ho3
  have HO3 : Hid (Src w3 s3 (136 :: 231 :: f.il)) := ho3.src
  obtain ⟨a1, n1, c1, rfl⟩ := src_form HV3.out
  obtain ⟨a3, n3, c3, rfl⟩ := src_form HO3.out
  clear ho3 hb3 hb3' HB2 HV2 HO2 e3
  go_wp2_with fail
  refine (ptype_any 34984 _ 2 2 _ _ _ (by omega) (by omega) (parts_two w3 _ _ _ _ HV3.out HO3.out (by simp [tagL]) (by rw [List.length_cons, List.length_cons, il_len]; omega))).mono ?_
  rintro _ w4 ⟨s4, rfl, ho4, hb4⟩
  have HB4 : Hid (Below w.heap.size w w4) := below_over HB3.out (below_over ((Below.refl _ _).alloc (Nat.le_refl _) _) hb4)
  have hsz := HB3.out.size
  have HO4 : Hid (Own w4 w.heap.size s4 (btL f)) := by
    have e : ptL 34984 (fun j => if j = 0 then tagL f.p f.e f.v else 136 :: 231 :: f.il) 2 = btL f := by
      unfold ptL btL
      rw [if_pos (by omega)]
      rfl
    rw [e] at ho4
    exact ho4.base (by simp; omega)
  clear ho4 hb4 HO3 HV3 hsz
  go_wp2
  go_ret
  exact ⟨_, rfl, HO4.out, HB4.out⟩

theorem bchk_zero {f : Bf} {l : List Int} (h : chkB f l = 0) : l.length ≤ 1502 ∧ tagOk f.p f.v = true ∧ itagOk f.q f.i = true ∧ f.i ≠ 0 ∧ chkF f.inn l = 0 ∧ f.s.kd = 1 ∧ f.d.kd ≠ 6 := by
  unfold chkB at h
  by_cases h1 : 1502 < l.length
  · rw [if_pos h1] at h; omega
  · rw [if_neg h1] at h
    cases hb : badB f l
    · unfold badB at hb
      simp only [Bool.or_eq_false_iff, Bool.not_eq_false'] at hb
      obtain ⟨b1, b2, b3, b4, b5, b6⟩ := hb
      exact ⟨by omega, b3, b4, by simpa using b5, by simpa using b6, by simpa using b1, by simpa using b2⟩
    · rw [hb] at h; simp at h

set_option maxHeartbeats 1000000 in
theorem bencode_no (f : Bf) (x : Value) (l : List Int) (w : World) (h : Src w x l) (hb : ∀ x ∈ l, 0 ≤ x ∧ x ≤ 255) (hf : f.ok) (he : ¬ chkB f l = 0) :
    Calls Try.prog 10 #[.agg (bcs f x)] w fun r w' => r = .returned (.tuple #[.slice none 0 0, .int .i64 (chkB f l)]) ∧ Below w.heap.size w w' := by
  have hF := BfAt.new w f x
  have ld := hF.ld
  have hB : Below w.heap.size w (w.alloc (.cells (bcs f x) 30)) := (Below.refl _ _).alloc (Nat.le_refl _) _
  have HB : Hid (Below w.heap.size w (w.alloc (.cells (bcs f x) 30))) := hB
  have hk := bcheck_any f x l (w.alloc (.cells (bcs f x) 30)) (h.below hB) hb hf
  obtain ⟨E, hE⟩ : ∃ E, chkB f l = E := ⟨_, rfl⟩
  rw [hE] at he hk ⊢
  have HK : Hid (Calls Try.prog 12 #[.agg (bcs f x)] (w.alloc (.cells (bcs f x) 30)) fun r w' => r = .returned (.int .i64 E) ∧ Below (w.alloc (.cells (bcs f x) 30)).heap.size (w.alloc (.cells (bcs f x) 30)) w') := hk
  have he' : (E != 0) = true := by simpa using he
  clear h hb hf hF hB hE hk he
  go_enter Try.func10, Try.ntmps10
  go_wp2_with fail
  refine Calls.on_later HK.out ?_
  intro y
  go_wp2
  go_ret2
  exact ⟨rfl, below_later HB.out y⟩

set_option maxHeartbeats 2000000 in
theorem bencode_yes (f : Bf) (x : Value) (l : List Int) (w : World) (h : Src w x l) (hb : ∀ x ∈ l, 0 ≤ x ∧ x ≤ 255) (hf : f.ok) (he : chkB f l = 0) :
    Calls Try.prog 10 #[.agg (bcs f x)] w fun r w' => ∃ s, r = .returned (.tuple #[s, .int .i64 0]) ∧ Own w' w.heap.size s (bencL f l) ∧ Below w.heap.size w w' := by
  obtain ⟨hl1, hl2, hl3, _⟩ := bchk_zero he
  obtain ⟨a, n, c, rfl⟩ := src_form h
  obtain ⟨hn, hc, hm⟩ := src_short h
  have hF := BfAt.new w f (.slice a n c)
  have ld := hF.ld
  have hB : Below w.heap.size w (w.alloc (.cells (bcs f (.slice a n c)) 30)) := (Below.refl _ _).alloc (Nat.le_refl _) _
  have HB : Hid (Below w.heap.size w (w.alloc (.cells (bcs f (.slice a n c)) 30))) := hB
  have HF : Hid (BfAt (w.alloc (.cells (bcs f (.slice a n c)) 30)) w.heap.size f (.slice a n c)) := hF
  have H : Hid (Src (w.alloc (.cells (bcs f (.slice a n c)) 30)) (.slice a n c) l) := h.below hB
  have HT : Hid (tagOk f.p f.v = true ∧ itagOk f.q f.i = true) := ⟨hl2, hl3⟩
  have hk := bcheck_any f (.slice a n c) l (w.alloc (.cells (bcs f (.slice a n c)) 30)) H.out hb hf
  rw [he] at hk
  have HK : Hid (Calls Try.prog 12 #[.agg (bcs f (.slice a n c))] (w.alloc (.cells (bcs f (.slice a n c)) 30)) fun r w' => r = .returned (.int .i64 0) ∧ Below (w.alloc (.cells (bcs f (.slice a n c)) 30)).heap.size (w.alloc (.cells (bcs f (.slice a n c)) 30)) w') := hk
  have HN : Hid (n = l.length ∧ n ≤ 1502) := ⟨hn, by omega⟩
  have hn1 : (n : Int) ≤ 1502 := by omega
  clear h hb hf hF hB hk he hl1 hl2 hl3 hn
  go_enter Try.func10, Try.ntmps10
  go_wp2_with fail
  refine HK.out.mono ?_
  rintro _ W ⟨rfl, hbW⟩
  have HF1 : Hid (BfAt W w.heap.size f (.slice a n c)) := HF.out.below hbW
  have S1 : Hid (Src W (.slice a n c) l) := H.out.below hbW
  have HB1 : Hid (Below w.heap.size w W) := below_over HB.out hbW
  have c31 := HF1.out.c31
  clear hbW HF H HB HK ld
  obtain ⟨i5, hi5, z5, s5, b5⟩ := info_parts info5
  have I5 : Hid (Try.prog.info? 5 = some i5 ∧ i5.zero = some (.int .u8 0) ∧ i5.size = 1 ∧ i5.bytes = 1) := ⟨hi5, z5, s5, b5⟩
  clear hi5 z5 s5 b5
  go_wp2_with (at_make; refine wpList_make_own _ rfl _ _ 28 rfl W.heap.size 5 i5 (.int .u8 0) 1 Try.underlying28 I5.out.1 I5.out.2.1 I5.out.2.2.1 .i64 .i64 _ (34 + n) rfl rfl (by omega) (by rw [I5.out.2.2.2]; have := HN.out.2; omega) (by have := HN.out.2; unfold maxLen; omega) (Nat.le_refl _) ?_)
  intro w2 ho2 hg2
  have HO2 : Hid (Own w2 W.heap.size (.slice (some ⟨W.heap.size, 0, none⟩) 0 (34 + n)) []) := ho2
  have B2 : Hid (Below W.heap.size W w2) := (Below.refl _ _).grown hg2 (Nat.le_refl _) (fun k hk => by cases hk)
  clear ho2 hg2 c31 I5
  have Sd : Hid (Src w2 (.slice (some ⟨w.heap.size, 0, none⟩) 6 6) f.d.l) := (HF1.out.below B2.out).srcd
  go_wp2_with (at_builtin; refine wpList_app rfl _ _ rfl (by rfl) (by rfl) HO2.out Sd.out (by simp [M6.l]) B2.out.size ?_)
  intro v3 w3 ho3 hg3 _
  have HO3 : Hid (Own w3 W.heap.size v3 f.d.l) := ho3
  have B3 : Hid (Below W.heap.size W w3) := B2.out.trans (grown_below HO2.out hg3 B2.out.size)
  clear ho3 hg3 Sd HO2 B2
  have Ss : Hid (Src w3 (.slice (some ⟨w.heap.size, 6, none⟩) 6 6) f.s.l) := (HF1.out.below B3.out).srcs
  go_wp2_with (at_builtin; refine wpList_app rfl _ _ rfl (by rfl) (by rfl) HO3.out Ss.out (by simp [M6.l]) B3.out.size ?_)
  intro v4 w4 ho4 hg4 _
  have HO4 : Hid (Own w4 W.heap.size v4 (f.d.l ++ f.s.l)) := ho4
  have B4 : Hid (Below W.heap.size W w4) := B3.out.trans (grown_below HO3.out hg4 B3.out.size)
  clear ho4 hg4 Ss HO3 B3
  have ld4 := (HF1.out.below B4.out).ld
  go_wp2_with fail
  refine (btagb_any f _ _ HT.out.1 HT.out.2).mono ?_
  rintro _ w5 ⟨s5, rfl, ho5, hb5⟩
  have HO5 : Hid (Own w5 W.heap.size v4 (f.d.l ++ f.s.l)) := HO4.out.below hb5
  have St : Hid (Src w5 s5 (btL f)) := ho5.src
  have B5 : Hid (Below W.heap.size W w5) := below_over B4.out hb5
  clear ho5 hb5 HO4 B4 ld4
  go_wp2_with (at_builtin; refine wpList_app rfl _ _ rfl (by rfl) (by rfl) HO5.out St.out (by rw [btL_len]; simp [M6.l]) B5.out.size ?_)
  intro v6 w6 ho6 hg6 _
  have HO6 : Hid (Own w6 W.heap.size v6 (f.d.l ++ f.s.l ++ btL f)) := ho6
  have B6 : Hid (Below W.heap.size W w6) := B5.out.trans (grown_below HO5.out hg6 B5.out.size)
  clear ho6 hg6 St HO5 B5
  have c31 := (HF1.out.below B6.out).c31
  have S6 : Hid (Src w6 (.slice a n c) l) := S1.out.below B6.out
  go_wp2_with (at_builtin; refine wpList_app rfl _ _ rfl (by rfl) (by rfl) HO6.out S6.out (by have := HN.out; rw [List.length_append, btL_len]; simp [M6.l]; omega) B6.out.size ?_)
  intro v7 w7 ho7 hg7 _
  have HO7 : Hid (Own w7 W.heap.size v7 (bencL f l)) := ho7
  have B7 : Hid (Below W.heap.size W w7) := B6.out.trans (grown_below HO6.out hg7 B6.out.size)
  clear ho7 hg7 S6 HO6 B6 c31
  go_wp2
  go_ret2
  exact ⟨_, rfl, HO7.out.base HB1.out.size, below_over HB1.out B7.out⟩

theorem bencode_any (f : Bf) (x : Value) (l : List Int) (w : World) (h : Src w x l) (hb : ∀ x ∈ l, 0 ≤ x ∧ x ≤ 255) (hf : f.ok) :
    Calls Try.prog 10 #[.agg (bcs f x)] w fun r w' => ∃ s, r = .returned (.tuple #[s, .int .i64 (chkB f l)]) ∧ Own w' w.heap.size s (bencO f l) ∧ Below w.heap.size w w' := by
  unfold bencO
  by_cases he : chkB f l = 0
  · rw [if_pos he, he]
    exact bencode_yes f x l w h hb hf he
  · rw [if_neg he]
    exact (bencode_no f x l w h hb hf he).mono fun r w' ⟨hr, hB⟩ => ⟨_, hr, own_nil _ _, hB⟩
end Go.Proofs.Yteljcgdenagcmaa
