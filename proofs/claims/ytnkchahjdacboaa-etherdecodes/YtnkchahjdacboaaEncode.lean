/-
  The walk of a frame's bytes: for every frame.
-/
import Derived.Test.YtnkchahjdacboaaCheck
namespace Go.Proofs.Ytnkchahjdacboaa
set_option linter.unusedVariables false
set_option linter.unusedSimpArgs false
open Go.RowKit

/-- What stands between the addresses and the rest. -/
def tgL (f : Fr) : List Int := if f.t then 136 :: 168 :: tagL f.p f.e f.v else []
/-- A frame's bytes. -/
def encL (f : Fr) (l : List Int) : List Int := f.d.l ++ f.s.l ++ tgL f ++ l
/-- The bytes that are told. -/
def encO (f : Fr) (l : List Int) : List Int := if chkF f l = 0 then encL f l else []

theorem FrAt.srcd {W : World} {b : Nat} {f : Fr} {x : Value} (h : FrAt W b f x) : Src W (.slice (some ⟨b, 0, none⟩) 6 6) f.d.l :=
  src6 (h.c 0 _ rfl) (h.c 1 _ rfl) (h.c 2 _ rfl) (h.c 3 _ rfl) (h.c 4 _ rfl) (h.c 5 _ rfl)
theorem FrAt.srcs {W : World} {b : Nat} {f : Fr} {x : Value} (h : FrAt W b f x) : Src W (.slice (some ⟨b, 6, none⟩) 6 6) f.s.l :=
  src6 (h.c 6 _ rfl) (h.c 7 _ rfl) (h.c 8 _ rfl) (h.c 9 _ rfl) (h.c 10 _ rfl) (h.c 11 _ rfl)

theorem parts_one (W : World) (v0 : Value) (l0 : List Int) (h0 : Src W v0 l0) (k0 : l0.length ≤ 2000) : Parts (W.alloc (.cells #[v0] 26)) W.heap.size 1 (fun _ => v0) (fun _ => l0) := by
  intro j hj
  have hb : Below W.heap.size W (W.alloc (.cells #[v0] 26)) := (Below.refl _ _).alloc (Nat.le_refl _) _
  have hc := alloc_at W (.cells #[v0] 26)
  have hj' : j = 0 := by omega
  subst hj'
  exact ⟨cell_at hc 0 _ rfl, h0.below hb, k0⟩

attribute [local go_sem ↓] slS_eq ldS23 ldS25 ldS28 stS28 nqS_eq eqS_eq

theorem put_f (f : Fr) (w : World) (h : tagOk f.p f.v = true) :
    Calls Try.prog 36 #[f.tag] w fun r w' => ∃ s, r = .returned (.tuple #[s, .int .i64 0]) ∧ Own w' w.heap.size s (tagL f.p f.e f.v) ∧ Below w.heap.size w w' := put_yes f.p f.v f.e w h

set_option maxHeartbeats 1000000 in
theorem tagb_any (f : Fr) (x : Value) (w : World) (h : f.t = true → tagOk f.p f.v = true) :
    Calls Try.prog 22 #[.agg (fcs f x)] w fun r w' => ∃ s, r = .returned s ∧ Own w' w.heap.size s (tgL f) ∧ Below w.heap.size w w' := by
  have hF := FrAt.new w f x
  have c12 := hF.c12
  have ldt := hF.ldt
  have HB : Hid (Below w.heap.size w (w.alloc (.cells (fcs f x) 28))) := (Below.refl _ _).alloc (Nat.le_refl _) _
  obtain ⟨t, ht⟩ : ∃ t, f.t = t := ⟨_, rfl⟩
  have HT : Hid (f.t = t) := ht
  rw [ht] at c12
  cases t
  · clear ht h hF ldt
    go_enter Try.func22, Try.ntmps22
    go_wp2
    go_ret
    refine ⟨_, rfl, ?_, HB.out⟩
    unfold tgL
    rw [HT.out]
    exact own_nil _ _
  · have hk : Hid (tagOk f.p f.v = true) := h ht
    clear ht h hF
    go_enter Try.func22, Try.ntmps22
    go_wp2_with fail
    refine (put_f f _ hk.out).mono ?_
    rintro _ w1 ⟨s1, rfl, ho1, hb1⟩
    have HB1 : Hid (Below w.heap.size w w1) := below_over HB.out hb1
    obtain ⟨a1, n1, c1, rfl⟩ := src_form ho1.src
    have HO1 : Hid (Src w1 (.slice a1 n1 c1) (tagL f.p f.e f.v)) := ho1.src
    clear ho1 hb1 HB c12 ldt
    go_wp2_with fail
    refine (ptype_any 34984 _ 1 1 _ _ _ (by omega) (by omega) (parts_one w1 _ _ HO1.out (by simp [tagL]))).mono ?_
    rintro _ w2 ⟨s2, rfl, ho2, hb2⟩
    have HB2 : Hid (Below w.heap.size w w2) := below_over HB1.out (below_over ((Below.refl _ _).alloc (Nat.le_refl _) _) hb2)
    have hsz := HB1.out.size
    have HO2 : Hid (Own w2 w.heap.size s2 (tgL f)) := by
      have e : ptL 34984 (fun _ => tagL f.p f.e f.v) 1 = tgL f := by
        unfold ptL tgL
        rw [if_pos (by omega), HT.out]
        rfl
      rw [e] at ho2
      exact ho2.base (by simp; omega)
    clear ho2 hb2 HO1 hsz
    go_wp2
    go_ret
    exact ⟨_, rfl, HO2.out, HB2.out⟩

set_option maxHeartbeats 1000000 in
theorem encode_no (f : Fr) (x : Value) (l : List Int) (w : World) (h : Src w x l) (hb : ∀ x ∈ l, 0 ≤ x ∧ x ≤ 255) (hf : f.ok) (he : ¬ chkF f l = 0) :
    Calls Try.prog 9 #[.agg (fcs f x)] w fun r w' => r = .returned (.tuple #[.slice none 0 0, .int .i64 (chkF f l)]) ∧ Below w.heap.size w w' := by
  have hF := FrAt.new w f x
  have ld := hF.ld
  have hB : Below w.heap.size w (w.alloc (.cells (fcs f x) 28)) := (Below.refl _ _).alloc (Nat.le_refl _) _
  have HB : Hid (Below w.heap.size w (w.alloc (.cells (fcs f x) 28))) := hB
  have H : Hid (Src (w.alloc (.cells (fcs f x) 28)) x l ∧ (∀ x ∈ l, 0 ≤ x ∧ x ≤ 255) ∧ f.ok) := ⟨h.below hB, hb, hf⟩
  have hk := check_fr f x l (w.alloc (.cells (fcs f x) 28)) H.out.1 H.out.2.1 H.out.2.2
  obtain ⟨E, hE⟩ : ∃ E, chkF f l = E := ⟨_, rfl⟩
  rw [hE] at he hk ⊢
  have HK : Hid (Calls Try.prog 11 #[.agg (fcs f x)] (w.alloc (.cells (fcs f x) 28)) fun r w' => r = .returned (.int .i64 E) ∧ Below (w.alloc (.cells (fcs f x) 28)).heap.size (w.alloc (.cells (fcs f x) 28)) w') := hk
  have he' : (E != 0) = true := by simpa using he
  clear h hb hf hF hB hE hk he H
  go_enter Try.func9, Try.ntmps9
  go_wp2_with fail
  refine Calls.on_later HK.out ?_
  intro y
  go_wp2
  go_ret2
  exact ⟨rfl, below_later HB.out y⟩

theorem chk_zero {f : Fr} {l : List Int} (h : chkF f l = 0) : l.length ≤ 1502 ∧ (f.t = true → tagOk f.p f.v = true) ∧ 2 ≤ l.length := by
  unfold chkF at h
  by_cases h1 : 1502 < l.length
  · rw [if_pos h1] at h; omega
  · rw [if_neg h1] at h
    cases hb : badF f l
    · unfold badF at hb
      simp only [Bool.or_eq_false_iff, decide_eq_false_iff_not] at hb
      refine ⟨by omega, fun ht => ?_, by omega⟩
      have := hb.2.2.2
      rw [ht] at this
      simpa using this
    · rw [hb] at h; simp at h

theorem own_nilrow {w : World} {B : Nat} {v : Value} (h : w.ownsRow B 5 1 v 0 []) : Own w B v [] := h

set_option maxHeartbeats 2000000 in
theorem encode_yes (f : Fr) (x : Value) (l : List Int) (w : World) (h : Src w x l) (hb : ∀ x ∈ l, 0 ≤ x ∧ x ≤ 255) (hf : f.ok) (he : chkF f l = 0) :
    Calls Try.prog 9 #[.agg (fcs f x)] w fun r w' => ∃ s, r = .returned (.tuple #[s, .int .i64 0]) ∧ Own w' w.heap.size s (encL f l) ∧ Below w.heap.size w w' := by
  obtain ⟨hl1, hl2, _⟩ := chk_zero he
  obtain ⟨a, n, c, rfl⟩ := src_form h
  obtain ⟨hn, hc, hm⟩ := src_short h
  have hF := FrAt.new w f (.slice a n c)
  have ld := hF.ld
  have hB : Below w.heap.size w (w.alloc (.cells (fcs f (.slice a n c)) 28)) := (Below.refl _ _).alloc (Nat.le_refl _) _
  have HB : Hid (Below w.heap.size w (w.alloc (.cells (fcs f (.slice a n c)) 28))) := hB
  have HF : Hid (FrAt (w.alloc (.cells (fcs f (.slice a n c)) 28)) w.heap.size f (.slice a n c)) := hF
  have H : Hid (Src (w.alloc (.cells (fcs f (.slice a n c)) 28)) (.slice a n c) l) := h.below hB
  have HT : Hid (f.t = true → tagOk f.p f.v = true) := hl2
  have hk := check_fr f (.slice a n c) l (w.alloc (.cells (fcs f (.slice a n c)) 28)) H.out hb hf
  rw [he] at hk
  have HK : Hid (Calls Try.prog 11 #[.agg (fcs f (.slice a n c))] (w.alloc (.cells (fcs f (.slice a n c)) 28)) fun r w' => r = .returned (.int .i64 0) ∧ Below (w.alloc (.cells (fcs f (.slice a n c)) 28)).heap.size (w.alloc (.cells (fcs f (.slice a n c)) 28)) w') := hk
  have HN : Hid (n = l.length ∧ n ≤ 1502) := ⟨hn, by omega⟩
  have hn1 : (n : Int) ≤ 1502 := by omega
  clear h hb hf hF hB hk he hl1 hl2 hn
  go_enter Try.func9, Try.ntmps9
  go_wp2_with fail
  refine HK.out.mono ?_
  rintro _ W ⟨rfl, hbW⟩
  have HF1 : Hid (FrAt W w.heap.size f (.slice a n c)) := HF.out.below hbW
  have S1 : Hid (Src W (.slice a n c) l) := H.out.below hbW
  have HB1 : Hid (Below w.heap.size w W) := below_over HB.out hbW
  have c16 := HF1.out.c16
  clear hbW HF H HB HK ld
  obtain ⟨i5, hi5, z5, s5, b5⟩ := info_parts info5
  have I5 : Hid (Try.prog.info? 5 = some i5 ∧ i5.zero = some (.int .u8 0) ∧ i5.size = 1 ∧ i5.bytes = 1) := ⟨hi5, z5, s5, b5⟩
  clear hi5 z5 s5 b5
  go_wp2_with (at_make; refine wpList_make_own _ rfl _ _ 26 rfl W.heap.size 5 i5 (.int .u8 0) 1 Try.underlying26 I5.out.1 I5.out.2.1 I5.out.2.2.1 .i64 .i64 _ (18 + n) rfl rfl (by omega) (by rw [I5.out.2.2.2]; have := HN.out.2; omega) (by have := HN.out.2; unfold maxLen; omega) (Nat.le_refl _) ?_)
  intro w2 ho2 hg2
  have HO2 : Hid (Own w2 W.heap.size (.slice (some ⟨W.heap.size, 0, none⟩) 0 (18 + n)) []) := ho2
  have B2 : Hid (Below W.heap.size W w2) := (Below.refl _ _).grown hg2 (Nat.le_refl _) (fun k hk => by cases hk)
  clear ho2 hg2 c16 I5
  have Sd : Hid (Src w2 (.slice (some ⟨w.heap.size, 0, none⟩) 6 6) f.d.l) := (HF1.out.below B2.out).srcd
  go_wp2_with (at_builtin; refine wpList_app rfl _ _ rfl (by rfl) (by rfl) HO2.out Sd.out (by simp [M6.l]) B2.out.size ?_)
  intro v3 w3 ho3 hg3 _
  have HO3 : Hid (Own w3 W.heap.size v3 f.d.l) := ho3
  have B3 : Hid (Below W.heap.size W w3) := B2.out.trans (grown_below HO2.out hg3 B2.out.size)
  clear ho3 hg3 Sd HO2 B2
  have Ss : Hid (Src w3 (.slice (some ⟨w.heap.size, 6, none⟩) 6 6) f.s.l) := (HF1.out.below B3.out).srcs
  go_wp2_with (at_builtin; refine wpList_app rfl _ _ rfl (by rfl) (by rfl) HO3.out Ss.out (by simp [M6.l]) B3.out.size ?_)
  intro v4 w4 ho4 hg4 _
  have HO4 : Hid (Own w4 W.heap.size v4 (f.d.l ++ f.s.l)) := ho4
  have B4 : Hid (Below W.heap.size W w4) := B3.out.trans (grown_below HO3.out hg4 B3.out.size)
  clear ho4 hg4 Ss HO3 B3
  have ld4 := (HF1.out.below B4.out).ld
  go_wp2_with fail
  refine (tagb_any f _ _ HT.out).mono ?_
  rintro _ w5 ⟨s5, rfl, ho5, hb5⟩
  have HO5 : Hid (Own w5 W.heap.size v4 (f.d.l ++ f.s.l)) := HO4.out.below hb5
  have St : Hid (Src w5 s5 (tgL f)) := ho5.src
  have B5 : Hid (Below W.heap.size W w5) := below_over B4.out hb5
  clear ho5 hb5 HO4 B4 ld4
  go_wp2_with (at_builtin; refine wpList_app rfl _ _ rfl (by rfl) (by rfl) HO5.out St.out (by unfold tgL; split <;> simp [M6.l, tagL]) B5.out.size ?_)
  intro v6 w6 ho6 hg6 _
  have HO6 : Hid (Own w6 W.heap.size v6 (f.d.l ++ f.s.l ++ tgL f)) := ho6
  have B6 : Hid (Below W.heap.size W w6) := B5.out.trans (grown_below HO5.out hg6 B5.out.size)
  clear ho6 hg6 St HO5 B5
  have c16 := (HF1.out.below B6.out).c16
  have S6 : Hid (Src w6 (.slice a n c) l) := S1.out.below B6.out
  go_wp2_with (at_builtin; refine wpList_app rfl _ _ rfl (by rfl) (by rfl) HO6.out S6.out (by have := HN.out; unfold tgL; split <;> simp [M6.l, tagL] <;> omega) B6.out.size ?_)
  intro v7 w7 ho7 hg7 _
  have HO7 : Hid (Own w7 W.heap.size v7 (encL f l)) := ho7
  have B7 : Hid (Below W.heap.size W w7) := B6.out.trans (grown_below HO6.out hg7 B6.out.size)
  clear ho7 hg7 S6 HO6 B6 c16
  go_wp2
  go_ret2
  exact ⟨_, rfl, HO7.out.base HB1.out.size, below_over HB1.out B7.out⟩

theorem encode_any (f : Fr) (x : Value) (l : List Int) (w : World) (h : Src w x l) (hb : ∀ x ∈ l, 0 ≤ x ∧ x ≤ 255) (hf : f.ok) :
    Calls Try.prog 9 #[.agg (fcs f x)] w fun r w' => ∃ s, r = .returned (.tuple #[s, .int .i64 (chkF f l)]) ∧ Own w' w.heap.size s (encO f l) ∧ Below w.heap.size w w' := by
  unfold encO
  by_cases he : chkF f l = 0
  · rw [if_pos he, he]
    exact encode_yes f x l w h hb hf he
  · rw [if_neg he]
    exact (encode_no f x l w h hb hf he).mono fun r w' ⟨hr, hB⟩ => ⟨_, hr, own_nil _ _, hB⟩
end Go.Proofs.Ytnkchahjdacboaa
