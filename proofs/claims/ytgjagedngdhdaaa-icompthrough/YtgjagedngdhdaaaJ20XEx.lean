/-
  What stage 3's texts say besides: a tag's bytes by definition, a tag in another VLAN, bytes that are too short. Walks, each for every input. The walk of a frame's bytes: for every frame. The walk of a frame in another VLAN: for every frame and number.
-/
import Derived.Test.YtgjagedngdhdaaaJ13XFrame
import Derived.Test.YtgjagedngdhdaaaJ15XCheck
namespace Go.Proofs.Ytgjagedngdhdaaa

section
namespace S4
set_option linter.unusedVariables false
set_option maxRecDepth 4000
set_option linter.unusedSimpArgs false
open Go.RowKit

set_option maxHeartbeats 400000 in
theorem pref_yes (p v : Int) (d : Bool) (w : World) (h : tagOk p v = true) :
    Calls Try.prog 54 #[.agg #[.int .i64 p, .bool d, .int .i64 v]] w fun r w' => ∃ s, r = .returned (.tuple #[s, .int .i64 0]) ∧ Own w' w.heap.size s (tagL p d v) ∧ Below w.heap.size w w' := by
  have hx := @Later.cell
  go_enter Try.func54, Try.ntmps54
  go_wp2_with fail
  refine Calls.on_later (is_any p v d _) ?_
  intro y
  have hbl : Hid (Below w.heap.size w y.val) := below_later (by go_grown) y
  have hz := y.below.size
  simp only [World.size_alloc] at hz
  have z1 : w.heap.size < y.val.heap.size := by omega
  clear hz
  go_wp2_with fail
  refine (bytes_ref p v d _ h).mono ?_
  rintro _ w2 ⟨s, rfl, ho, hb2⟩
  have HO : Hid (Own w2 w.heap.size s (tagL p d v)) := ho.base (by omega)
  have HB : Hid (Below w.heap.size w w2) := below_over hbl.out hb2
  clear ho hb2
  go_wp2
  go_ret2
  exact ⟨_, rfl, HO.out, HB.out⟩
set_option maxHeartbeats 800000 in
theorem carried_any (p v x : Int) (d : Bool) (w : World) :
    Calls Try.prog 89 #[.agg #[.int .i64 p, .bool d, .int .i64 v], .int .i64 x] w fun r w' => r = .returned (.tuple #[.agg #[.int .i64 (carP p v x), .bool (carD d p v x), .int .i64 (carV p v x)], .int .i64 (chk (carOk p v x))]) ∧ Below w.heap.size w w' := by
  go_enter Try.func89, Try.ntmps89
  go_wp2
  all_goals
    go_returns
    first | exact car_yes (by omega) (by go_grown) | exact car_no (by omega) (by go_grown)
attribute [local go_sem ↓] slS_eq ldS_MAC ldS_Tag ldS_Frame stS_Frame
set_option maxHeartbeats 400000 in
theorem short_any (x : Value) (l : List Int) (w : World) (h : Src w x l) (hb : ∀ x ∈ l, 0 ≤ x ∧ x ≤ 255) :
    Calls Try.prog 62 #[x] w fun r w' => r = .returned (.bool (shortB l)) ∧ Below w.heap.size w w' := by
  obtain ⟨a, n, c, rfl⟩ := src_form h
  obtain ⟨hn, hc, hm⟩ := src_short h
  by_cases h2 : l.length < 14
  · have h3 : (n : Int) < 14 := by omega
    have e0 : shortB l = true := by simp [shortB, h2]
    have e : Hid (shortB l = true) := e0
    clear e0
    clear h hn h2 hb
    go_enter Try.func62, Try.ntmps62
    go_wp2
    go_ret
    exact ⟨ret_bool e.out.symm, by go_grown⟩
  · have h3 : ¬ (n : Int) < 14 := by omega
    obtain ⟨b, o, rfl, _, hj⟩ := src_some h (by omega)
    have hs2 : ∀ W, (slS (.slice (some ⟨b, o, none⟩) n c) (some (.int .i64 12)) none none).run Try.prog W = .ok (dropV b o n c 12) W := fun W => slS_drop b o n c 12 (by omega) hc hm W
    have H2 : Hid (Src w (dropV b o n c 12) (l.drop 12) ∧ ∀ x ∈ l.drop 12, 0 ≤ x ∧ x ≤ 255) := ⟨src_dropV h 12 (by omega), fun x hx => hb x (List.mem_of_mem_drop hx)⟩
    have e0 : shortB l = (tyN (l.drop 12) == 34984 && decide ((n : Int) < 18)) := by
      unfold shortB
      rw [hn]
      have : ((l.length : Nat) : Int) < 18 ↔ l.length < 18 := by omega
      simp [h2, this]
    have e : Hid (shortB l = (tyN (l.drop 12) == 34984 && decide ((n : Int) < 18))) := e0
    clear e0
    obtain ⟨N, hN⟩ : ∃ N, tyN (l.drop 12) = N := ⟨_, rfl⟩
    clear h hn h2 hb hj
    cases hq : (N == 34984)
    all_goals
      go_enter Try.func62, Try.ntmps62
      go_wp2_with fail
      refine Calls.on_later (number_any _ (l.drop 12) _ H2.out.1 H2.out.2) ?_
      intro y
      rw [hN]
      go_wp2
      go_ret
      refine ⟨ret_bool ?_, below_later (by go_grown) y⟩
      rw [e.out, hN, hq]
      simp
end S4
end

section
namespace S4
set_option linter.unusedVariables false
set_option linter.unusedSimpArgs false
open Go.RowKit

/-- What stands between the addresses and the rest. -/
def tgL (f : Fr) : List Int := if f.t then 136 :: 168 :: tagL f.p f.e f.v else []
/-- A frame's bytes. -/
def encL (f : Fr) (l : List Int) : List Int := f.d.l ++ f.s.l ++ tgL f ++ l
/-- The bytes that are told. -/
def encO (f : Fr) (l : List Int) : List Int := if chkF f l = 0 then encL f l else []

theorem FrAt.srcd {W : World} {b : Nat} {f : Fr} {x : Value} (h : FrAt W b f x) : Src W (.slice (some ⟨b, 0, none⟩) 6 6) f.d.l :=
  src6 (h.c 0 _ rfl) (h.c 1 _ rfl) (h.c 2 _ rfl) (h.c 3 _ rfl) (h.c 4 _ rfl) (h.c 5 _ rfl)
theorem FrAt.srcs {W : World} {b : Nat} {f : Fr} {x : Value} (h : FrAt W b f x) : Src W (.slice (some ⟨b, 6, none⟩) 6 6) f.s.l :=
  src6 (h.c 6 _ rfl) (h.c 7 _ rfl) (h.c 8 _ rfl) (h.c 9 _ rfl) (h.c 10 _ rfl) (h.c 11 _ rfl)

theorem parts_one (W : World) (v0 : Value) (l0 : List Int) (h0 : Src W v0 l0) (k0 : l0.length ≤ 2000) : Parts (W.alloc (.cells #[v0] 30)) W.heap.size 1 (fun _ => v0) (fun _ => l0) := by
  intro j hj
  have hb : Below W.heap.size W (W.alloc (.cells #[v0] 30)) := (Below.refl _ _).alloc (Nat.le_refl _) _
  have hc := alloc_at W (.cells #[v0] 30)
  have hj' : j = 0 := by omega
  subst hj'
  exact ⟨cell_at hc 0 _ rfl, h0.below hb, k0⟩

attribute [local go_sem ↓] slS_eq ldS_MAC ldS_Tag ldS_Frame stS_Frame nqS_eq eqS_eq

theorem put_f (f : Fr) (w : World) (h : tagOk f.p f.v = true) :
    Calls Try.prog 114 #[f.tag] w fun r w' => ∃ s, r = .returned (.tuple #[s, .int .i64 0]) ∧ Own w' w.heap.size s (tagL f.p f.e f.v) ∧ Below w.heap.size w w' := put_yes f.p f.v f.e w h

set_option maxHeartbeats 1000000 in
theorem tagb_any (f : Fr) (x : Value) (w : World) (h : f.t = true → tagOk f.p f.v = true) :
    Calls Try.prog 111 #[.agg (fcs f x)] w fun r w' => ∃ s, r = .returned s ∧ Own w' w.heap.size s (tgL f) ∧ Below w.heap.size w w' := by
  have hF := FrAt.new w f x
  have c12 := hF.c12
  have ldt := hF.ldt
  have HB : Hid (Below w.heap.size w (w.alloc (.cells (fcs f x) 34))) := (Below.refl _ _).alloc (Nat.le_refl _) _
  obtain ⟨t, ht⟩ : ∃ t, f.t = t := ⟨_, rfl⟩
  have HT : Hid (f.t = t) := ht
  rw [ht] at c12
  cases t
  · clear ht h hF ldt
    go_enter Try.func111, Try.ntmps111
    go_wp2
    go_ret
    refine ⟨_, rfl, ?_, HB.out⟩
    unfold tgL
    rw [HT.out]
    exact own_nil _ _
  · have hk : Hid (tagOk f.p f.v = true) := h ht
    clear ht h hF
    go_enter Try.func111, Try.ntmps111
    go_wp2_with fail
    refine (put_f f _ hk.out).mono ?_
    rintro _ w1 ⟨s1, rfl, ho1, hb1⟩
    have HB1 : Hid (Below w.heap.size w w1) := below_over HB.out hb1
    obtain ⟨a1, n1, c1, rfl⟩ := src_form ho1.src
    have HO1 : Hid (Src w1 (.slice a1 n1 c1) (tagL f.p f.e f.v)) := ho1.src
    clear ho1 hb1 HB c12 ldt
    go_wp2_with fail
    refine (ptype_any 34984 _ 1 1 _ _ _ (by omega) (by omega) (parts_one w1 _ _ HO1.out (by simp [tagL]))).mono ?_
    rintro _ w2 ⟨s2, rfl, ho2, hb2⟩
    have HB2 : Hid (Below w.heap.size w w2) := below_over HB1.out (below_over ((Below.refl _ _).alloc (Nat.le_refl _) _) hb2)
    have hsz := HB1.out.size
    have HO2 : Hid (Own w2 w.heap.size s2 (tgL f)) := by
      have e : ptL 34984 (fun _ => tagL f.p f.e f.v) 1 = tgL f := by
        unfold ptL tgL
        rw [if_pos (by omega), HT.out]
        rfl
      rw [e] at ho2
      exact ho2.base (by simp; omega)
    clear ho2 hb2 HO1 hsz
    go_wp2
    go_ret
    exact ⟨_, rfl, HO2.out, HB2.out⟩

set_option maxHeartbeats 1000000 in
theorem encode_no (f : Fr) (x : Value) (l : List Int) (w : World) (h : Src w x l) (hb : ∀ x ∈ l, 0 ≤ x ∧ x ≤ 255) (hf : f.ok) (he : ¬ chkF f l = 0) :
    Calls Try.prog 84 #[.agg (fcs f x)] w fun r w' => r = .returned (.tuple #[.slice none 0 0, .int .i64 (chkF f l)]) ∧ Below w.heap.size w w' := by
  have hF := FrAt.new w f x
  have ld := hF.ld
  have hB : Below w.heap.size w (w.alloc (.cells (fcs f x) 34)) := (Below.refl _ _).alloc (Nat.le_refl _) _
  have HB : Hid (Below w.heap.size w (w.alloc (.cells (fcs f x) 34))) := hB
  have H : Hid (Src (w.alloc (.cells (fcs f x) 34)) x l ∧ (∀ x ∈ l, 0 ≤ x ∧ x ≤ 255) ∧ f.ok) := ⟨h.below hB, hb, hf⟩
  have hk := check_fr f x l (w.alloc (.cells (fcs f x) 34)) H.out.1 H.out.2.1 H.out.2.2
  obtain ⟨E, hE⟩ : ∃ E, chkF f l = E := ⟨_, rfl⟩
  rw [hE] at he hk ⊢
  have HK : Hid (Calls Try.prog 35 #[.agg (fcs f x)] (w.alloc (.cells (fcs f x) 34)) fun r w' => r = .returned (.int .i64 E) ∧ Below (w.alloc (.cells (fcs f x) 34)).heap.size (w.alloc (.cells (fcs f x) 34)) w') := hk
  have he' : (E != 0) = true := by simpa using he
  clear h hb hf hF hB hE hk he H
  go_enter Try.func84, Try.ntmps84
  go_wp2_with fail
  refine Calls.on_later HK.out ?_
  intro y
  go_wp2
  go_ret2
  exact ⟨rfl, below_later HB.out y⟩

theorem chk_zero {f : Fr} {l : List Int} (h : chkF f l = 0) : l.length ≤ 1502 ∧ (f.t = true → tagOk f.p f.v = true) ∧ 2 ≤ l.length := by
  unfold chkF at h
  by_cases h1 : 1502 < l.length
  · rw [if_pos h1] at h; omega
  · rw [if_neg h1] at h
    cases hb : badF f l
    · unfold badF at hb
      simp only [Bool.or_eq_false_iff, decide_eq_false_iff_not] at hb
      refine ⟨by omega, fun ht => ?_, by omega⟩
      have := hb.2.2.2
      rw [ht] at this
      simpa using this
    · rw [hb] at h; simp at h

theorem own_nilrow {w : World} {B : Nat} {v : Value} (h : w.ownsRow B 5 1 v 0 []) : Own w B v [] := h

set_option maxHeartbeats 2000000 in
theorem encode_yes (f : Fr) (x : Value) (l : List Int) (w : World) (h : Src w x l) (hb : ∀ x ∈ l, 0 ≤ x ∧ x ≤ 255) (hf : f.ok) (he : chkF f l = 0) :
    Calls Try.prog 84 #[.agg (fcs f x)] w fun r w' => ∃ s, r = .returned (.tuple #[s, .int .i64 0]) ∧ Own w' w.heap.size s (encL f l) ∧ Below w.heap.size w w' := by
  obtain ⟨hl1, hl2, _⟩ := chk_zero he
  obtain ⟨a, n, c, rfl⟩ := src_form h
  obtain ⟨hn, hc, hm⟩ := src_short h
  have hF := FrAt.new w f (.slice a n c)
  have ld := hF.ld
  have hB : Below w.heap.size w (w.alloc (.cells (fcs f (.slice a n c)) 34)) := (Below.refl _ _).alloc (Nat.le_refl _) _
  have HB : Hid (Below w.heap.size w (w.alloc (.cells (fcs f (.slice a n c)) 34))) := hB
  have HF : Hid (FrAt (w.alloc (.cells (fcs f (.slice a n c)) 34)) w.heap.size f (.slice a n c)) := hF
  have H : Hid (Src (w.alloc (.cells (fcs f (.slice a n c)) 34)) (.slice a n c) l) := h.below hB
  have HT : Hid (f.t = true → tagOk f.p f.v = true) := hl2
  have hk := check_fr f (.slice a n c) l (w.alloc (.cells (fcs f (.slice a n c)) 34)) H.out hb hf
  rw [he] at hk
  have HK : Hid (Calls Try.prog 35 #[.agg (fcs f (.slice a n c))] (w.alloc (.cells (fcs f (.slice a n c)) 34)) fun r w' => r = .returned (.int .i64 0) ∧ Below (w.alloc (.cells (fcs f (.slice a n c)) 34)).heap.size (w.alloc (.cells (fcs f (.slice a n c)) 34)) w') := hk
  have HN : Hid (n = l.length ∧ n ≤ 1502) := ⟨hn, by omega⟩
  have hn1 : (n : Int) ≤ 1502 := by omega
  clear h hb hf hF hB hk he hl1 hl2 hn
  go_enter Try.func84, Try.ntmps84
  go_wp2_with fail
  refine HK.out.mono ?_
  rintro _ W ⟨rfl, hbW⟩
  have HF1 : Hid (FrAt W w.heap.size f (.slice a n c)) := HF.out.below hbW
  have S1 : Hid (Src W (.slice a n c) l) := H.out.below hbW
  have HB1 : Hid (Below w.heap.size w W) := below_over HB.out hbW
  have c16 := HF1.out.c16
  clear hbW HF H HB HK ld
  obtain ⟨i5, hi5, z5, s5, b5⟩ := info_parts info_uint8
  have I5 : Hid (Try.prog.info? 5 = some i5 ∧ i5.zero = some (.int .u8 0) ∧ i5.size = 1 ∧ i5.bytes = 1) := ⟨hi5, z5, s5, b5⟩
  clear hi5 z5 s5 b5
  go_wp2_with (at_make; refine wpList_make_own _ rfl _ _ 30 rfl W.heap.size 5 i5 (.int .u8 0) 1 Try.underlying30 I5.out.1 I5.out.2.1 I5.out.2.2.1 .i64 .i64 _ (18 + n) rfl rfl (by omega) (by rw [I5.out.2.2.2]; have := HN.out.2; omega) (by have := HN.out.2; unfold maxLen; omega) (Nat.le_refl _) ?_)
  intro w2 ho2 hg2
  have HO2 : Hid (Own w2 W.heap.size (.slice (some ⟨W.heap.size, 0, none⟩) 0 (18 + n)) []) := ho2
  have B2 : Hid (Below W.heap.size W w2) := (Below.refl _ _).grown hg2 (Nat.le_refl _) (fun k hk => by cases hk)
  clear ho2 hg2 c16 I5
  have Sd : Hid (Src w2 (.slice (some ⟨w.heap.size, 0, none⟩) 6 6) f.d.l) := (HF1.out.below B2.out).srcd
  go_wp2_with (at_builtin; refine wpList_app rfl _ _ rfl (by rfl) (by rfl) HO2.out Sd.out (by simp [M6.l]) B2.out.size ?_)
  intro v3 w3 ho3 hg3 _
  have HO3 : Hid (Own w3 W.heap.size v3 f.d.l) := ho3
  have B3 : Hid (Below W.heap.size W w3) := B2.out.trans (grown_below HO2.out hg3 B2.out.size)
  clear ho3 hg3 Sd HO2 B2
  have Ss : Hid (Src w3 (.slice (some ⟨w.heap.size, 6, none⟩) 6 6) f.s.l) := (HF1.out.below B3.out).srcs
  go_wp2_with (at_builtin; refine wpList_app rfl _ _ rfl (by rfl) (by rfl) HO3.out Ss.out (by simp [M6.l]) B3.out.size ?_)
  intro v4 w4 ho4 hg4 _
  have HO4 : Hid (Own w4 W.heap.size v4 (f.d.l ++ f.s.l)) := ho4
  have B4 : Hid (Below W.heap.size W w4) := B3.out.trans (grown_below HO3.out hg4 B3.out.size)
  clear ho4 hg4 Ss HO3 B3
  have ld4 := (HF1.out.below B4.out).ld
  go_wp2_with fail
  refine (tagb_any f _ _ HT.out).mono ?_
  rintro _ w5 ⟨s5, rfl, ho5, hb5⟩
  have HO5 : Hid (Own w5 W.heap.size v4 (f.d.l ++ f.s.l)) := HO4.out.below hb5
  have St : Hid (Src w5 s5 (tgL f)) := ho5.src
  have B5 : Hid (Below W.heap.size W w5) := below_over B4.out hb5
  clear ho5 hb5 HO4 B4 ld4
  go_wp2_with (at_builtin; refine wpList_app rfl _ _ rfl (by rfl) (by rfl) HO5.out St.out (by unfold tgL; split <;> simp [M6.l, tagL]) B5.out.size ?_)
  intro v6 w6 ho6 hg6 _
  have HO6 : Hid (Own w6 W.heap.size v6 (f.d.l ++ f.s.l ++ tgL f)) := ho6
  have B6 : Hid (Below W.heap.size W w6) := B5.out.trans (grown_below HO5.out hg6 B5.out.size)
  clear ho6 hg6 St HO5 B5
  have c16 := (HF1.out.below B6.out).c16
  have S6 : Hid (Src w6 (.slice a n c) l) := S1.out.below B6.out
  go_wp2_with (at_builtin; refine wpList_app rfl _ _ rfl (by rfl) (by rfl) HO6.out S6.out (by have := HN.out; unfold tgL; split <;> simp [M6.l, tagL] <;> omega) B6.out.size ?_)
  intro v7 w7 ho7 hg7 _
  have HO7 : Hid (Own w7 W.heap.size v7 (encL f l)) := ho7
  have B7 : Hid (Below W.heap.size W w7) := B6.out.trans (grown_below HO6.out hg7 B6.out.size)
  clear ho7 hg7 S6 HO6 B6 c16
  go_wp2
  go_ret2
  exact ⟨_, rfl, HO7.out.base HB1.out.size, below_over HB1.out B7.out⟩

theorem encode_any (f : Fr) (x : Value) (l : List Int) (w : World) (h : Src w x l) (hb : ∀ x ∈ l, 0 ≤ x ∧ x ≤ 255) (hf : f.ok) :
    Calls Try.prog 84 #[.agg (fcs f x)] w fun r w' => ∃ s, r = .returned (.tuple #[s, .int .i64 (chkF f l)]) ∧ Own w' w.heap.size s (encO f l) ∧ Below w.heap.size w w' := by
  unfold encO
  by_cases he : chkF f l = 0
  · rw [if_pos he, he]
    exact encode_yes f x l w h hb hf he
  · rw [if_neg he]
    exact (encode_no f x l w h hb hf he).mono fun r w' ⟨hr, hB⟩ => ⟨_, hr, own_nil _ _, hB⟩
end S4
end

section
namespace S4
set_option linter.unusedVariables false
set_option linter.unusedSimpArgs false
open Go.RowKit

attribute [local go_sem ↓] ldS_MAC ldS_Tag ldS_Frame stS_Frame nqS_eq eqS_eq eqM_eq

/-- The error of retagging. -/
def rtE (f : Fr) (l : List Int) (v : Int) : Int := if chkF f l = 0 then (if f.t then (if 1 ≤ v ∧ v ≤ 4094 then 0 else 1) else 30) else chkF f l
/-- The frame in another VLAN. -/
def Fr.vid (f : Fr) (v : Int) : Fr := ⟨f.d, f.s, f.t, f.p, f.e, v⟩
def rtF (f : Fr) (l : List Int) (v : Int) : Fr := if rtE f l v = 0 then f.vid v else zeroF
def rtR (f : Fr) (l : List Int) (v : Int) : List Int := if rtE f l v = 0 then l else []
def RtOut (f : Fr) (l : List Int) (v : Int) (w : World) (r : Ending) (w' : World) : Prop :=
  ∃ s, r = .returned (.tuple #[.agg (fcs (rtF f l v) s), .int .i64 (rtE f l v)]) ∧ Own w' w.heap.size s (rtR f l v) ∧ Below w.heap.size w w'

theorem rt_err {f : Fr} {l : List Int} {v : Int} {w w' : World} (e : Int) (he : rtE f l v = e) (h0 : ¬ e = 0) (hb : Below w.heap.size w w') : RtOut f l v w (.returned (.tuple #[.agg (fcs zeroF (.slice none 0 0)), .int .i64 e])) w' := by
  refine ⟨.slice none 0 0, ?_, ?_, hb⟩
  · unfold rtF; rw [he, if_neg h0]
  · unfold rtR; rw [he, if_neg h0]; exact own_nil _ _
theorem rt_ok {f : Fr} {l : List Int} {v : Int} {w w' : World} {s : Value} (he : rtE f l v = 0) (ho : Own w' w.heap.size s l) (hb : Below w.heap.size w w') : RtOut f l v w (.returned (.tuple #[.agg (fcs (f.vid v) s), .int .i64 0])) w' := by
  refine ⟨s, ?_, ?_, hb⟩
  · unfold rtF; rw [he, if_pos rfl]
  · unfold rtR; rw [he, if_pos rfl]; exact ho

/-- The frame's variable and the one for the answer. -/
structure Two (w W : World) (f : Fr) (x : Value) : Prop where
  fr : FrAt W w.heap.size f x
  z : FrAt W (w.heap.size + 1) zeroF (.slice none 0 0)
  below : Below w.heap.size w W
theorem Two.new (w : World) (f : Fr) (x : Value) : Two w ((w.alloc (.cells (fcs f x) 34)).alloc (.cells #[.int .u8 0, .int .u8 0, .int .u8 0, .int .u8 0, .int .u8 0, .int .u8 0, .int .u8 0, .int .u8 0, .int .u8 0, .int .u8 0, .int .u8 0, .int .u8 0, .bool false, .int .i64 0, .bool false, .int .i64 0, .slice none 0 0] 34)) f x where
  fr := (FrAt.new w f x).below ((Below.refl _ _).alloc (Nat.le_refl _) _)
  z := by have := zero_new (w.alloc (.cells (fcs f x) 34)); simpa using this
  below := ((Below.refl _ _).alloc (Nat.le_refl _) _).alloc (by simp) _
theorem Two.later {w W W' : World} {f : Fr} {x : Value} (h : Two w W f x) (hb : Below W.heap.size W W') : Two w W' f x := ⟨h.fr.below hb, h.z.below hb, below_over h.below hb⟩
/-- The frame of zeros is stored for the answer. -/
theorem Two.zero {w W : World} {f : Fr} {x : Value} (h : Two w W f x) : (stS 34 (.pointer (some ⟨w.heap.size + 1, 0, none⟩)) (.agg #[.int .u8 0, .int .u8 0, .int .u8 0, .int .u8 0, .int .u8 0, .int .u8 0, .int .u8 0, .int .u8 0, .int .u8 0, .int .u8 0, .int .u8 0, .int .u8 0, .bool false, .int .i64 0, .bool false, .int .i64 0, .slice none 0 0])).run Try.prog W = .ok () (W.setRow (w.heap.size + 1) (fcs zeroF (.slice none 0 0))) := h.z.stv (g := zeroF) (y := .slice none 0 0) rfl _ rfl
theorem Two.zeroAt {w W : World} {f : Fr} {x : Value} (h : Two w W f x) : FrAt (W.setRow (w.heap.size + 1) (fcs zeroF (.slice none 0 0))) (w.heap.size + 1) zeroF (.slice none 0 0) := h.z.set
theorem Two.zeroBelow {w W : World} {f : Fr} {x : Value} (h : Two w W f x) (cs : Array Value) : Below w.heap.size w (W.setRow (w.heap.size + 1) cs) := below_setRow h.below (by omega) _

theorem carried_f (f : Fr) (v : Int) (w : World) (h : tagOk f.p f.v = true) :
    Calls Try.prog 89 #[f.tag, .int .i64 v] w fun r w' => r = .returned (.tuple #[.agg #[.int .i64 (carP f.p f.v v), .bool (carD f.e f.p f.v v), .int .i64 (carV f.p f.v v)], .int .i64 (chk (carOk f.p f.v v))]) ∧ Below w.heap.size w w' := carried_any f.p f.v v f.e w

set_option maxHeartbeats 1000000 in
theorem retag_no (f : Fr) (x : Value) (l : List Int) (v : Int) (w : World) (h : Src w x l) (hb : ∀ x ∈ l, 0 ≤ x ∧ x ≤ 255) (hf : f.ok) (he : ¬ chkF f l = 0) :
    Calls Try.prog 58 #[.agg (fcs f x), .int .i64 v] w fun r w' => RtOut f l v w r w' := by
  have h0 := Two.new w f x
  have ld := h0.fr.ld
  have T0 : Hid (Two w ((w.alloc (.cells (fcs f x) 34)).alloc (.cells #[.int .u8 0, .int .u8 0, .int .u8 0, .int .u8 0, .int .u8 0, .int .u8 0, .int .u8 0, .int .u8 0, .int .u8 0, .int .u8 0, .int .u8 0, .int .u8 0, .bool false, .int .i64 0, .bool false, .int .i64 0, .slice none 0 0] 34)) f x) := h0
  have S0 : Hid (Src ((w.alloc (.cells (fcs f x) 34)).alloc (.cells #[.int .u8 0, .int .u8 0, .int .u8 0, .int .u8 0, .int .u8 0, .int .u8 0, .int .u8 0, .int .u8 0, .int .u8 0, .int .u8 0, .int .u8 0, .int .u8 0, .bool false, .int .i64 0, .bool false, .int .i64 0, .slice none 0 0] 34)) x l) := h.below h0.below
  have HK : Hid _ := check_fr f x l ((w.alloc (.cells (fcs f x) 34)).alloc (.cells #[.int .u8 0, .int .u8 0, .int .u8 0, .int .u8 0, .int .u8 0, .int .u8 0, .int .u8 0, .int .u8 0, .int .u8 0, .int .u8 0, .int .u8 0, .int .u8 0, .bool false, .int .i64 0, .bool false, .int .i64 0, .slice none 0 0] 34)) S0.out hb hf
  have HE : Hid (rtE f l v = chkF f l) := by unfold rtE; rw [if_neg he]; rfl
  obtain ⟨E, hE⟩ : ∃ E, chkF f l = E := ⟨_, rfl⟩
  rw [hE] at he HE HK
  have he' : (E != 0) = true := by simpa using he
  have HN : Hid (¬ E = 0) := he
  clear h hb hf h0 hE he
  go_enter Try.func58, Try.ntmps58
  go_wp2_with fail
  refine Calls.mono HK.out ?_
  rintro _ W ⟨rfl, hW⟩
  have T1 : Hid (Two w W f x) := T0.out.later hW
  have zs := T1.out.zero
  have HZ : Hid _ := And.intro T1.out.zeroAt (T1.out.zeroBelow (fcs zeroF (.slice none 0 0)))
  clear hW ld T0 S0 HK
  go_wp2
  refine bodyPost_ret (results_two Try.results58 _ _ _ _ _ _ rfl rfl HZ.out.1) rfl ?_
  exact rt_err E HE.out HN.out HZ.out.2

set_option maxHeartbeats 1000000 in
theorem retag_plain (f : Fr) (x : Value) (l : List Int) (v : Int) (w : World) (h : Src w x l) (hb : ∀ x ∈ l, 0 ≤ x ∧ x ≤ 255) (hf : f.ok) (he : chkF f l = 0) (ht : f.t = false) :
    Calls Try.prog 58 #[.agg (fcs f x), .int .i64 v] w fun r w' => RtOut f l v w r w' := by
  have h0 := Two.new w f x
  have ld := h0.fr.ld
  have T0 : Hid (Two w ((w.alloc (.cells (fcs f x) 34)).alloc (.cells #[.int .u8 0, .int .u8 0, .int .u8 0, .int .u8 0, .int .u8 0, .int .u8 0, .int .u8 0, .int .u8 0, .int .u8 0, .int .u8 0, .int .u8 0, .int .u8 0, .bool false, .int .i64 0, .bool false, .int .i64 0, .slice none 0 0] 34)) f x) := h0
  have S0 : Hid (Src ((w.alloc (.cells (fcs f x) 34)).alloc (.cells #[.int .u8 0, .int .u8 0, .int .u8 0, .int .u8 0, .int .u8 0, .int .u8 0, .int .u8 0, .int .u8 0, .int .u8 0, .int .u8 0, .int .u8 0, .int .u8 0, .bool false, .int .i64 0, .bool false, .int .i64 0, .slice none 0 0] 34)) x l) := h.below h0.below
  have HK : Hid _ := check_fr f x l ((w.alloc (.cells (fcs f x) 34)).alloc (.cells #[.int .u8 0, .int .u8 0, .int .u8 0, .int .u8 0, .int .u8 0, .int .u8 0, .int .u8 0, .int .u8 0, .int .u8 0, .int .u8 0, .int .u8 0, .int .u8 0, .bool false, .int .i64 0, .bool false, .int .i64 0, .slice none 0 0] 34)) S0.out hb hf
  have HE : Hid (rtE f l v = 30) := by unfold rtE; rw [if_pos he, ht]; rfl
  rw [he] at HK
  have HT : Hid (f.t = false) := ht
  clear h hb hf h0 he ht
  go_enter Try.func58, Try.ntmps58
  go_wp2_with fail
  refine Calls.mono HK.out ?_
  rintro _ W ⟨rfl, hW⟩
  have T1 : Hid (Two w W f x) := T0.out.later hW
  have c12 := T1.out.fr.c12
  rw [HT.out] at c12
  have zs := T1.out.zero
  have HZ : Hid _ := And.intro T1.out.zeroAt (T1.out.zeroBelow (fcs zeroF (.slice none 0 0)))
  clear hW ld T0 S0 HK
  go_wp2
  refine bodyPost_ret (results_two Try.results58 _ _ _ _ _ _ rfl rfl HZ.out.1) rfl ?_
  exact rt_err 30 HE.out (by omega) HZ.out.2

theorem car_out {p v x : Int} (h : tagOk p v = true) : carOk p v x = decide (1 ≤ x ∧ x ≤ 4094) := by
  have := tagOk_iff.1 h
  unfold carOk
  rw [h, Bool.true_and]
  unfold tagOk
  apply decide_eq_decide.2
  omega

set_option maxHeartbeats 1000000 in
theorem retag_far (f : Fr) (x : Value) (l : List Int) (v : Int) (w : World) (h : Src w x l) (hb : ∀ x ∈ l, 0 ≤ x ∧ x ≤ 255) (hf : f.ok) (he : chkF f l = 0) (ht : f.t = true) (hv : ¬ (1 ≤ v ∧ v ≤ 4094)) :
    Calls Try.prog 58 #[.agg (fcs f x), .int .i64 v] w fun r w' => RtOut f l v w r w' := by
  have h0 := Two.new w f x
  have ld := h0.fr.ld
  have T0 : Hid (Two w ((w.alloc (.cells (fcs f x) 34)).alloc (.cells #[.int .u8 0, .int .u8 0, .int .u8 0, .int .u8 0, .int .u8 0, .int .u8 0, .int .u8 0, .int .u8 0, .int .u8 0, .int .u8 0, .int .u8 0, .int .u8 0, .bool false, .int .i64 0, .bool false, .int .i64 0, .slice none 0 0] 34)) f x) := h0
  have S0 : Hid (Src ((w.alloc (.cells (fcs f x) 34)).alloc (.cells #[.int .u8 0, .int .u8 0, .int .u8 0, .int .u8 0, .int .u8 0, .int .u8 0, .int .u8 0, .int .u8 0, .int .u8 0, .int .u8 0, .int .u8 0, .int .u8 0, .bool false, .int .i64 0, .bool false, .int .i64 0, .slice none 0 0] 34)) x l) := h.below h0.below
  have HK : Hid _ := check_fr f x l ((w.alloc (.cells (fcs f x) 34)).alloc (.cells #[.int .u8 0, .int .u8 0, .int .u8 0, .int .u8 0, .int .u8 0, .int .u8 0, .int .u8 0, .int .u8 0, .int .u8 0, .int .u8 0, .int .u8 0, .int .u8 0, .bool false, .int .i64 0, .bool false, .int .i64 0, .slice none 0 0] 34)) S0.out hb hf
  have HE : Hid (rtE f l v = 1) := by unfold rtE; rw [if_pos he, ht, if_pos rfl, if_neg hv]; rfl
  rw [he] at HK
  have HT : Hid (f.t = true ∧ tagOk f.p f.v = true) := ⟨ht, (chk_zero he).2.1 ht⟩
  have HO : Hid (carOk f.p f.v v = false) := by rw [car_out HT.out.2]; exact decide_eq_false hv
  clear h hb hf h0 he ht hv
  go_enter Try.func58, Try.ntmps58
  go_wp2_with fail
  refine Calls.mono HK.out ?_
  rintro _ W ⟨rfl, hW⟩
  have T1 : Hid (Two w W f x) := T0.out.later hW
  have c12 := T1.out.fr.c12
  have ldt := T1.out.fr.ldt
  rw [HT.out.1] at c12
  clear hW ld T0 S0 HK
  go_wp2_with fail
  refine (carried_f f v _ HT.out.2).mono ?_
  rintro _ W2 ⟨rfl, hW2⟩
  rw [HO.out, show chk false = 20 from rfl]
  have T2 : Hid (Two w (W2.alloc (.cells #[.int .i64 (carP f.p f.v v), .bool (carD f.e f.p f.v v), .int .i64 (carV f.p f.v v)] 32)) f x) := T1.out.later (hW2.alloc hW2.size _)
  have zs := T2.out.zero
  have HZ : Hid _ := And.intro T2.out.zeroAt (T2.out.zeroBelow (fcs zeroF (.slice none 0 0)))
  clear hW2 ldt c12 T1
  go_wp2
  refine bodyPost_ret (results_two Try.results58 _ _ _ _ _ _ rfl rfl HZ.out.1) rfl ?_
  exact rt_err 1 HE.out (by omega) HZ.out.2

theorem ld25_new (W : World) (p : Int) (e : Bool) (v : Int) : (ldS 32 (.pointer (some ⟨W.heap.size, 0, none⟩))).run Try.prog (W.alloc (.cells #[.int .i64 p, .bool e, .int .i64 v] 32)) = .ok (.agg #[.int .i64 p, .bool e, .int .i64 v]) (W.alloc (.cells #[.int .i64 p, .bool e, .int .i64 v] 32)) := by
  have hr := World.rangeAt_of_block (alloc_at W (.cells #[.int .i64 p, .bool e, .int .i64 v] 32)) 0 3
  exact run_loadAt_mid _ _ 0 32 _ _ hr Try.underlying32 rfl info_Tag

set_option maxHeartbeats 1000000 in
theorem retag_yes (f : Fr) (x : Value) (l : List Int) (v : Int) (w : World) (h : Src w x l) (hb : ∀ x ∈ l, 0 ≤ x ∧ x ≤ 255) (hf : f.ok) (he : chkF f l = 0) (ht : f.t = true) (hv : 1 ≤ v ∧ v ≤ 4094) :
    Calls Try.prog 58 #[.agg (fcs f x), .int .i64 v] w fun r w' => RtOut f l v w r w' := by
  have h0 := Two.new w f x
  have ld := h0.fr.ld
  have T0 : Hid (Two w ((w.alloc (.cells (fcs f x) 34)).alloc (.cells #[.int .u8 0, .int .u8 0, .int .u8 0, .int .u8 0, .int .u8 0, .int .u8 0, .int .u8 0, .int .u8 0, .int .u8 0, .int .u8 0, .int .u8 0, .int .u8 0, .bool false, .int .i64 0, .bool false, .int .i64 0, .slice none 0 0] 34)) f x) := h0
  have S0 : Hid (Src ((w.alloc (.cells (fcs f x) 34)).alloc (.cells #[.int .u8 0, .int .u8 0, .int .u8 0, .int .u8 0, .int .u8 0, .int .u8 0, .int .u8 0, .int .u8 0, .int .u8 0, .int .u8 0, .int .u8 0, .int .u8 0, .bool false, .int .i64 0, .bool false, .int .i64 0, .slice none 0 0] 34)) x l) := h.below h0.below
  have HK : Hid _ := check_fr f x l ((w.alloc (.cells (fcs f x) 34)).alloc (.cells #[.int .u8 0, .int .u8 0, .int .u8 0, .int .u8 0, .int .u8 0, .int .u8 0, .int .u8 0, .int .u8 0, .int .u8 0, .int .u8 0, .int .u8 0, .int .u8 0, .bool false, .int .i64 0, .bool false, .int .i64 0, .slice none 0 0] 34)) S0.out hb hf
  have HE : Hid (rtE f l v = 0) := by unfold rtE; rw [if_pos he, ht, if_pos rfl, if_pos hv]; rfl
  have SO : Hid (Src w x l) := h
  have HL : Hid (l.length ≤ 2000) := by have := (chk_zero he).1; show _ ≤ _; omega
  rw [he] at HK
  have HT : Hid (f.t = true ∧ tagOk f.p f.v = true) := ⟨ht, (chk_zero he).2.1 ht⟩
  have HO : Hid (carOk f.p f.v v = true) := by rw [car_out HT.out.2]; exact decide_eq_true hv
  have HC : Hid (carP f.p f.v v = f.p ∧ carD f.e f.p f.v v = f.e ∧ carV f.p f.v v = v) := by
    have := HO.out
    refine ⟨?_, ?_, ?_⟩
    · unfold carP; rw [if_pos this]
    · unfold carD; rw [if_pos this]
    · unfold carV; rw [if_pos this]
  clear h hb hf h0 he ht hv
  go_enter Try.func58, Try.ntmps58
  go_wp2_with fail
  refine Calls.mono HK.out ?_
  rintro _ W ⟨rfl, hW⟩
  have T1 : Hid (Two w W f x) := T0.out.later hW
  have S1 : Hid (Src W x l) := S0.out.below hW
  have c12 := T1.out.fr.c12
  have ldt := T1.out.fr.ldt
  rw [HT.out.1] at c12
  clear hW ld T0 S0 HK
  go_wp2_with fail
  refine (carried_f f v _ HT.out.2).mono ?_
  rintro _ W2 ⟨rfl, hW2⟩
  rw [HO.out, HC.out.1, HC.out.2.1, HC.out.2.2, show chk true = 0 from rfl]
  have T2 : Hid (Two w (W2.alloc (.cells #[.int .i64 f.p, .bool f.e, .int .i64 v] 32)) f x) := T1.out.later (hW2.alloc hW2.size _)
  have S2 : Hid (Src (W2.alloc (.cells #[.int .i64 f.p, .bool f.e, .int .i64 v] 32)) x l) := S1.out.below (hW2.alloc hW2.size _)
  have l25 := ld25_new W2 f.p f.e v
  have k13 := T2.out.fr.c13
  have k14 := T2.out.fr.c14
  have k15 := T2.out.fr.c15
  have lv := T2.out.fr.live
  clear hW2 ldt c12 T1 S1
  have h4 : Two w ((((W2.alloc (.cells #[.int .i64 f.p, .bool f.e, .int .i64 v] 32)).setCell ⟨w.heap.size, 13, none⟩ (.int .i64 f.p)).setCell ⟨w.heap.size, 14, none⟩ (.bool f.e)).setCell ⟨w.heap.size, 15, none⟩ (.int .i64 v)) (f.vid v) x := ⟨T2.out.fr.tags f.p f.e v, ((T2.out.z.apart (by simp) _).apart (by simp) _).apart (by simp) _, ((T2.out.below.setCell (by simp) _).setCell (by simp) _).setCell (by simp) _⟩
  have T4 : Hid (Two w ((((W2.alloc (.cells #[.int .i64 f.p, .bool f.e, .int .i64 v] 32)).setCell ⟨w.heap.size, 13, none⟩ (.int .i64 f.p)).setCell ⟨w.heap.size, 14, none⟩ (.bool f.e)).setCell ⟨w.heap.size, 15, none⟩ (.int .i64 v)) (f.vid v) x) := h4
  have S4 : Hid (Src ((((W2.alloc (.cells #[.int .i64 f.p, .bool f.e, .int .i64 v] 32)).setCell ⟨w.heap.size, 13, none⟩ (.int .i64 f.p)).setCell ⟨w.heap.size, 14, none⟩ (.bool f.e)).setCell ⟨w.heap.size, 15, none⟩ (.int .i64 v)) x l) := SO.out.below h4.below
  have c16 := h4.fr.c16
  clear h4 S2
  go_wp2_with fail
  refine (clone_v x l _ S4.out HL.out).mono ?_
  rintro _ W5 ⟨s5, rfl, ho5, hb5⟩
  have T5 : Hid (Two w W5 (f.vid v) x) := T4.out.later hb5
  obtain ⟨a5, n5, e5, rfl⟩ := src_form ho5.src
  have O5 : Hid (Own W5 w.heap.size (.slice a5 n5 e5) l ∧ ∀ k, (Value.slice a5 n5 e5).ownBlock = some k → w.heap.size + 1 < k) := ⟨ho5.base (by have := T4.out.below.size; exact this), fun k hk => by have h1 := (ho5.block k hk).1; have h2 := T4.out.z.lt; omega⟩
  have d16 := T5.out.fr.c16
  have lv5 := T5.out.fr.live
  have h6 : Two w (W5.setCell ⟨w.heap.size, 16, none⟩ (.slice a5 n5 e5)) (f.vid v) (.slice a5 n5 e5) := ⟨T5.out.fr.rest _, T5.out.z.apart (by simp) _, T5.out.below.setCell (by simp) _⟩
  have ld6 := h6.fr.ld
  have st6 := h6.z.st (g := f.vid v) (y := .slice a5 n5 e5) rfl
  have HZ : Hid _ := And.intro (h6.z.set (g := f.vid v) (y := .slice a5 n5 e5)) (h6.zeroBelow (fcs (f.vid v) (.slice a5 n5 e5)))
  clear ho5 hb5 T4 S4 c16 h6 k13 k14 k15 lv l25 T2
  go_wp2
  refine bodyPost_ret (results_two Try.results58 _ _ _ _ _ _ rfl rfl HZ.out.1) rfl ?_
  refine rt_ok HE.out ?_ HZ.out.2
  refine O5.out.1.of_block fun k hk => ?_
  have := O5.out.2 k hk
  rw [setRow_other _ _ _ _ (by omega), heap_setCell_other _ _ _ _ (by simp; omega)]

theorem retag_any (f : Fr) (x : Value) (l : List Int) (v : Int) (w : World) (h : Src w x l) (hb : ∀ x ∈ l, 0 ≤ x ∧ x ≤ 255) (hf : f.ok) :
    Calls Try.prog 58 #[.agg (fcs f x), .int .i64 v] w fun r w' => RtOut f l v w r w' := by
  by_cases he : chkF f l = 0
  · cases ht : f.t
    · exact retag_plain f x l v w h hb hf he ht
    · by_cases hv : 1 ≤ v ∧ v ≤ 4094
      · exact retag_yes f x l v w h hb hf he ht hv
      · exact retag_far f x l v w h hb hf he ht hv
  · exact retag_no f x l v w h hb hf he
end S4
end

end Go.Proofs.Ytgjagedngdhdaaa
