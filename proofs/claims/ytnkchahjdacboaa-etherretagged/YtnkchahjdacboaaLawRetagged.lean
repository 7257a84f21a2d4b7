/-
  EtherRetagged: what is retagged has the same bytes but for its VLAN's, can be undone, and is one's own: the walk.
-/
import Derived.Test.YtnkchahjdacboaaStart
import Derived.Test.YtnkchahjdacboaaBackF
namespace Go.Proofs.Ytnkchahjdacboaa
set_option linter.unusedVariables false
set_option linter.unusedSimpArgs false
open Go.RowKit

theorem slS_low (b o n c k : Nat) (hk : k ≤ n) (hc : n ≤ c) (hm : c ≤ maxLen) (w : World) : (slS (.slice (some ⟨b, o, none⟩) n c) none (some (.int .i64 (k : Nat))) none).run Try.prog w = .ok (.slice (some ⟨b, o, none⟩) k c) w := by
  unfold slS maxLen at *
  have h1 : (k : Int) ≤ (n : Int) := by omega
  have h2 : (n : Int) ≤ (c : Int) := by omega
  have h3 : (k : Int) ≤ (c : Int) := by omega
  go_simp

attribute [local go_sem ↓] slS_eq ldS23 ldS25 ldS28 stS28 nqS_eq eqS_eq eqM_eq

theorem vid_kd (f : Fr) (v : Int) : (f.vid v).d = f.d ∧ (f.vid v).s = f.s ∧ (f.vid v).t = f.t ∧ (f.vid v).p = f.p ∧ (f.vid v).e = f.e ∧ (f.vid v).v = v := ⟨rfl, rfl, rfl, rfl, rfl, rfl⟩
theorem vid_back (f : Fr) (v : Int) : (f.vid v).vid f.v = f := rfl
theorem vid_ok {f : Fr} (h : f.ok) (v : Int) : (f.vid v).ok := h

theorem rt_zero {f : Fr} {l : List Int} {v : Int} (h : rtE f l v = 0) : chkF f l = 0 ∧ f.t = true ∧ 1 ≤ v ∧ v ≤ 4094 := by
  unfold rtE at h
  by_cases h1 : chkF f l = 0
  · rw [if_pos h1] at h
    cases ht : f.t
    · rw [ht] at h; simp at h
    · rw [ht, if_pos rfl] at h
      by_cases h2 : 1 ≤ v ∧ v ≤ 4094
      · exact ⟨h1, rfl, h2⟩
      · rw [if_neg h2] at h; omega
  · rw [if_neg h1] at h; exact absurd h h1

theorem vid_chk {f : Fr} {l : List Int} {v : Int} (h : chkF f l = 0) (ht : f.t = true) (hv : 1 ≤ v ∧ v ≤ 4094) : chkF (f.vid v) l = 0 := by
  have hk := (chk_zero h).2.1 ht
  have hk2 : tagOk f.p v = true := tagOk_iff.2 (by have := tagOk_iff.1 hk; omega)
  unfold chkF at *
  by_cases h1 : 1502 < l.length
  · rw [if_pos h1] at h; omega
  · rw [if_neg h1] at h ⊢
    have e : badF (f.vid v) l = badF f l := by
      unfold badF
      show ((f.s.kd != 1) || ((f.d.kd == 6) || (decide (l.length < 2) || (if f.t then !tagOk f.p v else !fz (f.vid v) || tyN l == 34984)))) = _
      rw [ht, hk, hk2, if_pos rfl, if_pos rfl]
    rw [e]
    exact h

/-- A tagged frame's bytes. -/
theorem enc_tagged {f : Fr} {l : List Int} (ht : f.t = true) : encL f l = (f.d.l ++ f.s.l ++ [136, 168]) ++ (tagN f.p f.e f.v / 256 :: tagN f.p f.e f.v % 256 :: l) := by
  unfold encL tgL tagL
  rw [ht]
  simp
theorem enc_cut {f : Fr} {l : List Int} (ht : f.t = true) : (encL f l).take 14 = f.d.l ++ f.s.l ++ [136, 168] ∧ (encL f l).drop 16 = l ∧ (encL f l).getD 14 0 = tagN f.p f.e f.v / 256 ∧ (encL f l).length = 16 + l.length := by
  rw [enc_tagged ht]
  obtain ⟨⟨a, b, c, d, e, g⟩, ⟨a', b', c', d', e', g'⟩, t, p, q, v⟩ := f
  refine ⟨rfl, rfl, rfl, ?_⟩
  simp [M6.l]
  omega

/-- All but row g is as W was; row g has n bytes. -/
structure Flip (W wr : World) (g n : Nat) : Prop where
  os : wr.os = W.os
  tape : wr.tape = W.tape
  output : wr.output = W.output
  size : wr.heap.size = W.heap.size
  rest : ∀ k, k ≠ g → wr.heap[k]? = W.heap[k]?
  row : ∃ cur : Array Value, wr.heap[g]? = some (.cells cur 5 (0, 0)) ∧ ∀ j, j < n → ∃ u : Int, cur[j]? = some (.int .u8 u)
theorem Flip.start {W : World} {B g n cp : Nat} {l : List Int} (h : Own W B (.slice (some ⟨g, 0, none⟩) n cp) l) : Flip W W g n := by
  refine ⟨rfl, rfl, rfl, rfl, fun _ _ => rfl, ?_⟩
  obtain ⟨h1, ⟨h2, _⟩ | ⟨g', cap, cur, h2, _, hg, hn, _, hcur, ht⟩⟩ := h
  · cases h2
  · cases h2
    refine ⟨cur, hg, fun j hj => ?_⟩
    have hj' : (cur.toList.take (l.length * 1))[j]? = (l.map (Value.int .u8))[j]? := by rw [ht]
    rw [List.getElem?_take_of_lt (by omega), List.getElem?_map, List.getElem?_eq_getElem hj] at hj'
    exact ⟨_, by simpa using hj'⟩
theorem Flip.cell {W wr : World} {g n : Nat} (h : Flip W wr g n) (j : Nat) (hj : j < n) : ∃ u : Int, wr.cell? ⟨g, j, none⟩ = some (.int .u8 u) := by
  obtain ⟨cur, h1, h2⟩ := h.row
  obtain ⟨u, hu⟩ := h2 j hj
  exact ⟨u, by simp [World.cell?, h1, hu]⟩
theorem Flip.live {W wr : World} {g n : Nat} (h : Flip W wr g n) (j : Nat) : wr.frozen? ⟨g, j, none⟩ = false := by
  obtain ⟨cur, h1, h2⟩ := h.row
  simp [World.frozen?, h1]
theorem Flip.set {W wr : World} {g n : Nat} (h : Flip W wr g n) (j : Nat) (v : Int) : Flip W (wr.setCell ⟨g, j, none⟩ (.int .u8 v)) g n := by
  obtain ⟨cur, h1, h2⟩ := h.row
  refine ⟨h.os, h.tape, h.output, by simpa using h.size, fun k hk => (heap_setCell_other _ _ _ _ hk).trans (h.rest k hk), _, heap_setCell_same wr g j cur 5 (.int .u8 v) h1, ?_⟩
  intro i hi
  obtain ⟨u, hu⟩ := h2 i hi
  by_cases e : j = i
  · subst e
    have : j < cur.size := by
      rcases Nat.lt_or_ge j cur.size with h | h
      · exact h
      · rw [Array.getElem?_eq_none h] at hu; cases hu
    exact ⟨v, by simp [this]⟩
  · exact ⟨u, by simp [e, hu]⟩
theorem Flip.below {W wr : World} {g n B : Nat} (h : Flip W wr g n) (hB : B ≤ g) : Below B W wr := ⟨h.os, h.tape, h.output, by rw [h.size]; exact Nat.le_refl _, fun i hi => h.rest i (by omega)⟩
theorem Flip.fr {W wr : World} {g n b : Nat} {f : Fr} {x : Value} (h : Flip W wr g n) (hF : FrAt W b f x) (hb : b ≠ g) : FrAt wr b f x := (h.rest b hb).trans hF

set_option maxHeartbeats 2000000 in
theorem EtherRetagged_walk (f : Fr) (x : Value) (l : List Int) (v : Int) (w : World) (hf : f.ok) (h : Src w x l) (hb : ∀ x ∈ l, 0 ≤ x ∧ x ≤ 255) (wv : (Lit.int .i64 v).wf = true) :
    Calls Try.prog 7 #[.agg (fcs f x), .int .i64 v] w fun r w' => r = .returned (.bool true) ∧ Below w.heap.size w w' := by
  clear wv
  have hF := FrAt.new w f x
  have hB : Below w.heap.size w (w.alloc (.cells (fcs f x) 28)) := (Below.refl _ _).alloc (Nat.le_refl _) _
  have ld := hF.ld
  have H : Hid (Src w x l ∧ f.ok ∧ ∀ x ∈ l.take 1600, 0 ≤ x ∧ x ≤ 255) := ⟨h, hf, take_b hb 1600⟩
  have N0 : Hid (FrAt (w.alloc (.cells (fcs f x) 28)) w.heap.size f x ∧ Below w.heap.size w (w.alloc (.cells (fcs f x) 28))) := ⟨hF, hB⟩
  clear h hf hb hF hB
  go_enter Try.func7, Try.ntmps7
  go_wp2_with fail
  refine (light_any f x l w _ H.out.1).mono ?_
  rintro _ w1 ⟨y, rfl, s1, b1⟩
  obtain ⟨L, hL⟩ : ∃ L, l.take 1600 = L := ⟨_, rfl⟩
  rw [hL] at s1 H
  obtain ⟨W1, st1, F1, B1, _, _⟩ := (N0.out.1.below b1).stx (w := w) (g := f) (y := y) (src_one s1) (Nat.le_refl _) (below_over N0.out.2 b1)
  have N1 : Hid (FrAt W1 w.heap.size f y ∧ Below w.heap.size w W1) := ⟨F1, B1⟩
  have SY : Hid (Src w y L) := s1
  have l1 := F1.ld
  have c1 := F1.c16
  have q1 := (SY.out.below B1).string
  clear s1 b1 F1 B1 N0 ld hL
  go_wp2_with fail
  refine (retag_any f y L v _ (SY.out.below N1.out.2) H.out.2.2 H.out.2.1).mono ?_
  rintro _ w2 ⟨s2, rfl, o2, b2⟩
  obtain ⟨W2, st2, F2, B2⟩ := store_new w2 (rtF f L v) s2 (src_one o2.src)
  have e2 := below_over b2 B2
  have N2 : Hid (FrAt W2 w.heap.size f y ∧ FrAt W2 w2.heap.size (rtF f L v) s2 ∧ Below w.heap.size w W2 ∧ w.heap.size < w2.heap.size) := ⟨N1.out.1.below e2, F2, below_over N1.out.2 e2, by have h1 := N1.out.1.lt; have h2 := b2.size; omega⟩
  have O2 : Hid (Own W2 W1.heap.size s2 (rtR f L v) ∧ ∀ k, s2.ownBlock = some k → k < w2.heap.size) := ⟨o2.below B2, fun k hk => (o2.block k hk).2⟩
  by_cases hE : rtE f L v = 0
  · obtain ⟨z1, z2, z3⟩ := rt_zero hE
    have HZ : Hid (chkF f L = 0 ∧ f.t = true ∧ 1 ≤ v ∧ v ≤ 4094) := ⟨z1, z2, z3⟩
    have er : rtR f L v = L := by unfold rtR; rw [if_pos hE]
    have ef : rtF f L v = f.vid v := by unfold rtF; rw [if_pos hE]
    rw [er] at O2
    rw [ef] at N2 st2 ⊢
    rw [hE]
    have l2 := N2.out.1.ld
    clear o2 b2 F2 B2 e2 l1 c1 q1 st1 hE z1 z2 z3 er ef
    go_wp2_with fail
    refine (encode_any f y L _ (SY.out.below N2.out.2.2.1) H.out.2.2 H.out.2.1).mono ?_
    rintro _ w3 ⟨s3, rfl, o3, b3⟩
    rw [HZ.out.1]
    rw [show encO f L = encL f L from if_pos HZ.out.1] at o3
    have N3 : Hid (FrAt w3 w.heap.size f y ∧ FrAt w3 w2.heap.size (f.vid v) s2 ∧ Below w.heap.size w w3) := ⟨N2.out.1.below b3, N2.out.2.1.below b3, below_over N2.out.2.2.1 b3⟩
    have O3 : Hid (Own w3 W1.heap.size s2 L ∧ Own w3 W2.heap.size s3 (encL f L)) := ⟨O2.out.1.below b3, o3⟩
    have l3 := N3.out.2.1.ld
    clear o3 b3 l2 st2
    go_wp2_with fail
    refine (encode_any (f.vid v) s2 L _ O3.out.1.src H.out.2.2 (vid_ok H.out.2.1 v)).mono ?_
    rintro _ w4 ⟨s4, rfl, o4, b4⟩
    have hc := vid_chk HZ.out.1 HZ.out.2.1 HZ.out.2.2
    rw [hc]
    rw [show encO (f.vid v) L = encL (f.vid v) L from if_pos hc] at o4
    have N4 : Hid (FrAt w4 w.heap.size f y ∧ FrAt w4 w2.heap.size (f.vid v) s2 ∧ Below w.heap.size w w4) := ⟨N3.out.1.below b4, N3.out.2.1.below b4, below_over N3.out.2.2 b4⟩
    have O4 : Hid (Own w4 W1.heap.size s2 L ∧ Own w4 W2.heap.size s3 (encL f L) ∧ Own w4 w3.heap.size s4 (encL (f.vid v) L)) := ⟨O3.out.1.below b4, O3.out.2.below b4, o4⟩
    clear b4 l3 hc N3 O3 o4
    obtain ⟨p1, p2, p3, p4⟩ := enc_cut (l := L) HZ.out.2.1
    obtain ⟨r1, r2, r3, r4⟩ := enc_cut (f := f.vid v) (l := L) HZ.out.2.1
    obtain ⟨a3, n3, c3, rfl⟩ := src_form O4.out.2.1.src
    obtain ⟨a4, n4, c4, rfl⟩ := src_form O4.out.2.2.src
    have t3 := O4.out.2.1.src
    have t4 := O4.out.2.2.src
    obtain ⟨x3, x3c, x3m⟩ := src_short t3
    obtain ⟨x4, x4c, x4m⟩ := src_short t4
    have hL2 := (chk_zero HZ.out.1)
    obtain ⟨g3, o3, rfl, g3l, j3⟩ := src_some t3 (by omega)
    obtain ⟨g4, o4, rfl, g4l, j4⟩ := src_some t4 (by omega)
    have k3 := j3 14 (by omega)
    have k4 := j4 14 (by omega)
    rw [p3] at k3
    rw [r3] at k4
    have v15 := N4.out.2.1.c15
    rw [show (f.vid v).v = v from rfl] at v15
    obtain ⟨P14, hP⟩ : ∃ P, bs (f.d.l ++ f.s.l ++ [136, 168]) = P := ⟨_, rfl⟩
    obtain ⟨PL, hPL⟩ : ∃ P, bs L = P := ⟨_, rfl⟩
    have hs3 : ∀ W, (slS (.slice (some ⟨g3, o3, none⟩) n3 c3) none (some (.int .i64 14)) none).run Try.prog W = .ok (.slice (some ⟨g3, o3, none⟩) 14 c3) W := fun W => slS_low g3 o3 n3 c3 14 (by omega) x3c x3m W
    have hs4 : ∀ W, (slS (.slice (some ⟨g4, o4, none⟩) n4 c4) none (some (.int .i64 14)) none).run Try.prog W = .ok (.slice (some ⟨g4, o4, none⟩) 14 c4) W := fun W => slS_low g4 o4 n4 c4 14 (by omega) x4c x4m W
    have hd3 : ∀ W, (slS (.slice (some ⟨g3, o3, none⟩) n3 c3) (some (.int .i64 16)) none none).run Try.prog W = .ok (dropV g3 o3 n3 c3 16) W := fun W => slS_drop g3 o3 n3 c3 16 (by omega) x3c x3m W
    have hd4 : ∀ W, (slS (.slice (some ⟨g4, o4, none⟩) n4 c4) (some (.int .i64 16)) none none).run Try.prog W = .ok (dropV g4 o4 n4 c4 16) W := fun W => slS_drop g4 o4 n4 c4 16 (by omega) x4c x4m W
    have u3 : ∀ k, (convert 26 9 (.slice (some ⟨g3, o3, none⟩) 14 c3)).run Try.prog (w4.drewN k) = .ok (.string P14) (w4.drewN k) := fun k => by rw [← hP, ← p1]; exact ((t3.take 14 (by omega) (by simp)).below (below_dn (Below.refl _ _) k)).string
    have u4 : ∀ k, (convert 26 9 (.slice (some ⟨g4, o4, none⟩) 14 c4)).run Try.prog (w4.drewN k) = .ok (.string P14) (w4.drewN k) := fun k => by rw [← hP]; have := ((t4.take 14 (by omega) (by simp)).below (below_dn (Below.refl _ _) k)).string; rw [r1] at this; exact this
    have d3 : ∀ k, (convert 26 9 (dropV g3 o3 n3 c3 16)).run Try.prog (w4.drewN k) = .ok (.string PL) (w4.drewN k) := fun k => by have := ((src_dropV t3 16 (by omega)).below (below_dn (Below.refl _ _) k)).string; rw [p2, hPL] at this; exact this
    have d4 : ∀ k, (convert 26 9 (dropV g4 o4 n4 c4 16)).run Try.prog (w4.drewN k) = .ok (.string PL) (w4.drewN k) := fun k => by have := ((src_dropV t4 16 (by omega)).below (below_dn (Below.refl _ _) k)).string; rw [r2, hPL] at this; exact this
    have hnn : n4 = n3 := by omega
    subst hnn
    have i1 : ¬ (n4 : Int) < 18 := by omega
    have i2 : (14 : Int) < (n4 : Int) := by omega
    have HP : Hid (bs L = PL) := hPL
    clear t3 t4 j3 j4 g3l g4l p1 p2 p3 p4 r1 r2 r3 r4 x3 x4 hP hPL hL2
    have hk0 := tagOk_iff.1 ((chk_zero HZ.out.1).2.1 HZ.out.2.1)
    have hd0 := bitN_lt f.e
    have hv0 := HZ.out.2.2
    have hsh : tagN f.p f.e f.v / 256 / 16 = tagN (f.vid v).p (f.vid v).e (f.vid v).v / 256 / 16 := by
      show tagN f.p f.e f.v / 256 / 16 = tagN f.p f.e v / 256 / 16
      unfold tagN
      omega
    have hr3 : 0 ≤ tagN f.p f.e f.v / 256 ∧ tagN f.p f.e f.v / 256 ≤ 255 := by unfold tagN; omega
    have hr4 : 0 ≤ tagN (f.vid v).p (f.vid v).e (f.vid v).v / 256 ∧ tagN (f.vid v).p (f.vid v).e (f.vid v).v / 256 ≤ 255 := by
      show 0 ≤ tagN f.p f.e v / 256 ∧ tagN f.p f.e v / 256 ≤ 255
      unfold tagN
      omega
    obtain ⟨A3, hA3⟩ : ∃ A, tagN f.p f.e f.v / 256 = A := ⟨_, rfl⟩
    obtain ⟨A4, hA4⟩ : ∃ A, tagN (f.vid v).p (f.vid v).e (f.vid v).v / 256 = A := ⟨_, rfl⟩
    rw [hA3] at k3 hsh hr3
    rw [hA4] at k4 hsh hr4
    obtain ⟨hr3a, hr3b⟩ := hr3
    obtain ⟨hr4a, hr4b⟩ := hr4
    clear hk0 hd0 hv0 hA3 hA4
    go_wp2
    go_quiet (fail)
    have N5 : Hid (FrAt (w4.drewN nq) w.heap.size f y ∧ FrAt (w4.drewN nq) w2.heap.size (f.vid v) s2 ∧ Below w.heap.size w (w4.drewN nq)) := by
      have hb := below_dn (Below.refl w4.heap.size w4) nq
      exact ⟨N4.out.1.below hb, N4.out.2.1.below hb, below_over N4.out.2.2 hb⟩
    have O5 : Hid (Own (w4.drewN nq) W1.heap.size s2 L) := O4.out.1.below (below_dn (Below.refl w4.heap.size w4) nq)
    obtain ⟨W5, hW5⟩ : ∃ W, w4.drewN nq = W := ⟨_, rfl⟩
    rw [hW5] at N5 O5 ⊢
    clear hW5 N4 O4 hs3 hs4 hd3 hd4 u3 u4 d3 d4 k3 k4 v15 hsh hr3a hr3b hr4a hr4b i2 x3m x4m x3c x4c
    have l5 := N5.out.2.1.ld
    have k15 := N5.out.1.c15
    go_wp2_with fail
    refine (retag_any (f.vid v) s2 L f.v _ O5.out.src H.out.2.2 (vid_ok H.out.2.1 v)).mono ?_
    rintro _ w6 ⟨s6, rfl, o6, b6⟩
    have hk := (chk_zero HZ.out.1).2.1 HZ.out.2.1
    have hkk := tagOk_iff.1 hk
    have hE6 : rtE (f.vid v) L f.v = 0 := by
      unfold rtE
      rw [if_pos (vid_chk HZ.out.1 HZ.out.2.1 HZ.out.2.2), show (f.vid v).t = true from HZ.out.2.1, if_pos rfl, if_pos (by omega)]
    have hF6 : rtF (f.vid v) L f.v = f := by unfold rtF; rw [if_pos hE6]; rfl
    have hR6 : rtR (f.vid v) L f.v = L := by unfold rtR; rw [if_pos hE6]
    rw [hF6, hE6]
    rw [hR6] at o6
    obtain ⟨W6, st6, F6, E6⟩ := store_new w6 f s6 (src_one o6.src)
    have e6 := below_over b6 E6
    have N6 : Hid (FrAt W6 w.heap.size f y ∧ FrAt W6 w2.heap.size (f.vid v) s2 ∧ Below w.heap.size w W6) := ⟨N5.out.1.below e6, N5.out.2.1.below e6, below_over N5.out.2.2 e6⟩
    have l6 := F6.ld
    have l7 := N6.out.1.ld
    have HS : Hid _ := sameref_any f f s6 y L L W6 (o6.src.below E6) (SY.out.below N6.out.2.2)
    rw [same_self] at HS
    have O6 : Hid (Own W6 W1.heap.size s2 L) := O5.out.below e6
    clear o6 b6 F6 E6 e6 N5 O5 l5 k15 hk hkk hE6 hF6 hR6
    go_wp2_with fail
    refine Calls.mono HS.out ?_
    rintro _ W7 ⟨rfl, b7⟩
    have N7 : Hid (FrAt W7 w.heap.size f y ∧ FrAt W7 w2.heap.size (f.vid v) s2 ∧ Below w.heap.size w W7) := ⟨N6.out.1.below b7, N6.out.2.1.below b7, below_over N6.out.2.2 b7⟩
    have O7 : Hid (Own W7 W1.heap.size s2 L) := O6.out.below b7
    clear b7 N6 O6 l6 l7 HS st6
    obtain ⟨g, cp, rfl, hg, hlt⟩ := World.ownsRow.form O7.out (by have := (chk_zero HZ.out.1).2.2; omega)
    have HG : Hid (w.heap.size < g ∧ g ≠ w2.heap.size ∧ g ≠ w.heap.size) := by
      have h1 := N1.out.1.lt
      have h2 := O2.out.2 g rfl
      show _ ∧ _ ∧ _
      omega
    have F7 : Hid (Flip W7 W7 g L.length) := Flip.start O7.out
    obtain ⟨n, hn⟩ : ∃ n, L.length = n := ⟨_, rfl⟩
    have hL2 := (chk_zero HZ.out.1).1
    rw [hn] at F7 N7 hL2 ⊢
    have HL2 : Hid (n ≤ 1502) := hL2
    clear hg hlt hn hL2 O7 i1
    go_wp2
    go_loopw [14] (fun v14 wr => ∃ j : Nat, j ≤ n ∧ v14 = .int .i64 j ∧ Flip W7 wr g n) (fun v14 _ => n - (intOf v14).toNat)
    case atStart => exact ⟨0, by omega, rfl, F7.out⟩
    case round =>
      obtain ⟨j, hj, rfl, fj⟩ := hrel
      have c6 := (fj.fr N7.out.2.1 (by have := HG.out; omega)).c16
      by_cases hlt : j < n
      · obtain ⟨u, hu⟩ := fj.cell j hlt
        have lv := fj.live
        have FJ : Hid (Flip W7 wr g n) := fj
        have i0 : (0 : Int) ≤ (j : Int) := by omega
        have i1 : (j : Int) < (n : Int) := by omega
        have i2 : (j : Int) < 1502 := by have := HL2.out; omega
        clear fj
        go_wp2
        go_roundw
        case rel => exact ⟨j + 1, by omega, by go_num, FJ.out.set j _⟩
        case measure => simp [intOf]; omega
      · have : j = n := by omega
        subst this
        have B8 : Hid (Below w.heap.size w wr) := N7.out.2.2.trans (fj.below (by have := HG.out; omega))
        have c8 := (fj.fr N7.out.1 (by have := HG.out; omega)).c16
        have q8 := (SY.out.below B8.out).string
        clear fj
        go_wp2_with fail
        refine Calls.on_later (awake_any _) ?_
        intro y9
        go_wp2
        go_ret
        exact ⟨rfl, below_later B8.out y9⟩
  · obtain ⟨E, hEE⟩ : ∃ E, rtE f L v = E := ⟨_, rfl⟩
    rw [hEE] at hE ⊢
    have hE' : (E != 0) = true := by simpa using hE
    clear hE hEE o2 b2 F2 B2 e2 l1 c1 q1 st1
    go_wp2_with fail
    refine Calls.on_later (awake_any _) ?_
    intro y9
    go_wp2
    go_ret
    exact ⟨rfl, below_later N2.out.2.2.1 y9⟩
end Go.Proofs.Ytnkchahjdacboaa
