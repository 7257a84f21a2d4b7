/-
  The walk of decoding: for all bytes.
-/
import Derived.Test.YtnkchahjdacboaaDec
namespace Go.Proofs.Ytnkchahjdacboaa
set_option linter.unusedVariables false
set_option linter.unusedSimpArgs false
open Go.RowKit

attribute [local go_sem ↓] ldS23 ldS25 ldS28 stS28 nqS_eq eqS_eq eqM_eq

set_option maxHeartbeats 1000000 in
theorem decode_short (x : Value) (l : List Int) (w : World) (h : Src w x l) (hb : ∀ x ∈ l, 0 ≤ x ∧ x ≤ 255) (hs : shortB l = true) :
    Calls Try.prog 14 #[x] w fun r w' => DcOut l w r w' := by
  have hz := zero_new w
  have hB : Below w.heap.size w (w.alloc (.cells #[.int .u8 0, .int .u8 0, .int .u8 0, .int .u8 0, .int .u8 0, .int .u8 0, .int .u8 0, .int .u8 0, .int .u8 0, .int .u8 0, .int .u8 0, .int .u8 0, .bool false, .int .i64 0, .bool false, .int .i64 0, .slice none 0 0] 28)) := (Below.refl _ _).alloc (Nat.le_refl _) _
  have HE : Hid (dcE l = 6) := by unfold dcE; rw [hs, if_pos rfl]; rfl
  have hk := short_any x l _ (h.below hB) hb
  rw [hs] at hk
  have HK : Hid _ := hk
  have HZ : Hid (FrAt (w.alloc (.cells #[.int .u8 0, .int .u8 0, .int .u8 0, .int .u8 0, .int .u8 0, .int .u8 0, .int .u8 0, .int .u8 0, .int .u8 0, .int .u8 0, .int .u8 0, .int .u8 0, .bool false, .int .i64 0, .bool false, .int .i64 0, .slice none 0 0] 28)) w.heap.size zeroF (.slice none 0 0) ∧ Below w.heap.size w (w.alloc (.cells #[.int .u8 0, .int .u8 0, .int .u8 0, .int .u8 0, .int .u8 0, .int .u8 0, .int .u8 0, .int .u8 0, .int .u8 0, .int .u8 0, .int .u8 0, .int .u8 0, .bool false, .int .i64 0, .bool false, .int .i64 0, .slice none 0 0] 28))) := ⟨hz, hB⟩
  clear h hb hs hz hB hk
  go_enter Try.func14, Try.ntmps14
  go_wp2_with fail
  refine Calls.mono HK.out ?_
  rintro _ W ⟨rfl, hW⟩
  have f1 := HZ.out.1.below hW
  have st := f1.stv (g := zeroF) (y := .slice none 0 0) rfl _ rfl
  simp only [fcs, zeroF] at st
  have HH : Hid _ := And.intro (f1.set (g := zeroF) (y := .slice none 0 0)) (below_setRow (below_over HZ.out.2 hW) (Nat.le_refl _) (fcs zeroF (.slice none 0 0)))
  clear hW f1 HK HZ
  go_wp2
  refine bodyPost_ret (results_two Try.results14 _ _ _ _ _ _ rfl rfl HH.out.1) rfl ?_
  exact dc_err 6 HE.out (by omega) HH.out.2

set_option maxHeartbeats 2000000 in
theorem decode_plain (x : Value) (l : List Int) (w : World) (h : Src w x l) (hb : ∀ x ∈ l, 0 ≤ x ∧ x ≤ 255) (hl : l.length ≤ 1900) (hs : shortB l = false) (ht : dcT l = false) :
    Calls Try.prog 14 #[x] w fun r w' => DcOut l w r w' := by
  obtain ⟨h14, h18⟩ := shortB_iff.1 hs
  obtain ⟨a, n, c, rfl⟩ := src_form h
  have hz := zero_new w
  have hB : Below w.heap.size w (w.alloc (.cells #[.int .u8 0, .int .u8 0, .int .u8 0, .int .u8 0, .int .u8 0, .int .u8 0, .int .u8 0, .int .u8 0, .int .u8 0, .int .u8 0, .int .u8 0, .int .u8 0, .bool false, .int .i64 0, .bool false, .int .i64 0, .slice none 0 0] 28)) := (Below.refl _ _).alloc (Nat.le_refl _) _
  have hk := short_any (.slice a n c) l _ (h.below hB) hb
  rw [hs] at hk
  have HK : Hid _ := hk
  have HZ : Hid (FrAt (w.alloc (.cells #[.int .u8 0, .int .u8 0, .int .u8 0, .int .u8 0, .int .u8 0, .int .u8 0, .int .u8 0, .int .u8 0, .int .u8 0, .int .u8 0, .int .u8 0, .int .u8 0, .bool false, .int .i64 0, .bool false, .int .i64 0, .slice none 0 0] 28)) w.heap.size zeroF (.slice none 0 0) ∧ Below w.heap.size w (w.alloc (.cells #[.int .u8 0, .int .u8 0, .int .u8 0, .int .u8 0, .int .u8 0, .int .u8 0, .int .u8 0, .int .u8 0, .int .u8 0, .int .u8 0, .int .u8 0, .int .u8 0, .bool false, .int .i64 0, .bool false, .int .i64 0, .slice none 0 0] 28))) := ⟨hz, hB⟩
  have H : Hid (Src w (.slice a n c) l ∧ (∀ x ∈ l, 0 ≤ x ∧ x ≤ 255) ∧ 14 ≤ l.length ∧ l.length ≤ 1900 ∧ (dcT l = true → 18 ≤ l.length)) := ⟨h, hb, h14, hl, h18⟩
  have HT : Hid (dcT l = false) := ht
  have HE : Hid (dcE l = chkF (rawF l) (rawR l)) := by unfold dcE; rw [hs, if_neg (by simp)]; rfl
  clear h hb hs hz hB hk h14 h18 ht hl
  go_enter Try.func14, Try.ntmps14
  go_wp2_with fail
  refine Calls.mono HK.out ?_
  rintro _ W ⟨rfl, hW⟩
  have D0 : Hid (Dec w (W.alloc (.cells #[.int .u8 0, .int .u8 0, .int .u8 0, .int .u8 0, .int .u8 0, .int .u8 0, .int .u8 0, .int .u8 0, .int .u8 0, .int .u8 0, .int .u8 0, .int .u8 0, .bool false, .int .i64 0, .bool false, .int .i64 0, .slice none 0 0] 28)) W.heap.size zeroF (.slice none 0 0)) := Dec.start (HZ.out.1.below hW) (below_over HZ.out.2 hW)
  have hN : Hid (W.heap.size < (W.alloc (.cells #[.int .u8 0, .int .u8 0, .int .u8 0, .int .u8 0, .int .u8 0, .int .u8 0, .int .u8 0, .int .u8 0, .int .u8 0, .int .u8 0, .int .u8 0, .int .u8 0, .bool false, .int .i64 0, .bool false, .int .i64 0, .slice none 0 0] 28)).heap.size) := by show _ < _; simp
  clear hW HK HZ
  obtain ⟨B, hBB⟩ : ∃ B, W.heap.size = B := ⟨_, rfl⟩
  go_wp2_with fail
  refine (cutk_base a n c 6 l w _ H.out.1 (by have := H.out.2.2.1; omega) (by omega)).mono ?_
  rintro _ W1 ⟨b1, m1, d1, a1, n1, c1, rfl, s1, t1, hb1⟩
  have D1 : Hid (Dec w W1 B zeroF (.slice none 0 0)) := by rw [← hBB]; exact D0.out.later hb1
  have S1 : Hid (Src w (.slice b1 m1 d1) (m6 l 0).l) := by rw [← list6 (l := l) (k := 0) (by have := H.out.2.2.1; omega)]; exact s1
  have T1 : Hid (Src w (.slice a1 n1 c1) (l.drop 6)) := t1
  clear s1 t1 hb1 D0 hN hBB W
  go_wp2_with fail
  refine (cutk_base a1 n1 c1 6 (l.drop 6) w _ T1.out (by have := H.out.2.2.1; simp; omega) (by omega)).mono ?_
  rintro _ W2 ⟨b2, m2, d2, a2, n2, c2, rfl, s2, t2, hb2⟩
  have D2 : Hid (Dec w W2 B zeroF (.slice none 0 0)) := D1.out.later hb2
  have S2 : Hid (Src w (.slice b2 m2 d2) (m6 l 6).l) := by rw [← list6 (l := l) (k := 6) (by have := H.out.2.2.1; omega)]; exact s2
  have T2 : Hid (Src w (.slice a2 n2 c2) (l.drop 12)) := by have := t2; rw [List.drop_drop] at this; exact this
  have hc1 := copy_d D2.out.fr (S1.out.below D2.out.below)
  have D3 : Hid (Dec w (W2.setRow B (fcs ⟨m6 l 0, zeroF.s, zeroF.t, zeroF.p, zeroF.e, zeroF.v⟩ (.slice none 0 0))) B ⟨m6 l 0, zeroF.s, zeroF.t, zeroF.p, zeroF.e, zeroF.v⟩ (.slice none 0 0)) := D2.out.row _ _
  have hc2 := copy_s D3.out.fr (S2.out.below D3.out.below)
  have D4 : Hid (Dec w ((W2.setRow B (fcs ⟨m6 l 0, zeroF.s, zeroF.t, zeroF.p, zeroF.e, zeroF.v⟩ (.slice none 0 0))).setRow B (fcs ⟨m6 l 0, m6 l 6, zeroF.t, zeroF.p, zeroF.e, zeroF.v⟩ (.slice none 0 0))) B ⟨m6 l 0, m6 l 6, zeroF.t, zeroF.p, zeroF.e, zeroF.v⟩ (.slice none 0 0)) := D3.out.row _ _
  clear s2 t2 hb2 D1 S1 T1 D2
  have HN : Hid _ := fun W (hW : Below w.heap.size w W) => number_any (.slice a2 n2 c2) (l.drop 12) W (T2.out.below hW) (fun x hx => H.out.2.1 x (List.mem_of_mem_drop hx))
  obtain ⟨N, hNN⟩ : ∃ N, tyN (l.drop 12) = N := ⟨_, rfl⟩
  rw [hNN] at HN
  have hq : (N == 34984) = false := by rw [← hNN]; exact HT.out
  clear hNN
  go_wp2_with fail
  refine Calls.mono (HN.out _ D4.out.below) ?_
  rintro _ W4 ⟨rfl, hb4⟩
  have D5 : Hid (Dec w W4 B ⟨m6 l 0, m6 l 6, zeroF.t, zeroF.p, zeroF.e, zeroF.v⟩ (.slice none 0 0)) := D4.out.later hb4
  have k12 := D5.out.fr.c12
  have lv5 := D5.out.fr.live
  have D6 : Hid (Dec w (W4.setCell ⟨B, 12, none⟩ (.bool false)) B ⟨m6 l 0, m6 l 6, false, zeroF.p, zeroF.e, zeroF.v⟩ (.slice none 0 0)) := D5.out.cell (D5.out.fr.flag false)
  have m12 := D6.out.fr.c12
  clear hb4 hc1 hc2 D4 HN
  have m16 := D6.out.fr.c16
  have lv6 := D6.out.fr.live
  have D7 : Hid (Dec w ((W4.setCell ⟨B, 12, none⟩ (.bool false)).setCell ⟨B, 16, none⟩ (.slice a2 n2 c2)) B ⟨m6 l 0, m6 l 6, false, zeroF.p, zeroF.e, zeroF.v⟩ (.slice a2 n2 c2)) := D6.out.cell (D6.out.fr.rest _)
  have EF : Hid ((⟨m6 l 0, m6 l 6, false, zeroF.p, zeroF.e, zeroF.v⟩ : Fr) = rawF l ∧ rawR l = l.drop 12) := by
    unfold rawF rawR
    rw [HT.out]
    exact ⟨rfl, rfl⟩
  have l7 := D7.out.fr.ld
  rw [EF.out.1] at D7 l7
  have S7 : Hid (Src w (.slice a2 n2 c2) (rawR l)) := by rw [EF.out.2]; exact T2.out
  have HC : Hid _ := check_fr (rawF l) (.slice a2 n2 c2) (rawR l) _ (S7.out.below D7.out.below) (by rw [EF.out.2]; exact fun x hx => H.out.2.1 x (List.mem_of_mem_drop hx)) (rawF_ok H.out.2.1)
  have HL : Hid ((rawR l).length ≤ 2000) := by have := H.out.2.2.2.1; rw [EF.out.2]; show _ ≤ _; simp; omega
  clear T2 D6 EF
  obtain ⟨E, hE⟩ : ∃ E, chkF (rawF l) (rawR l) = E := ⟨_, rfl⟩
  rw [hE] at HC HE
  clear hE
  by_cases he : E = 0
  · subst he
    go_wp2_with fail
    refine Calls.mono HC.out ?_
    rintro _ W8 ⟨rfl, hb8⟩
    have D8 : Hid (Dec w W8 B (rawF l) (.slice a2 n2 c2)) := D7.out.later hb8
    have j16 := D8.out.fr.c16
    clear hb8 D7 l7 HC k12 lv5 m12 m16 lv6
    go_wp2_with fail
    refine (clone_v (.slice a2 n2 c2) (rawR l) _ (S7.out.below D8.out.below) HL.out).mono ?_
    rintro _ W9 ⟨s9, rfl, ho9, hb9⟩
    obtain ⟨a9, n9, c9, rfl⟩ := src_form ho9.src
    have D9 : Hid (Dec w W9 B (rawF l) (.slice a2 n2 c2)) := D8.out.later hb9
    have O9 : Hid (Own W9 w.heap.size (.slice a9 n9 c9) (rawR l) ∧ ∀ k, (Value.slice a9 n9 c9).ownBlock = some k → w.heap.size < k ∧ B < k) := ⟨ho9.base (by have := D8.out.below.size; exact this), fun k hk => by have h1 := (ho9.block k hk).1; have h2 := D8.out.fr.lt; have h3 := D8.out.z.lt; omega⟩
    have j16' := D9.out.fr.c16
    have lv9 := D9.out.fr.live
    have D10 : Hid (Dec w (W9.setCell ⟨B, 16, none⟩ (.slice a9 n9 c9)) B (rawF l) (.slice a9 n9 c9)) := D9.out.cell (D9.out.fr.rest _)
    have l10 := D10.out.fr.ld
    obtain ⟨st10, F10, B10⟩ := D10.out.whole rfl
    have HH : Hid _ := And.intro F10 B10
    clear ho9 hb9 D8 j16 F10 B10
    go_wp2
    refine bodyPost_ret (results_two Try.results14 _ _ _ _ _ _ rfl rfl HH.out.1) rfl ?_
    refine dc_ok HE.out ?_ HH.out.2
    refine O9.out.1.of_block fun k hk => ?_
    have := O9.out.2 k hk
    rw [setRow_other _ _ _ _ (by omega), heap_setCell_other _ _ _ _ (by simp; omega)]
  · have he' : (E != 0) = true := by simpa using he
    have HN0 : Hid (¬ E = 0) := he
    clear he
    go_wp2_with fail
    refine Calls.mono HC.out ?_
    rintro _ W8 ⟨rfl, hb8⟩
    have D8 : Hid (Dec w W8 B (rawF l) (.slice a2 n2 c2)) := D7.out.later hb8
    have z8 := D8.out.zero
    have HH : Hid _ := D8.out.zeroAt
    clear hb8 D7 l7 HC k12 lv5 m12 m16 lv6 D8
    go_wp2
    refine bodyPost_ret (results_two Try.results14 _ _ _ _ _ _ rfl rfl HH.out.1) rfl ?_
    exact dc_err E HE.out HN0.out HH.out.2

set_option maxHeartbeats 2000000 in
theorem decode_tagged (x : Value) (l : List Int) (w : World) (h : Src w x l) (hb : ∀ x ∈ l, 0 ≤ x ∧ x ≤ 255) (hl : l.length ≤ 1900) (hs : shortB l = false) (ht : dcT l = true) :
    Calls Try.prog 14 #[x] w fun r w' => DcOut l w r w' := by
  obtain ⟨h14, h18⟩ := shortB_iff.1 hs
  obtain ⟨a, n, c, rfl⟩ := src_form h
  have hz := zero_new w
  have hB : Below w.heap.size w (w.alloc (.cells #[.int .u8 0, .int .u8 0, .int .u8 0, .int .u8 0, .int .u8 0, .int .u8 0, .int .u8 0, .int .u8 0, .int .u8 0, .int .u8 0, .int .u8 0, .int .u8 0, .bool false, .int .i64 0, .bool false, .int .i64 0, .slice none 0 0] 28)) := (Below.refl _ _).alloc (Nat.le_refl _) _
  have hk := short_any (.slice a n c) l _ (h.below hB) hb
  rw [hs] at hk
  have HK : Hid _ := hk
  have HZ : Hid (FrAt (w.alloc (.cells #[.int .u8 0, .int .u8 0, .int .u8 0, .int .u8 0, .int .u8 0, .int .u8 0, .int .u8 0, .int .u8 0, .int .u8 0, .int .u8 0, .int .u8 0, .int .u8 0, .bool false, .int .i64 0, .bool false, .int .i64 0, .slice none 0 0] 28)) w.heap.size zeroF (.slice none 0 0) ∧ Below w.heap.size w (w.alloc (.cells #[.int .u8 0, .int .u8 0, .int .u8 0, .int .u8 0, .int .u8 0, .int .u8 0, .int .u8 0, .int .u8 0, .int .u8 0, .int .u8 0, .int .u8 0, .int .u8 0, .bool false, .int .i64 0, .bool false, .int .i64 0, .slice none 0 0] 28))) := ⟨hz, hB⟩
  have H : Hid (Src w (.slice a n c) l ∧ (∀ x ∈ l, 0 ≤ x ∧ x ≤ 255) ∧ 14 ≤ l.length ∧ l.length ≤ 1900 ∧ (dcT l = true → 18 ≤ l.length)) := ⟨h, hb, h14, hl, h18⟩
  have HT : Hid (dcT l = true) := ht
  have HE : Hid (dcE l = chkF (rawF l) (rawR l)) := by unfold dcE; rw [hs, if_neg (by simp)]; rfl
  clear h hb hs hz hB hk h14 h18 ht hl
  go_enter Try.func14, Try.ntmps14
  go_wp2_with fail
  refine Calls.mono HK.out ?_
  rintro _ W ⟨rfl, hW⟩
  have D0 : Hid (Dec w (W.alloc (.cells #[.int .u8 0, .int .u8 0, .int .u8 0, .int .u8 0, .int .u8 0, .int .u8 0, .int .u8 0, .int .u8 0, .int .u8 0, .int .u8 0, .int .u8 0, .int .u8 0, .bool false, .int .i64 0, .bool false, .int .i64 0, .slice none 0 0] 28)) W.heap.size zeroF (.slice none 0 0)) := Dec.start (HZ.out.1.below hW) (below_over HZ.out.2 hW)
  have hN : Hid (W.heap.size < (W.alloc (.cells #[.int .u8 0, .int .u8 0, .int .u8 0, .int .u8 0, .int .u8 0, .int .u8 0, .int .u8 0, .int .u8 0, .int .u8 0, .int .u8 0, .int .u8 0, .int .u8 0, .bool false, .int .i64 0, .bool false, .int .i64 0, .slice none 0 0] 28)).heap.size) := by show _ < _; simp
  clear hW HK HZ
  obtain ⟨B, hBB⟩ : ∃ B, W.heap.size = B := ⟨_, rfl⟩
  go_wp2_with fail
  refine (cutk_base a n c 6 l w _ H.out.1 (by have := H.out.2.2.1; omega) (by omega)).mono ?_
  rintro _ W1 ⟨b1, m1, d1, a1, n1, c1, rfl, s1, t1, hb1⟩
  have D1 : Hid (Dec w W1 B zeroF (.slice none 0 0)) := by rw [← hBB]; exact D0.out.later hb1
  have S1 : Hid (Src w (.slice b1 m1 d1) (m6 l 0).l) := by rw [← list6 (l := l) (k := 0) (by have := H.out.2.2.1; omega)]; exact s1
  have T1 : Hid (Src w (.slice a1 n1 c1) (l.drop 6)) := t1
  clear s1 t1 hb1 D0 hN hBB W
  go_wp2_with fail
  refine (cutk_base a1 n1 c1 6 (l.drop 6) w _ T1.out (by have := H.out.2.2.1; simp; omega) (by omega)).mono ?_
  rintro _ W2 ⟨b2, m2, d2, a2, n2, c2, rfl, s2, t2, hb2⟩
  have D2 : Hid (Dec w W2 B zeroF (.slice none 0 0)) := D1.out.later hb2
  have S2 : Hid (Src w (.slice b2 m2 d2) (m6 l 6).l) := by rw [← list6 (l := l) (k := 6) (by have := H.out.2.2.1; omega)]; exact s2
  have T2 : Hid (Src w (.slice a2 n2 c2) (l.drop 12)) := by have := t2; rw [List.drop_drop] at this; exact this
  have hc1 := copy_d D2.out.fr (S1.out.below D2.out.below)
  have D3 : Hid (Dec w (W2.setRow B (fcs ⟨m6 l 0, zeroF.s, zeroF.t, zeroF.p, zeroF.e, zeroF.v⟩ (.slice none 0 0))) B ⟨m6 l 0, zeroF.s, zeroF.t, zeroF.p, zeroF.e, zeroF.v⟩ (.slice none 0 0)) := D2.out.row _ _
  have hc2 := copy_s D3.out.fr (S2.out.below D3.out.below)
  have D4 : Hid (Dec w ((W2.setRow B (fcs ⟨m6 l 0, zeroF.s, zeroF.t, zeroF.p, zeroF.e, zeroF.v⟩ (.slice none 0 0))).setRow B (fcs ⟨m6 l 0, m6 l 6, zeroF.t, zeroF.p, zeroF.e, zeroF.v⟩ (.slice none 0 0))) B ⟨m6 l 0, m6 l 6, zeroF.t, zeroF.p, zeroF.e, zeroF.v⟩ (.slice none 0 0)) := D3.out.row _ _
  clear s2 t2 hb2 D1 S1 T1 D2
  have HN : Hid _ := fun W (hW : Below w.heap.size w W) => number_any (.slice a2 n2 c2) (l.drop 12) W (T2.out.below hW) (fun x hx => H.out.2.1 x (List.mem_of_mem_drop hx))
  obtain ⟨N, hNN⟩ : ∃ N, tyN (l.drop 12) = N := ⟨_, rfl⟩
  rw [hNN] at HN
  have hq : (N == 34984) = true := by rw [← hNN]; exact HT.out
  clear hNN
  go_wp2_with fail
  refine Calls.mono (HN.out _ D4.out.below) ?_
  rintro _ W4 ⟨rfl, hb4⟩
  have D5 : Hid (Dec w W4 B ⟨m6 l 0, m6 l 6, zeroF.t, zeroF.p, zeroF.e, zeroF.v⟩ (.slice none 0 0)) := D4.out.later hb4
  have k12 := D5.out.fr.c12
  have lv5 := D5.out.fr.live
  have D6 : Hid (Dec w (W4.setCell ⟨B, 12, none⟩ (.bool true)) B ⟨m6 l 0, m6 l 6, true, zeroF.p, zeroF.e, zeroF.v⟩ (.slice none 0 0)) := D5.out.cell (D5.out.fr.flag true)
  have m12 := D6.out.fr.c12
  clear hb4 hc1 hc2 D4 HN
  have HD : Hid (18 ≤ l.length) := H.out.2.2.2.2 HT.out
  go_wp2_with fail
  refine (cutk_base a2 n2 c2 2 (l.drop 12) w _ T2.out (by have := HD.out; simp; omega) (by omega)).mono ?_
  rintro _ W5 ⟨b3, m3, d3, a3, n3, c3, rfl, s3, t3, hb5⟩
  have D7 : Hid (Dec w W5 B ⟨m6 l 0, m6 l 6, true, zeroF.p, zeroF.e, zeroF.v⟩ (.slice none 0 0)) := D6.out.later hb5
  have T3 : Hid (Src w (.slice a3 n3 c3) (l.drop 14)) := by have := t3; rw [List.drop_drop] at this; exact this
  clear s3 t3 hb5 D6 D5 T2 k12 lv5 m12
  go_wp2_with fail
  refine (cutk_base a3 n3 c3 2 (l.drop 14) w _ T3.out (by have := HD.out; simp; omega) (by omega)).mono ?_
  rintro _ W6 ⟨b4, m4, d4, a4, n4, c4, rfl, s4, t4, hb6⟩
  have D8 : Hid (Dec w W6 B ⟨m6 l 0, m6 l 6, true, zeroF.p, zeroF.e, zeroF.v⟩ (.slice none 0 0)) := D7.out.later hb6
  have T4 : Hid (Src w (.slice a4 n4 c4) (l.drop 16)) := by have := t4; rw [List.drop_drop] at this; exact this
  have S4 : Hid (Src w (.slice b4 m4 d4) ((l.drop 14).take 2)) := s4
  clear s4 t4 hb6 D7 T3
  go_wp2_with fail
  refine (take_any b4 m4 d4 ((l.drop 14).take 2) _ (S4.out.below D8.out.below) (by simp; omega) (fun x hx => H.out.2.1 x (List.mem_of_mem_drop (List.mem_of_mem_take hx)))).mono ?_
  rintro _ W7 ⟨s7, rfl, ho7, hb7⟩
  have ek := tk_take (l := l.drop 14) (by have := HD.out; simp; omega)
  rw [ek.1, ek.2.1, ek.2.2]
  have D9 : Hid (Dec w W7 B ⟨m6 l 0, m6 l 6, true, zeroF.p, zeroF.e, zeroF.v⟩ (.slice none 0 0)) := D8.out.later hb7
  obtain ⟨P, hP⟩ : ∃ P, tkP (l.drop 14) = P := ⟨_, rfl⟩
  obtain ⟨Q, hQ⟩ : ∃ Q, tkD (l.drop 14) = Q := ⟨_, rfl⟩
  obtain ⟨V, hV⟩ : ∃ V, tkV (l.drop 14) = V := ⟨_, rfl⟩
  rw [hP, hQ, hV]
  have k13 := D9.out.fr.c13
  have k14 := D9.out.fr.c14
  have k15 := D9.out.fr.c15
  have k16 := D9.out.fr.c16
  have lv9 := D9.out.fr.live
  have F10 := D9.out.fr.tags P Q V
  have D10 : Hid (Dec w (((W7.setCell ⟨B, 13, none⟩ (.int .i64 P)).setCell ⟨B, 14, none⟩ (.bool Q)).setCell ⟨B, 15, none⟩ (.int .i64 V)) B ⟨m6 l 0, m6 l 6, true, P, Q, V⟩ (.slice none 0 0)) := ⟨((D9.out.z.apart (by have := D9.out.lt; simp; omega) _).apart (by have := D9.out.lt; simp; omega) _).apart (by have := D9.out.lt; simp; omega) _, F10, ((D9.out.below.setCell (by have := D9.out.lt; simp; omega) _).setCell (by have := D9.out.lt; simp; omega) _).setCell (by have := D9.out.lt; simp; omega) _, D9.out.lt⟩
  have m16 := D10.out.fr.c16
  have lv10 := D10.out.fr.live
  have D11 : Hid (Dec w ((((W7.setCell ⟨B, 13, none⟩ (.int .i64 P)).setCell ⟨B, 14, none⟩ (.bool Q)).setCell ⟨B, 15, none⟩ (.int .i64 V)).setCell ⟨B, 16, none⟩ (.slice a4 n4 c4)) B ⟨m6 l 0, m6 l 6, true, P, Q, V⟩ (.slice a4 n4 c4)) := D10.out.cell (D10.out.fr.rest _)
  have EF : Hid ((⟨m6 l 0, m6 l 6, true, P, Q, V⟩ : Fr) = rawF l ∧ rawR l = l.drop 16) := by
    unfold rawF rawR
    rw [HT.out, ← hP, ← hQ, ← hV]
    exact ⟨rfl, rfl⟩
  have l7 := D11.out.fr.ld
  rw [EF.out.1] at D11 l7
  have S7 : Hid (Src w (.slice a4 n4 c4) (rawR l)) := by rw [EF.out.2]; exact T4.out
  have HC : Hid _ := check_fr (rawF l) (.slice a4 n4 c4) (rawR l) _ (S7.out.below D11.out.below) (by rw [EF.out.2]; exact fun x hx => H.out.2.1 x (List.mem_of_mem_drop hx)) (rawF_ok H.out.2.1)
  have HL : Hid ((rawR l).length ≤ 2000) := by have := H.out.2.2.2.1; rw [EF.out.2]; show _ ≤ _; simp; omega
  clear T4 D10 F10 EF ho7 hb7 D8 S4 ek hP hQ hV D9
  obtain ⟨E, hE⟩ : ∃ E, chkF (rawF l) (rawR l) = E := ⟨_, rfl⟩
  rw [hE] at HC HE
  clear hE
  by_cases he : E = 0
  · subst he
    go_wp2_with fail
    refine Calls.mono HC.out ?_
    rintro _ W8 ⟨rfl, hb8⟩
    have D8 : Hid (Dec w W8 B (rawF l) (.slice a4 n4 c4)) := D11.out.later hb8
    have j16 := D8.out.fr.c16
    clear hb8 D11 l7 HC k13 k14 k15 k16 lv9 m16 lv10
    go_wp2_with fail
    refine (clone_v (.slice a4 n4 c4) (rawR l) _ (S7.out.below D8.out.below) HL.out).mono ?_
    rintro _ W9 ⟨s9, rfl, ho9, hb9⟩
    obtain ⟨a9, n9, c9, rfl⟩ := src_form ho9.src
    have D9 : Hid (Dec w W9 B (rawF l) (.slice a4 n4 c4)) := D8.out.later hb9
    have O9 : Hid (Own W9 w.heap.size (.slice a9 n9 c9) (rawR l) ∧ ∀ k, (Value.slice a9 n9 c9).ownBlock = some k → w.heap.size < k ∧ B < k) := ⟨ho9.base (by have := D8.out.below.size; exact this), fun k hk => by have h1 := (ho9.block k hk).1; have h2 := D8.out.fr.lt; have h3 := D8.out.z.lt; omega⟩
    have j16' := D9.out.fr.c16
    have lv9 := D9.out.fr.live
    have D10 : Hid (Dec w (W9.setCell ⟨B, 16, none⟩ (.slice a9 n9 c9)) B (rawF l) (.slice a9 n9 c9)) := D9.out.cell (D9.out.fr.rest _)
    have l10 := D10.out.fr.ld
    obtain ⟨st10, F10, B10⟩ := D10.out.whole rfl
    have HH : Hid _ := And.intro F10 B10
    clear ho9 hb9 D8 j16 F10 B10
    go_wp2
    refine bodyPost_ret (results_two Try.results14 _ _ _ _ _ _ rfl rfl HH.out.1) rfl ?_
    refine dc_ok HE.out ?_ HH.out.2
    refine O9.out.1.of_block fun k hk => ?_
    have := O9.out.2 k hk
    rw [setRow_other _ _ _ _ (by omega), heap_setCell_other _ _ _ _ (by simp; omega)]
  · have he' : (E != 0) = true := by simpa using he
    have HN0 : Hid (¬ E = 0) := he
    clear he
    go_wp2_with fail
    refine Calls.mono HC.out ?_
    rintro _ W8 ⟨rfl, hb8⟩
    have D8 : Hid (Dec w W8 B (rawF l) (.slice a4 n4 c4)) := D11.out.later hb8
    have z8 := D8.out.zero
    have HH : Hid _ := D8.out.zeroAt
    clear hb8 D11 l7 HC k13 k14 k15 k16 lv9 m16 lv10 D8
    go_wp2
    refine bodyPost_ret (results_two Try.results14 _ _ _ _ _ _ rfl rfl HH.out.1) rfl ?_
    exact dc_err E HE.out HN0.out HH.out.2

theorem decode_any (x : Value) (l : List Int) (w : World) (h : Src w x l) (hb : ∀ x ∈ l, 0 ≤ x ∧ x ≤ 255) (hl : l.length ≤ 1900) : Calls Try.prog 14 #[x] w fun r w' => DcOut l w r w' := by
  cases hs : shortB l
  · cases ht : dcT l
    · exact decode_plain x l w h hb hl hs ht
    · exact decode_tagged x l w h hb hl hs ht
  · exact decode_short x l w h hb hs
end Go.Proofs.Ytnkchahjdacboaa
