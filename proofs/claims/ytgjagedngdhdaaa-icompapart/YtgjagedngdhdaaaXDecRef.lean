/-
  The walk of decoding by definition: for all bytes.
-/
import Derived.Test.YtgjagedngdhdaaaJ21XDec
import Derived.BigRegion
import Derived.Deep.RegionHeld3
namespace Go.Proofs.Ytgjagedngdhdaaa
namespace S4
set_option linter.unusedVariables false
set_option linter.unusedSimpArgs false
set_option maxRecDepth 20000
open Go.RowKit

theorem chk_le {f : Fr} {l : List Int} (h : ¬ 1502 < l.length) (h0 : ¬ chkF f l = 0) : chkF f l = 30 := by
  unfold chkF at *
  rw [if_neg h] at *
  cases hb : badF f l
  · rw [hb] at h0; simp at h0
  · rfl
theorem dcE_long {l : List Int} (hs : shortB l = false) (h : 1502 < (rawR l).length) : dcE l = 2 := by
  unfold dcE chkF
  rw [hs, if_neg (by simp), if_pos h]
theorem dcE_tag {l : List Int} (hs : shortB l = false) (h : ¬ 1502 < (rawR l).length) (ht : dcT l = true) (he : ¬ tkE (l.drop 14) = 0) : dcE l = 30 := by
  have e : dcE l = chkF (rawF l) (rawR l) := by unfold dcE; rw [hs, if_neg (by simp)]
  rw [e]
  refine chk_le h fun h0 => ?_
  have := (chk_zero h0).2.1 ht
  have h1 : (rawF l).p = 0 := by show (if dcT l then tkP (l.drop 14) else 0) = 0; rw [ht, if_pos rfl]; unfold tkP; rw [if_neg he]
  have h2 : (rawF l).v = 0 := by show (if dcT l then tkV (l.drop 14) else 0) = 0; rw [ht, if_pos rfl]; unfold tkV; rw [if_neg he]
  rw [h1, h2] at this
  exact absurd this (by decide)

theorem own_at (W : World) (k : Nat) (hk : W.heap.size = k) : Own (W.alloc (.cells #[] 5)) k (.slice (some ⟨k, 0, none⟩) 0 0) [] := own_new W [] k k #[] rfl hk (Nat.le_refl _) (by simp)

/-- An address of which j bytes have been read. -/
def pm (l : List Int) (k j : Nat) : M6 := ⟨if 0 < j then gt l k else 0, if 1 < j then gt l (k + 1) else 0, if 2 < j then gt l (k + 2) else 0, if 3 < j then gt l (k + 3) else 0, if 4 < j then gt l (k + 4) else 0, if 5 < j then gt l (k + 5) else 0⟩
def pf (l : List Int) (j : Nat) (t : Bool) : Fr := ⟨pm l 0 j, pm l 6 j, t, 0, false, 0⟩
theorem pf_zero (l : List Int) (t : Bool) : pf l 0 t = ⟨zeroF.d, zeroF.s, t, 0, false, 0⟩ := rfl
theorem pf_six (l : List Int) (t : Bool) : pf l 6 t = ⟨m6 l 0, m6 l 6, t, 0, false, 0⟩ := rfl
theorem pf_step {W : World} {b : Nat} {l : List Int} {j : Nat} {t : Bool} {x : Value} (hj : j < 6) (h : FrAt W b (pf l j t) x) : FrAt ((W.setCell ⟨b, j, none⟩ (.int .u8 (gt l j))).setCell ⟨b, 6 + j, none⟩ (.int .u8 (gt l (6 + j)))) b (pf l (j + 1) t) x := by
  unfold FrAt at *
  rw [heap_setCell_same _ b (6 + j) _ 34 _ (heap_setCell_same _ b j _ 34 _ h)]
  have hj' : j = 0 ∨ j = 1 ∨ j = 2 ∨ j = 3 ∨ j = 4 ∨ j = 5 := by omega
  rcases hj' with rfl | rfl | rfl | rfl | rfl | rfl <;> rfl
theorem pf_cell {W : World} {b : Nat} {l : List Int} {i : Nat} {t : Bool} {x : Value} (h : FrAt W b (pf l i t) x) (j : Nat) (hj : j < 6) : ∃ u v, W.cell? ⟨b, j, none⟩ = some (.int .u8 u) ∧ W.cell? ⟨b, 6 + j, none⟩ = some (.int .u8 v) := by
  have hj' : j = 0 ∨ j = 1 ∨ j = 2 ∨ j = 3 ∨ j = 4 ∨ j = 5 := by omega
  rcases hj' with rfl | rfl | rfl | rfl | rfl | rfl <;> exact ⟨_, _, h.c _ _ rfl, h.c _ _ rfl⟩

attribute [local go_sem ↓] slS_eq ldS_MAC ldS_Tag ldS_Frame stS_Frame nqS_eq eqS_eq eqM_eq

set_option maxHeartbeats 1000000 in
theorem dref_few (x : Value) (l : List Int) (w : World) (h : Src w x l) (hs : l.length < 14) :
    Calls Try.prog 29 #[x] w fun r w' => DcOut l w r w' := by
  obtain ⟨a, n, c, rfl⟩ := src_form h
  obtain ⟨hn, hc, hm⟩ := src_short h
  have hz := zero_new w
  have hB : Below w.heap.size w (w.alloc (.cells #[.int .u8 0, .int .u8 0, .int .u8 0, .int .u8 0, .int .u8 0, .int .u8 0, .int .u8 0, .int .u8 0, .int .u8 0, .int .u8 0, .int .u8 0, .int .u8 0, .bool false, .int .i64 0, .bool false, .int .i64 0, .slice none 0 0] 34)) := (Below.refl _ _).alloc (Nat.le_refl _) _
  have hS : shortB l = true := by unfold shortB; simp [hs]
  have HE : Hid (dcE l = 6) := by unfold dcE; rw [hS, if_pos rfl]; rfl
  have st := hz.stv (g := zeroF) (y := .slice none 0 0) rfl _ rfl
  simp only [fcs, zeroF] at st
  have HH : Hid _ := And.intro (hz.set (g := zeroF) (y := .slice none 0 0)) (below_setRow hB (Nat.le_refl _) (fcs zeroF (.slice none 0 0)))
  have h3 : (n : Int) < 14 := by omega
  clear h hn hs hS hz hB
  go_enter Try.func29, Try.ntmps29
  go_wp2
  refine bodyPost_ret (results_two Try.results29 _ _ _ _ _ _ rfl rfl HH.out.1) rfl ?_
  exact dc_err 6 HE.out (by omega) HH.out.2

set_option maxHeartbeats 1000000 in
theorem dref_cut (x : Value) (l : List Int) (w : World) (h : Src w x l) (hb : ∀ x ∈ l, 0 ≤ x ∧ x ≤ 255) (h14 : 14 ≤ l.length) (ht : dcT l = true) (h18 : l.length < 18) :
    Calls Try.prog 29 #[x] w fun r w' => DcOut l w r w' := by
  have hS : shortB l = true := by
    cases hq : shortB l
    · have := (shortB_iff.1 hq).2 ht; omega
    · rfl
  have HE : Hid (dcE l = 6) := by unfold dcE; rw [hS, if_pos rfl]; rfl
  clear hS
  obtain ⟨a, n, c, rfl⟩ := src_form h
  obtain ⟨b, o, rfl, hbw, hj⟩ := src_some h (by omega)
  obtain ⟨hn, hc, hm⟩ := src_short h
  have hz := zero_new w
  have hB : Below w.heap.size w (w.alloc (.cells #[.int .u8 0, .int .u8 0, .int .u8 0, .int .u8 0, .int .u8 0, .int .u8 0, .int .u8 0, .int .u8 0, .int .u8 0, .int .u8 0, .int .u8 0, .int .u8 0, .bool false, .int .i64 0, .bool false, .int .i64 0, .slice none 0 0] 34)) := (Below.refl _ _).alloc (Nat.le_refl _) _
  have hk := fun W (hW : Below w.heap.size w W) => tagged_any (dropV b o n c 12) (l.drop 12) W ((src_dropV h 12 (by omega)).below hW) (fun x hx => hb x (List.mem_of_mem_drop hx))
  rw [show (tyN (l.drop 12) == 34984) = true from ht] at hk
  have HK : Hid _ := hk
  have HZ : Hid (FrAt (w.alloc (.cells #[.int .u8 0, .int .u8 0, .int .u8 0, .int .u8 0, .int .u8 0, .int .u8 0, .int .u8 0, .int .u8 0, .int .u8 0, .int .u8 0, .int .u8 0, .int .u8 0, .bool false, .int .i64 0, .bool false, .int .i64 0, .slice none 0 0] 34)) w.heap.size zeroF (.slice none 0 0) ∧ Below w.heap.size w (w.alloc (.cells #[.int .u8 0, .int .u8 0, .int .u8 0, .int .u8 0, .int .u8 0, .int .u8 0, .int .u8 0, .int .u8 0, .int .u8 0, .int .u8 0, .int .u8 0, .int .u8 0, .bool false, .int .i64 0, .bool false, .int .i64 0, .slice none 0 0] 34))) := ⟨hz, hB⟩
  have hs12 : ∀ W, (slS (.slice (some ⟨b, o, none⟩) n c) (some (.int .i64 12)) none none).run Try.prog W = .ok (dropV b o n c 12) W := fun W => slS_drop b o n c 12 (by omega) hc hm W
  have H : Hid (Src w (.slice (some ⟨b, o, none⟩) n c) l ∧ (∀ x ∈ l, 0 ≤ x ∧ x ≤ 255) ∧ 14 ≤ l.length ∧ n = l.length) := ⟨h, hb, h14, hn⟩
  have HT : Hid (dcT l = true) := ht
  have h3 : ¬ (n : Int) < 14 := by omega
  have h4 : (n : Int) < 18 := by omega
  clear h hb hz hB hk ht hj hn
  go_enter Try.func29, Try.ntmps29
  go_wp2_with fail
  refine Calls.mono (HK.out _ HZ.out.2) ?_
  rintro _ W ⟨rfl, hW⟩
  have D0 : Dec w (W.alloc (.cells #[.int .u8 0, .int .u8 0, .int .u8 0, .int .u8 0, .int .u8 0, .int .u8 0, .int .u8 0, .int .u8 0, .int .u8 0, .int .u8 0, .int .u8 0, .int .u8 0, .bool false, .int .i64 0, .bool false, .int .i64 0, .slice none 0 0] 34)) W.heap.size zeroF (.slice none 0 0) := Dec.start (HZ.out.1.below hW) (below_over HZ.out.2 hW)
  have st := D0.fr.stv (g := ⟨zeroF.d, zeroF.s, true, 0, false, 0⟩) (y := .slice none 0 0) rfl (.agg #[.int .u8 0, .int .u8 0, .int .u8 0, .int .u8 0, .int .u8 0, .int .u8 0, .int .u8 0, .int .u8 0, .int .u8 0, .int .u8 0, .int .u8 0, .int .u8 0, .bool true, .int .i64 0, .bool false, .int .i64 0, .slice none 0 0]) rfl
  have D1 : Hid (Dec w ((W.alloc (.cells #[.int .u8 0, .int .u8 0, .int .u8 0, .int .u8 0, .int .u8 0, .int .u8 0, .int .u8 0, .int .u8 0, .int .u8 0, .int .u8 0, .int .u8 0, .int .u8 0, .bool false, .int .i64 0, .bool false, .int .i64 0, .slice none 0 0] 34)).setRow W.heap.size (fcs ⟨zeroF.d, zeroF.s, true, 0, false, 0⟩ (.slice none 0 0))) W.heap.size ⟨zeroF.d, zeroF.s, true, 0, false, 0⟩ (.slice none 0 0)) := D0.row _ _
  have c12 := D1.out.fr.c12
  clear hW HK HZ D0
  have z1 := D1.out.zero
  have HH : Hid _ := D1.out.zeroAt
  clear D1
  go_wp2
  refine bodyPost_ret (results_two Try.results29 _ _ _ _ _ _ rfl rfl HH.out.1) rfl ?_
  exact dc_err 6 HE.out (by omega) HH.out.2

set_option maxHeartbeats 1000000 in
theorem dref_longp (x : Value) (l : List Int) (w : World) (h : Src w x l) (hb : ∀ x ∈ l, 0 ≤ x ∧ x ≤ 255) (h14 : 14 ≤ l.length) (ht : dcT l = false)  (hs : shortB l = false) (hL : 1502 < (rawR l).length) :
    Calls Try.prog 29 #[x] w fun r w' => DcOut l w r w' := by
  have HE : Hid (dcE l = 2) := dcE_long hs hL
  obtain ⟨a, n, c, rfl⟩ := src_form h
  obtain ⟨b, o, rfl, hbw, hj⟩ := src_some h (by omega)
  obtain ⟨hn, hc, hm⟩ := src_short h
  have hz := zero_new w
  have hB : Below w.heap.size w (w.alloc (.cells #[.int .u8 0, .int .u8 0, .int .u8 0, .int .u8 0, .int .u8 0, .int .u8 0, .int .u8 0, .int .u8 0, .int .u8 0, .int .u8 0, .int .u8 0, .int .u8 0, .bool false, .int .i64 0, .bool false, .int .i64 0, .slice none 0 0] 34)) := (Below.refl _ _).alloc (Nat.le_refl _) _
  have hk := fun W (hW : Below w.heap.size w W) => tagged_any (dropV b o n c 12) (l.drop 12) W ((src_dropV h 12 (by omega)).below hW) (fun x hx => hb x (List.mem_of_mem_drop hx))
  rw [show (tyN (l.drop 12) == 34984) = false from ht] at hk
  have HK : Hid _ := hk
  have HZ : Hid (FrAt (w.alloc (.cells #[.int .u8 0, .int .u8 0, .int .u8 0, .int .u8 0, .int .u8 0, .int .u8 0, .int .u8 0, .int .u8 0, .int .u8 0, .int .u8 0, .int .u8 0, .int .u8 0, .bool false, .int .i64 0, .bool false, .int .i64 0, .slice none 0 0] 34)) w.heap.size zeroF (.slice none 0 0) ∧ Below w.heap.size w (w.alloc (.cells #[.int .u8 0, .int .u8 0, .int .u8 0, .int .u8 0, .int .u8 0, .int .u8 0, .int .u8 0, .int .u8 0, .int .u8 0, .int .u8 0, .int .u8 0, .int .u8 0, .bool false, .int .i64 0, .bool false, .int .i64 0, .slice none 0 0] 34))) := ⟨hz, hB⟩
  have hs12 : ∀ W, (slS (.slice (some ⟨b, o, none⟩) n c) (some (.int .i64 12)) none none).run Try.prog W = .ok (dropV b o n c 12) W := fun W => slS_drop b o n c 12 (by omega) hc hm W
  have H : Hid (Src w (.slice (some ⟨b, o, none⟩) n c) l ∧ (∀ x ∈ l, 0 ≤ x ∧ x ≤ 255) ∧ 14 ≤ l.length ∧ n = l.length) := ⟨h, hb, h14, hn⟩
  have HT : Hid (dcT l = false) := ht
  have h3 : ¬ (n : Int) < 14 := by omega
  have TR : Hid (Src w (dropV b o n c 12) (rawR l)) := by
    have e : rawR l = l.drop 12 := by unfold rawR; rw [ht]; rfl
    rw [e]
    exact src_dropV h 12 (by omega)
  obtain ⟨ar, nr, cr, hr⟩ := src_form TR.out
  rw [hr] at TR
  obtain ⟨hnr, hcr, hmr⟩ := src_short TR.out
  rw [hr] at hs12 HK
  have h5 : (1502 : Int) < (nr : Int) := by omega
  clear hL hnr
  clear h hb hz hB hk ht hj hn
  go_enter Try.func29, Try.ntmps29
  go_wp2_with fail
  refine Calls.mono (HK.out _ HZ.out.2) ?_
  rintro _ W ⟨rfl, hW⟩
  have D0 : Dec w (W.alloc (.cells #[.int .u8 0, .int .u8 0, .int .u8 0, .int .u8 0, .int .u8 0, .int .u8 0, .int .u8 0, .int .u8 0, .int .u8 0, .int .u8 0, .int .u8 0, .int .u8 0, .bool false, .int .i64 0, .bool false, .int .i64 0, .slice none 0 0] 34)) W.heap.size zeroF (.slice none 0 0) := Dec.start (HZ.out.1.below hW) (below_over HZ.out.2 hW)
  have st := D0.fr.stv (g := ⟨zeroF.d, zeroF.s, false, 0, false, 0⟩) (y := .slice none 0 0) rfl (.agg #[.int .u8 0, .int .u8 0, .int .u8 0, .int .u8 0, .int .u8 0, .int .u8 0, .int .u8 0, .int .u8 0, .int .u8 0, .int .u8 0, .int .u8 0, .int .u8 0, .bool false, .int .i64 0, .bool false, .int .i64 0, .slice none 0 0]) rfl
  have D1 : Hid (Dec w ((W.alloc (.cells #[.int .u8 0, .int .u8 0, .int .u8 0, .int .u8 0, .int .u8 0, .int .u8 0, .int .u8 0, .int .u8 0, .int .u8 0, .int .u8 0, .int .u8 0, .int .u8 0, .bool false, .int .i64 0, .bool false, .int .i64 0, .slice none 0 0] 34)).setRow W.heap.size (fcs ⟨zeroF.d, zeroF.s, false, 0, false, 0⟩ (.slice none 0 0))) W.heap.size ⟨zeroF.d, zeroF.s, false, 0, false, 0⟩ (.slice none 0 0)) := D0.row _ _
  have c12 := D1.out.fr.c12
  clear hW HK HZ D0
  have z1 := D1.out.zero
  have HH : Hid _ := D1.out.zeroAt
  clear D1
  go_wp2
  refine bodyPost_ret (results_two Try.results29 _ _ _ _ _ _ rfl rfl HH.out.1) rfl ?_
  exact dc_err 2 HE.out (by omega) HH.out.2

set_option maxHeartbeats 1000000 in
theorem dref_longt (x : Value) (l : List Int) (w : World) (h : Src w x l) (hb : ∀ x ∈ l, 0 ≤ x ∧ x ≤ 255) (h14 : 14 ≤ l.length) (ht : dcT l = true) (h18 : 18 ≤ l.length) (hs : shortB l = false) (hL : 1502 < (rawR l).length) :
    Calls Try.prog 29 #[x] w fun r w' => DcOut l w r w' := by
  have HE : Hid (dcE l = 2) := dcE_long hs hL
  obtain ⟨a, n, c, rfl⟩ := src_form h
  obtain ⟨b, o, rfl, hbw, hj⟩ := src_some h (by omega)
  obtain ⟨hn, hc, hm⟩ := src_short h
  have hz := zero_new w
  have hB : Below w.heap.size w (w.alloc (.cells #[.int .u8 0, .int .u8 0, .int .u8 0, .int .u8 0, .int .u8 0, .int .u8 0, .int .u8 0, .int .u8 0, .int .u8 0, .int .u8 0, .int .u8 0, .int .u8 0, .bool false, .int .i64 0, .bool false, .int .i64 0, .slice none 0 0] 34)) := (Below.refl _ _).alloc (Nat.le_refl _) _
  have hk := fun W (hW : Below w.heap.size w W) => tagged_any (dropV b o n c 12) (l.drop 12) W ((src_dropV h 12 (by omega)).below hW) (fun x hx => hb x (List.mem_of_mem_drop hx))
  rw [show (tyN (l.drop 12) == 34984) = true from ht] at hk
  have HK : Hid _ := hk
  have HZ : Hid (FrAt (w.alloc (.cells #[.int .u8 0, .int .u8 0, .int .u8 0, .int .u8 0, .int .u8 0, .int .u8 0, .int .u8 0, .int .u8 0, .int .u8 0, .int .u8 0, .int .u8 0, .int .u8 0, .bool false, .int .i64 0, .bool false, .int .i64 0, .slice none 0 0] 34)) w.heap.size zeroF (.slice none 0 0) ∧ Below w.heap.size w (w.alloc (.cells #[.int .u8 0, .int .u8 0, .int .u8 0, .int .u8 0, .int .u8 0, .int .u8 0, .int .u8 0, .int .u8 0, .int .u8 0, .int .u8 0, .int .u8 0, .int .u8 0, .bool false, .int .i64 0, .bool false, .int .i64 0, .slice none 0 0] 34))) := ⟨hz, hB⟩
  have hs12 : ∀ W, (slS (.slice (some ⟨b, o, none⟩) n c) (some (.int .i64 12)) none none).run Try.prog W = .ok (dropV b o n c 12) W := fun W => slS_drop b o n c 12 (by omega) hc hm W
  have H : Hid (Src w (.slice (some ⟨b, o, none⟩) n c) l ∧ (∀ x ∈ l, 0 ≤ x ∧ x ≤ 255) ∧ 14 ≤ l.length ∧ n = l.length) := ⟨h, hb, h14, hn⟩
  have HT : Hid (dcT l = true) := ht
  have h3 : ¬ (n : Int) < 14 := by omega
  have h4 : ¬ (n : Int) < 18 := by omega
  have hs16 : ∀ W, (slS (.slice (some ⟨b, o, none⟩) n c) (some (.int .i64 16)) none none).run Try.prog W = .ok (dropV b o n c 16) W := fun W => slS_drop b o n c 16 (by omega) hc hm W
  have hs14 : ∀ W, (slS (.slice (some ⟨b, o, none⟩) n c) (some (.int .i64 14)) none none).run Try.prog W = .ok (dropV b o n c 14) W := fun W => slS_drop b o n c 14 (by omega) hc hm W
  have TR : Hid (Src w (dropV b o n c 16) (rawR l)) := by
    have e : rawR l = l.drop 16 := by unfold rawR; rw [ht]; rfl
    rw [e]
    exact src_dropV h 16 (by omega)
  obtain ⟨ar, nr, cr, hr⟩ := src_form TR.out
  rw [hr] at TR
  obtain ⟨hnr, hcr, hmr⟩ := src_short TR.out
  rw [hr] at hs16
  have h5 : (1502 : Int) < (nr : Int) := by omega
  clear hL hnr
  clear h hb hz hB hk ht hj hn
  go_enter Try.func29, Try.ntmps29
  go_wp2_with fail
  refine Calls.mono (HK.out _ HZ.out.2) ?_
  rintro _ W ⟨rfl, hW⟩
  have D0 : Dec w (W.alloc (.cells #[.int .u8 0, .int .u8 0, .int .u8 0, .int .u8 0, .int .u8 0, .int .u8 0, .int .u8 0, .int .u8 0, .int .u8 0, .int .u8 0, .int .u8 0, .int .u8 0, .bool false, .int .i64 0, .bool false, .int .i64 0, .slice none 0 0] 34)) W.heap.size zeroF (.slice none 0 0) := Dec.start (HZ.out.1.below hW) (below_over HZ.out.2 hW)
  have st := D0.fr.stv (g := ⟨zeroF.d, zeroF.s, true, 0, false, 0⟩) (y := .slice none 0 0) rfl (.agg #[.int .u8 0, .int .u8 0, .int .u8 0, .int .u8 0, .int .u8 0, .int .u8 0, .int .u8 0, .int .u8 0, .int .u8 0, .int .u8 0, .int .u8 0, .int .u8 0, .bool true, .int .i64 0, .bool false, .int .i64 0, .slice none 0 0]) rfl
  have D1 : Hid (Dec w ((W.alloc (.cells #[.int .u8 0, .int .u8 0, .int .u8 0, .int .u8 0, .int .u8 0, .int .u8 0, .int .u8 0, .int .u8 0, .int .u8 0, .int .u8 0, .int .u8 0, .int .u8 0, .bool false, .int .i64 0, .bool false, .int .i64 0, .slice none 0 0] 34)).setRow W.heap.size (fcs ⟨zeroF.d, zeroF.s, true, 0, false, 0⟩ (.slice none 0 0))) W.heap.size ⟨zeroF.d, zeroF.s, true, 0, false, 0⟩ (.slice none 0 0)) := D0.row _ _
  have c12 := D1.out.fr.c12
  clear hW HK HZ D0
  have z1 := D1.out.zero
  have HH : Hid _ := D1.out.zeroAt
  clear D1
  go_wp2
  refine bodyPost_ret (results_two Try.results29 _ _ _ _ _ _ rfl rfl HH.out.1) rfl ?_
  exact dc_err 2 HE.out (by omega) HH.out.2

set_option maxHeartbeats 2000000 in
theorem dref_mainp (x : Value) (l : List Int) (w : World) (h : Src w x l) (hb : ∀ x ∈ l, 0 ≤ x ∧ x ≤ 255) (h14 : 14 ≤ l.length) (ht : dcT l = false)  (hs : shortB l = false) (hL : ¬ 1502 < (rawR l).length) (hl : l.length ≤ 1900) :
    Calls Try.prog 29 #[x] w fun r w' => DcOut l w r w' := by
  obtain ⟨a, n, c, rfl⟩ := src_form h
  obtain ⟨b, o, rfl, hbw, hj⟩ := src_some h (by omega)
  obtain ⟨hn, hc, hm⟩ := src_short h
  have hz := zero_new w
  have hB : Below w.heap.size w (w.alloc (.cells #[.int .u8 0, .int .u8 0, .int .u8 0, .int .u8 0, .int .u8 0, .int .u8 0, .int .u8 0, .int .u8 0, .int .u8 0, .int .u8 0, .int .u8 0, .int .u8 0, .bool false, .int .i64 0, .bool false, .int .i64 0, .slice none 0 0] 34)) := (Below.refl _ _).alloc (Nat.le_refl _) _
  have hk := fun W (hW : Below w.heap.size w W) => tagged_any (dropV b o n c 12) (l.drop 12) W ((src_dropV h 12 (by omega)).below hW) (fun x hx => hb x (List.mem_of_mem_drop hx))
  rw [show (tyN (l.drop 12) == 34984) = false from ht] at hk
  have HK : Hid _ := hk
  have HZ : Hid (FrAt (w.alloc (.cells #[.int .u8 0, .int .u8 0, .int .u8 0, .int .u8 0, .int .u8 0, .int .u8 0, .int .u8 0, .int .u8 0, .int .u8 0, .int .u8 0, .int .u8 0, .int .u8 0, .bool false, .int .i64 0, .bool false, .int .i64 0, .slice none 0 0] 34)) w.heap.size zeroF (.slice none 0 0) ∧ Below w.heap.size w (w.alloc (.cells #[.int .u8 0, .int .u8 0, .int .u8 0, .int .u8 0, .int .u8 0, .int .u8 0, .int .u8 0, .int .u8 0, .int .u8 0, .int .u8 0, .int .u8 0, .int .u8 0, .bool false, .int .i64 0, .bool false, .int .i64 0, .slice none 0 0] 34))) := ⟨hz, hB⟩
  have hs12 : ∀ W, (slS (.slice (some ⟨b, o, none⟩) n c) (some (.int .i64 12)) none none).run Try.prog W = .ok (dropV b o n c 12) W := fun W => slS_drop b o n c 12 (by omega) hc hm W
  have H : Hid (Src w (.slice (some ⟨b, o, none⟩) n c) l ∧ (∀ x ∈ l, 0 ≤ x ∧ x ≤ 255) ∧ 14 ≤ l.length ∧ n = l.length) := ⟨h, hb, h14, hn⟩
  have HT : Hid (dcT l = false) := ht
  have h3 : ¬ (n : Int) < 14 := by omega
  have TR : Hid (Src w (dropV b o n c 12) (rawR l)) := by
    have e : rawR l = l.drop 12 := by unfold rawR; rw [ht]; rfl
    rw [e]
    exact src_dropV h 12 (by omega)
  obtain ⟨ar, nr, cr, hr⟩ := src_form TR.out
  rw [hr] at TR
  obtain ⟨hnr, hcr, hmr⟩ := src_short TR.out
  rw [hr] at hs12 HK
  have h5 : ¬ (1502 : Int) < (nr : Int) := by omega
  have HS : Hid (shortB l = false) := hs
  have HL : Hid (¬ 1502 < (rawR l).length) := hL
  have HL2 : Hid (l.length ≤ 1900) := hl
  have HR : Hid (∀ x ∈ rawR l, 0 ≤ x ∧ x ≤ 255) := by
    intro x hx
    unfold rawR at hx
    split at hx
    · exact hb x (List.mem_of_mem_drop hx)
    · exact hb x (List.mem_of_mem_drop hx)
  clear hnr hs hL hl
  clear h hb hz hB hk ht hj hn
  go_enter Try.func29, Try.ntmps29
  go_wp2_with fail
  refine Calls.mono (HK.out _ HZ.out.2) ?_
  rintro _ W ⟨rfl, hW⟩
  have D0 : Dec w (W.alloc (.cells #[.int .u8 0, .int .u8 0, .int .u8 0, .int .u8 0, .int .u8 0, .int .u8 0, .int .u8 0, .int .u8 0, .int .u8 0, .int .u8 0, .int .u8 0, .int .u8 0, .bool false, .int .i64 0, .bool false, .int .i64 0, .slice none 0 0] 34)) W.heap.size zeroF (.slice none 0 0) := Dec.start (HZ.out.1.below hW) (below_over HZ.out.2 hW)
  have st := D0.fr.stv (g := ⟨zeroF.d, zeroF.s, false, 0, false, 0⟩) (y := .slice none 0 0) rfl (.agg #[.int .u8 0, .int .u8 0, .int .u8 0, .int .u8 0, .int .u8 0, .int .u8 0, .int .u8 0, .int .u8 0, .int .u8 0, .int .u8 0, .int .u8 0, .int .u8 0, .bool false, .int .i64 0, .bool false, .int .i64 0, .slice none 0 0]) rfl
  have D1 : Hid (Dec w ((W.alloc (.cells #[.int .u8 0, .int .u8 0, .int .u8 0, .int .u8 0, .int .u8 0, .int .u8 0, .int .u8 0, .int .u8 0, .int .u8 0, .int .u8 0, .int .u8 0, .int .u8 0, .bool false, .int .i64 0, .bool false, .int .i64 0, .slice none 0 0] 34)).setRow W.heap.size (fcs ⟨zeroF.d, zeroF.s, false, 0, false, 0⟩ (.slice none 0 0))) W.heap.size ⟨zeroF.d, zeroF.s, false, 0, false, 0⟩ (.slice none 0 0)) := D0.row _ _
  have c12 := D1.out.fr.c12
  clear hW HK HZ D0
  go_wp2
  obtain ⟨W1, hW1⟩ : ∃ W1, (W.alloc (.cells #[.int .u8 0, .int .u8 0, .int .u8 0, .int .u8 0, .int .u8 0, .int .u8 0, .int .u8 0, .int .u8 0, .int .u8 0, .int .u8 0, .int .u8 0, .int .u8 0, .bool false, .int .i64 0, .bool false, .int .i64 0, .slice none 0 0] 34)).setRow W.heap.size (fcs ⟨zeroF.d, zeroF.s, false, 0, false, 0⟩ (.slice none 0 0)) = W1 := ⟨_, rfl⟩
  rw [hW1] at D1 ⊢
  clear st c12 hW1
  obtain ⟨B, hBB⟩ : ∃ B, W.heap.size = B := ⟨_, rfl⟩
  rw [hBB] at D1 ⊢
  clear hBB W
  have HBW : Hid (b < w.heap.size) := hbw
  clear hbw
  go_loopw [6] (fun v6 wr => ∃ j : Nat, j ≤ 6 ∧ v6 = .int .i64 j ∧ Dec w wr B (pf l j false) (.slice none 0 0)) (fun v6 _ => 6 - (intOf v6).toNat)
  case atStart => exact ⟨0, by omega, rfl, D1.out⟩
  case round =>
    clear D1 W1
    obtain ⟨j, hj, rfl, Dj⟩ := hrel
    by_cases hlt : j < 6
    · have hS := (H.out.1.below Dj.below)
      obtain ⟨b', o', eb, hb', hsr⟩ := src_some hS (by have := H.out.2.2.1; omega)
      cases eb
      have q0 := hsr j (by have := H.out.2.2.1; omega)
      have q1 := hsr (6 + j) (by have := H.out.2.2.1; omega)
      obtain ⟨u, v, p0, p1⟩ := pf_cell Dj.fr j hlt
      have lv := Dj.fr.live
      have hne : b ≠ B := by have := HBW.out; have := Dj.lt; omega
      have HD : Hid (Dec w _ B (pf l j false) (.slice none 0 0)) := Dj
      have i0 : (0 : Int) ≤ (j : Int) := by omega
      have i1 : (j : Int) < 6 := by omega
      have i2 : (j : Int) < (n : Int) := by have := H.out.2.2; omega
      have i3 : (6 : Int) + (j : Int) < (n : Int) := by have := H.out.2.2; omega
      have i4 : (0 : Int) ≤ (6 : Int) + (j : Int) := by omega
      have hcc : ∀ (W : World) (k x : Nat) (u : Value), (W.setCell ⟨B, k, none⟩ u).cell? ⟨b, x, none⟩ = W.cell? ⟨b, x, none⟩ := fun W k x u => World.cell?_setCell_other _ _ _ _ (by simp [hne])
      obtain ⟨X, hX⟩ : ∃ X, l.getD j 0 = X := ⟨_, rfl⟩
      obtain ⟨Y, hY⟩ : ∃ Y, l.getD (6 + j) 0 = Y := ⟨_, rfl⟩
      rw [hX] at q0
      rw [hY] at q1
      have HXY : Hid (gt l j = X ∧ gt l (6 + j) = Y) := ⟨hX, hY⟩
      clear hX hY
      have hw : IntKind.i64.wrap (6 + (j : Int)) = 6 + (j : Int) := IntWalk.i64_in _ (by omega)
      have ht : ((6 : Int) + (j : Int)).toNat = 6 + j := by omega
      have hu : (6 + j) < n := by have := H.out.2.2; omega
      have hu' : j < n := by omega
      clear hsr hS hb' Dj
      go_wp2
      go_region_held3 (fun w' => w'.cell? ⟨b, o + j, none⟩ = some (.int .u8 X) ∧ w'.cell? ⟨b, o + (6 + j), none⟩ = some (.int .u8 Y)) (go_keep) (fail)
      rename_i hS
      clear hS hcc hw ht
      have hD2 : Dec w ((wr.setCell ⟨B, j, none⟩ (.int .u8 X)).setCell ⟨B, 6 + j, none⟩ (.int .u8 Y)).drew B (pf l (j + 1) false) (.slice none 0 0) := by
        have hd := HD.out
        have h1 := pf_step hlt hd.fr
        rw [HXY.out.1, HXY.out.2] at h1
        exact (Dec.mk ((hd.z.apart (by have := hd.lt; simp; omega) _).apart (by have := hd.lt; simp; omega) _) h1 ((hd.below.setCell (by have := hd.lt; simp; omega) _).setCell (by have := hd.lt; simp; omega) _) hd.lt).later (Below.refl _ _).drew
      have HD2 : Hid _ := hD2
      clear hD2 q0 q1 p0 p1 lv
      go_wp2
      go_roundw
      case rel => exact ⟨j + 1, by omega, by go_num, HD2.out⟩
      case measure => simp [intOf]; omega
    · have : j = 6 := by omega
      subst this
      rw [show ((6 : Nat) : Int) = 6 from rfl]
      rw [pf_six] at Dj
      have c12 := Dj.fr.c12
      have D6 : Hid (Dec w _ B ⟨m6 l 0, m6 l 6, false, 0, false, 0⟩ (.slice none 0 0)) := Dj
      clear Dj
      have EF : (⟨m6 l 0, m6 l 6, false, 0, false, 0⟩ : Fr) = rawF l := by
        unfold rawF
        rw [HT.out]
        rfl
      rw [EF] at D6
      clear EF
      have EE : Hid (dcE l = chkF (rawF l) (rawR l)) := by unfold dcE; rw [HS.out, if_neg (by simp)]; rfl
      go_wp2_with (at_builtin; refine wpList_app rfl _ _ rfl (by rfl) (by rfl) (own_at wr wr.heap.size (by simp)) (TR.out.below (D6.out.below.alloc D6.out.below.size _)) (by have := HL.out; simp; omega) (by simp) ?_)
      intro v7 w7 ho7 hg7 _
      have hw7 : Below (World.heap wr).size wr w7 := ((Below.refl _ _).alloc (Nat.le_refl _) _).trans ((grown_below (own_at wr wr.heap.size (by simp)) hg7 (by simp)).mono (by simp))
      obtain ⟨a7, n7, c7, rfl⟩ := src_form ho7.src
      have D7 : Hid (Dec w w7 B (rawF l) (.slice none 0 0)) := D6.out.later hw7
      have O7 : Hid (Own w7 w.heap.size (.slice a7 n7 c7) (rawR l) ∧ ∀ k, (Value.slice a7 n7 c7).ownBlock = some k → w.heap.size < k ∧ B < k) := ⟨(by simpa using ho7 : Own w7 _ (.slice a7 n7 c7) (rawR l)).base D6.out.below.size, fun k hk => by have h1 := (ho7.block k hk).1; have h2 := D6.out.fr.lt; have h3 := D6.out.z.lt; (try simp at h2 h3); omega⟩
      have t16 := D7.out.fr.c16
      have lv7 := D7.out.fr.live
      have D8 : Hid (Dec w (w7.setCell ⟨B, 16, none⟩ (.slice a7 n7 c7)) B (rawF l) (.slice a7 n7 c7)) := D7.out.cell (D7.out.fr.rest _)
      have O8 : Hid (Own (w7.setCell ⟨B, 16, none⟩ (.slice a7 n7 c7)) w.heap.size (.slice a7 n7 c7) (rawR l)) := O7.out.1.of_block fun k hk => by have := O7.out.2 k hk; rw [heap_setCell_other _ _ _ _ (by simp; omega)]
      have l8 := D8.out.fr.ld
      have HC : Hid _ := checkref_any (rawF l) (.slice a7 n7 c7) (rawR l) _ O8.out.src HR.out (rawF_ok H.out.2.1)
      clear ho7 hg7 hw7 D6 c12
      by_cases he : chkF (rawF l) (rawR l) = 0
      · rw [he] at HC EE
        go_wp2_with fail
        refine Calls.mono HC.out ?_
        rintro _ W9 ⟨rfl, hb9⟩
        have D9 : Hid (Dec w W9 B (rawF l) (.slice a7 n7 c7)) := D8.out.later hb9
        have O9 : Hid (Own W9 w.heap.size (.slice a7 n7 c7) (rawR l)) := O8.out.below hb9
        have l9 := D9.out.fr.ld
        obtain ⟨st9, F9, B9⟩ := D9.out.whole rfl
        have HH : Hid _ := And.intro F9 B9
        clear hb9 F9 B9 t16 lv7 l8 D8 O8 D7
        go_wp2
        refine bodyPost_ret (results_two Try.results29 _ _ _ _ _ _ rfl rfl HH.out.1) rfl ?_
        refine dc_ok EE.out ?_ HH.out.2
        refine O9.out.of_block fun k hk => ?_
        have := O7.out.2 k hk
        rw [setRow_other _ _ _ _ (by omega)]
      · have e30 := chk_le HL.out he
        rw [e30] at HC EE
        clear he e30
        go_wp2_with fail
        refine Calls.mono HC.out ?_
        rintro _ W9 ⟨rfl, hb9⟩
        have D9 : Hid (Dec w W9 B (rawF l) (.slice a7 n7 c7)) := D8.out.later hb9
        have z9 := D9.out.zero
        have HH : Hid _ := D9.out.zeroAt
        clear hb9 t16 lv7 l8 D8 O8 D7 D9
        go_wp2
        refine bodyPost_ret (results_two Try.results29 _ _ _ _ _ _ rfl rfl HH.out.1) rfl ?_
        exact dc_err 30 EE.out (by omega) HH.out.2

set_option maxHeartbeats 2000000 in
theorem dref_maint (x : Value) (l : List Int) (w : World) (h : Src w x l) (hb : ∀ x ∈ l, 0 ≤ x ∧ x ≤ 255) (h14 : 14 ≤ l.length) (ht : dcT l = true) (h18 : 18 ≤ l.length) (hs : shortB l = false) (hL : ¬ 1502 < (rawR l).length) (hl : l.length ≤ 1900) :
    Calls Try.prog 29 #[x] w fun r w' => DcOut l w r w' := by
  obtain ⟨a, n, c, rfl⟩ := src_form h
  obtain ⟨b, o, rfl, hbw, hj⟩ := src_some h (by omega)
  obtain ⟨hn, hc, hm⟩ := src_short h
  have hz := zero_new w
  have hB : Below w.heap.size w (w.alloc (.cells #[.int .u8 0, .int .u8 0, .int .u8 0, .int .u8 0, .int .u8 0, .int .u8 0, .int .u8 0, .int .u8 0, .int .u8 0, .int .u8 0, .int .u8 0, .int .u8 0, .bool false, .int .i64 0, .bool false, .int .i64 0, .slice none 0 0] 34)) := (Below.refl _ _).alloc (Nat.le_refl _) _
  have hk := fun W (hW : Below w.heap.size w W) => tagged_any (dropV b o n c 12) (l.drop 12) W ((src_dropV h 12 (by omega)).below hW) (fun x hx => hb x (List.mem_of_mem_drop hx))
  rw [show (tyN (l.drop 12) == 34984) = true from ht] at hk
  have HK : Hid _ := hk
  have HZ : Hid (FrAt (w.alloc (.cells #[.int .u8 0, .int .u8 0, .int .u8 0, .int .u8 0, .int .u8 0, .int .u8 0, .int .u8 0, .int .u8 0, .int .u8 0, .int .u8 0, .int .u8 0, .int .u8 0, .bool false, .int .i64 0, .bool false, .int .i64 0, .slice none 0 0] 34)) w.heap.size zeroF (.slice none 0 0) ∧ Below w.heap.size w (w.alloc (.cells #[.int .u8 0, .int .u8 0, .int .u8 0, .int .u8 0, .int .u8 0, .int .u8 0, .int .u8 0, .int .u8 0, .int .u8 0, .int .u8 0, .int .u8 0, .int .u8 0, .bool false, .int .i64 0, .bool false, .int .i64 0, .slice none 0 0] 34))) := ⟨hz, hB⟩
  have hs12 : ∀ W, (slS (.slice (some ⟨b, o, none⟩) n c) (some (.int .i64 12)) none none).run Try.prog W = .ok (dropV b o n c 12) W := fun W => slS_drop b o n c 12 (by omega) hc hm W
  have H : Hid (Src w (.slice (some ⟨b, o, none⟩) n c) l ∧ (∀ x ∈ l, 0 ≤ x ∧ x ≤ 255) ∧ 14 ≤ l.length ∧ n = l.length) := ⟨h, hb, h14, hn⟩
  have HT : Hid (dcT l = true) := ht
  have h3 : ¬ (n : Int) < 14 := by omega
  have h4 : ¬ (n : Int) < 18 := by omega
  have hs16 : ∀ W, (slS (.slice (some ⟨b, o, none⟩) n c) (some (.int .i64 16)) none none).run Try.prog W = .ok (dropV b o n c 16) W := fun W => slS_drop b o n c 16 (by omega) hc hm W
  have hs14 : ∀ W, (slS (.slice (some ⟨b, o, none⟩) n c) (some (.int .i64 14)) none none).run Try.prog W = .ok (dropV b o n c 14) W := fun W => slS_drop b o n c 14 (by omega) hc hm W
  have TR : Hid (Src w (dropV b o n c 16) (rawR l)) := by
    have e : rawR l = l.drop 16 := by unfold rawR; rw [ht]; rfl
    rw [e]
    exact src_dropV h 16 (by omega)
  obtain ⟨ar, nr, cr, hr⟩ := src_form TR.out
  rw [hr] at TR
  obtain ⟨hnr, hcr, hmr⟩ := src_short TR.out
  rw [hr] at hs16
  have h5 : ¬ (1502 : Int) < (nr : Int) := by omega
  have HS : Hid (shortB l = false) := hs
  have HL : Hid (¬ 1502 < (rawR l).length) := hL
  have HL2 : Hid (l.length ≤ 1900) := hl
  have HR : Hid (∀ x ∈ rawR l, 0 ≤ x ∧ x ≤ 255) := by
    intro x hx
    unfold rawR at hx
    split at hx
    · exact hb x (List.mem_of_mem_drop hx)
    · exact hb x (List.mem_of_mem_drop hx)
  have T14 : Hid (Src w (dropV b o n c 14) (l.drop 14)) := src_dropV h 14 (by omega)
  obtain ⟨a14, n14, c14, hr14⟩ := src_form T14.out
  rw [hr14] at T14 hs14
  clear hr14 h18
  clear hnr hs hL hl
  clear h hb hz hB hk ht hj hn
  go_enter Try.func29, Try.ntmps29
  go_wp2_with fail
  refine Calls.mono (HK.out _ HZ.out.2) ?_
  rintro _ W ⟨rfl, hW⟩
  have D0 : Dec w (W.alloc (.cells #[.int .u8 0, .int .u8 0, .int .u8 0, .int .u8 0, .int .u8 0, .int .u8 0, .int .u8 0, .int .u8 0, .int .u8 0, .int .u8 0, .int .u8 0, .int .u8 0, .bool false, .int .i64 0, .bool false, .int .i64 0, .slice none 0 0] 34)) W.heap.size zeroF (.slice none 0 0) := Dec.start (HZ.out.1.below hW) (below_over HZ.out.2 hW)
  have st := D0.fr.stv (g := ⟨zeroF.d, zeroF.s, true, 0, false, 0⟩) (y := .slice none 0 0) rfl (.agg #[.int .u8 0, .int .u8 0, .int .u8 0, .int .u8 0, .int .u8 0, .int .u8 0, .int .u8 0, .int .u8 0, .int .u8 0, .int .u8 0, .int .u8 0, .int .u8 0, .bool true, .int .i64 0, .bool false, .int .i64 0, .slice none 0 0]) rfl
  have D1 : Hid (Dec w ((W.alloc (.cells #[.int .u8 0, .int .u8 0, .int .u8 0, .int .u8 0, .int .u8 0, .int .u8 0, .int .u8 0, .int .u8 0, .int .u8 0, .int .u8 0, .int .u8 0, .int .u8 0, .bool false, .int .i64 0, .bool false, .int .i64 0, .slice none 0 0] 34)).setRow W.heap.size (fcs ⟨zeroF.d, zeroF.s, true, 0, false, 0⟩ (.slice none 0 0))) W.heap.size ⟨zeroF.d, zeroF.s, true, 0, false, 0⟩ (.slice none 0 0)) := D0.row _ _
  have c12 := D1.out.fr.c12
  clear hW HK HZ D0
  go_wp2
  obtain ⟨W1, hW1⟩ : ∃ W1, (W.alloc (.cells #[.int .u8 0, .int .u8 0, .int .u8 0, .int .u8 0, .int .u8 0, .int .u8 0, .int .u8 0, .int .u8 0, .int .u8 0, .int .u8 0, .int .u8 0, .int .u8 0, .bool false, .int .i64 0, .bool false, .int .i64 0, .slice none 0 0] 34)).setRow W.heap.size (fcs ⟨zeroF.d, zeroF.s, true, 0, false, 0⟩ (.slice none 0 0)) = W1 := ⟨_, rfl⟩
  rw [hW1] at D1 ⊢
  clear st c12 hW1
  obtain ⟨B, hBB⟩ : ∃ B, W.heap.size = B := ⟨_, rfl⟩
  rw [hBB] at D1 ⊢
  clear hBB W
  have HBW : Hid (b < w.heap.size) := hbw
  clear hbw
  go_loopw [6] (fun v6 wr => ∃ j : Nat, j ≤ 6 ∧ v6 = .int .i64 j ∧ Dec w wr B (pf l j true) (.slice none 0 0)) (fun v6 _ => 6 - (intOf v6).toNat)
  case atStart => exact ⟨0, by omega, rfl, D1.out⟩
  case round =>
    clear D1 W1
    obtain ⟨j, hj, rfl, Dj⟩ := hrel
    by_cases hlt : j < 6
    · have hS := (H.out.1.below Dj.below)
      obtain ⟨b', o', eb, hb', hsr⟩ := src_some hS (by have := H.out.2.2.1; omega)
      cases eb
      have q0 := hsr j (by have := H.out.2.2.1; omega)
      have q1 := hsr (6 + j) (by have := H.out.2.2.1; omega)
      obtain ⟨u, v, p0, p1⟩ := pf_cell Dj.fr j hlt
      have lv := Dj.fr.live
      have hne : b ≠ B := by have := HBW.out; have := Dj.lt; omega
      have HD : Hid (Dec w _ B (pf l j true) (.slice none 0 0)) := Dj
      have i0 : (0 : Int) ≤ (j : Int) := by omega
      have i1 : (j : Int) < 6 := by omega
      have i2 : (j : Int) < (n : Int) := by have := H.out.2.2; omega
      have i3 : (6 : Int) + (j : Int) < (n : Int) := by have := H.out.2.2; omega
      have i4 : (0 : Int) ≤ (6 : Int) + (j : Int) := by omega
      have hcc : ∀ (W : World) (k x : Nat) (u : Value), (W.setCell ⟨B, k, none⟩ u).cell? ⟨b, x, none⟩ = W.cell? ⟨b, x, none⟩ := fun W k x u => World.cell?_setCell_other _ _ _ _ (by simp [hne])
      obtain ⟨X, hX⟩ : ∃ X, l.getD j 0 = X := ⟨_, rfl⟩
      obtain ⟨Y, hY⟩ : ∃ Y, l.getD (6 + j) 0 = Y := ⟨_, rfl⟩
      rw [hX] at q0
      rw [hY] at q1
      have HXY : Hid (gt l j = X ∧ gt l (6 + j) = Y) := ⟨hX, hY⟩
      clear hX hY
      have hw : IntKind.i64.wrap (6 + (j : Int)) = 6 + (j : Int) := IntWalk.i64_in _ (by omega)
      have ht : ((6 : Int) + (j : Int)).toNat = 6 + j := by omega
      have hu : (6 + j) < n := by have := H.out.2.2; omega
      have hu' : j < n := by omega
      clear hsr hS hb' Dj
      go_wp2
      go_region_held3 (fun w' => w'.cell? ⟨b, o + j, none⟩ = some (.int .u8 X) ∧ w'.cell? ⟨b, o + (6 + j), none⟩ = some (.int .u8 Y)) (go_keep) (fail)
      rename_i hS
      clear hS hcc hw ht
      have hD2 : Dec w ((wr.setCell ⟨B, j, none⟩ (.int .u8 X)).setCell ⟨B, 6 + j, none⟩ (.int .u8 Y)).drew B (pf l (j + 1) true) (.slice none 0 0) := by
        have hd := HD.out
        have h1 := pf_step hlt hd.fr
        rw [HXY.out.1, HXY.out.2] at h1
        exact (Dec.mk ((hd.z.apart (by have := hd.lt; simp; omega) _).apart (by have := hd.lt; simp; omega) _) h1 ((hd.below.setCell (by have := hd.lt; simp; omega) _).setCell (by have := hd.lt; simp; omega) _) hd.lt).later (Below.refl _ _).drew
      have HD2 : Hid _ := hD2
      clear hD2 q0 q1 p0 p1 lv
      go_wp2
      go_roundw
      case rel => exact ⟨j + 1, by omega, by go_num, HD2.out⟩
      case measure => simp [intOf]; omega
    · have : j = 6 := by omega
      subst this
      rw [show ((6 : Nat) : Int) = 6 from rfl]
      rw [pf_six] at Dj
      have c12 := Dj.fr.c12
      have D6 : Hid (Dec w _ B ⟨m6 l 0, m6 l 6, true, 0, false, 0⟩ (.slice none 0 0)) := Dj
      clear Dj
      have HQ : Hid _ := fun W (hW : Below w.heap.size w W) => takeref_any a14 n14 c14 (l.drop 14) W (T14.out.below hW) (by have := HL2.out; simp; omega) (fun x hx => H.out.2.1 x (List.mem_of_mem_drop hx))
      obtain ⟨P, hP⟩ : ∃ P, tkP (l.drop 14) = P := ⟨_, rfl⟩
      obtain ⟨Q, hQ⟩ : ∃ Q, tkD (l.drop 14) = Q := ⟨_, rfl⟩
      obtain ⟨V, hV⟩ : ∃ V, tkV (l.drop 14) = V := ⟨_, rfl⟩
      obtain ⟨G, hG⟩ : ∃ G, tkE (l.drop 14) = G := ⟨_, rfl⟩
      have EF : Hid ((⟨m6 l 0, m6 l 6, true, P, Q, V⟩ : Fr) = rawF l) := by
        unfold rawF
        rw [HT.out, ← hP, ← hQ, ← hV]
        rfl
      have HG : Hid (tkE (l.drop 14) = G) := hG
      go_wp2_with fail
      refine Calls.mono (HQ.out _ D6.out.below) ?_
      rintro _ W7 ⟨s7, rfl, _, hb7⟩
      rw [hP, hQ, hV, hG]
      have D7 : Hid (Dec w (W7.alloc (.cells #[.int .i64 P, .bool Q, .int .i64 V] 32)) B ⟨m6 l 0, m6 l 6, true, 0, false, 0⟩ (.slice none 0 0)) := (D6.out.later hb7).later ((Below.refl _ _).alloc (Nat.le_refl _) _)
      clear hb7 c12 D6 hP hQ hV hG HQ
      by_cases hg : G = 0
      · subst hg
        have l25 := ld25_new W7 P Q V
        have k13 := D7.out.fr.c13
        have k14 := D7.out.fr.c14
        have k15 := D7.out.fr.c15
        have lvk := D7.out.fr.live
        have F10 := D7.out.fr.tags P Q V
        have D10 : Hid (Dec w (((( W7.alloc (.cells #[.int .i64 P, .bool Q, .int .i64 V] 32)).setCell ⟨B, 13, none⟩ (.int .i64 P)).setCell ⟨B, 14, none⟩ (.bool Q)).setCell ⟨B, 15, none⟩ (.int .i64 V)) B ⟨m6 l 0, m6 l 6, true, P, Q, V⟩ (.slice none 0 0)) := ⟨((D7.out.z.apart (by have := D7.out.lt; simp; omega) _).apart (by have := D7.out.lt; simp; omega) _).apart (by have := D7.out.lt; simp; omega) _, F10, ((D7.out.below.setCell (by have := D7.out.lt; simp; omega) _).setCell (by have := D7.out.lt; simp; omega) _).setCell (by have := D7.out.lt; simp; omega) _, D7.out.lt⟩
        rw [EF.out] at D10
        clear F10 D7
        have EE : Hid (dcE l = chkF (rawF l) (rawR l)) := by unfold dcE; rw [HS.out, if_neg (by simp)]; rfl
        go_wp2_with (at_builtin; refine wpList_app rfl _ _ rfl (by rfl) (by rfl) (own_at ((((W7.alloc (.cells #[.int .i64 P, .bool Q, .int .i64 V] 32)).setCell ⟨B, 13, none⟩ (.int .i64 P)).setCell ⟨B, 14, none⟩ (.bool Q)).setCell ⟨B, 15, none⟩ (.int .i64 V)) (W7.heap.size + 1) (by simp)) (TR.out.below (D10.out.below.alloc D10.out.below.size _)) (by have := HL.out; simp; omega) (by simp) ?_)
        intro v7 w7 ho7 hg7 _
        have hw7 : Below (World.heap ((((W7.alloc (.cells #[.int .i64 P, .bool Q, .int .i64 V] 32)).setCell ⟨B, 13, none⟩ (.int .i64 P)).setCell ⟨B, 14, none⟩ (.bool Q)).setCell ⟨B, 15, none⟩ (.int .i64 V))).size ((((W7.alloc (.cells #[.int .i64 P, .bool Q, .int .i64 V] 32)).setCell ⟨B, 13, none⟩ (.int .i64 P)).setCell ⟨B, 14, none⟩ (.bool Q)).setCell ⟨B, 15, none⟩ (.int .i64 V)) w7 := ((Below.refl _ _).alloc (Nat.le_refl _) _).trans ((grown_below (own_at ((((W7.alloc (.cells #[.int .i64 P, .bool Q, .int .i64 V] 32)).setCell ⟨B, 13, none⟩ (.int .i64 P)).setCell ⟨B, 14, none⟩ (.bool Q)).setCell ⟨B, 15, none⟩ (.int .i64 V)) (W7.heap.size + 1) (by simp)) hg7 (by simp)).mono (by simp))
        obtain ⟨a7, n7, c7, rfl⟩ := src_form ho7.src
        have D7 : Hid (Dec w w7 B (rawF l) (.slice none 0 0)) := D10.out.later hw7
        have O7 : Hid (Own w7 w.heap.size (.slice a7 n7 c7) (rawR l) ∧ ∀ k, (Value.slice a7 n7 c7).ownBlock = some k → w.heap.size < k ∧ B < k) := ⟨(by simpa using ho7 : Own w7 _ (.slice a7 n7 c7) (rawR l)).base D10.out.below.size, fun k hk => by have h1 := (ho7.block k hk).1; have h2 := D10.out.fr.lt; have h3 := D10.out.z.lt; (try simp at h2 h3); omega⟩
        have t16 := D7.out.fr.c16
        have lv7 := D7.out.fr.live
        have D8 : Hid (Dec w (w7.setCell ⟨B, 16, none⟩ (.slice a7 n7 c7)) B (rawF l) (.slice a7 n7 c7)) := D7.out.cell (D7.out.fr.rest _)
        have O8 : Hid (Own (w7.setCell ⟨B, 16, none⟩ (.slice a7 n7 c7)) w.heap.size (.slice a7 n7 c7) (rawR l)) := O7.out.1.of_block fun k hk => by have := O7.out.2 k hk; rw [heap_setCell_other _ _ _ _ (by simp; omega)]
        have l8 := D8.out.fr.ld
        have HC : Hid _ := checkref_any (rawF l) (.slice a7 n7 c7) (rawR l) _ O8.out.src HR.out (rawF_ok H.out.2.1)
        clear ho7 hg7 hw7 D10 l25 k13 k14 k15 lvk
        by_cases he : chkF (rawF l) (rawR l) = 0
        · rw [he] at HC EE
          go_wp2_with fail
          refine Calls.mono HC.out ?_
          rintro _ W9 ⟨rfl, hb9⟩
          have D9 : Hid (Dec w W9 B (rawF l) (.slice a7 n7 c7)) := D8.out.later hb9
          have O9 : Hid (Own W9 w.heap.size (.slice a7 n7 c7) (rawR l)) := O8.out.below hb9
          have l9 := D9.out.fr.ld
          obtain ⟨st9, F9, B9⟩ := D9.out.whole rfl
          have HH : Hid _ := And.intro F9 B9
          clear hb9 F9 B9 t16 lv7 l8 D8 O8 D7
          go_wp2
          refine bodyPost_ret (results_two Try.results29 _ _ _ _ _ _ rfl rfl HH.out.1) rfl ?_
          refine dc_ok EE.out ?_ HH.out.2
          refine O9.out.of_block fun k hk => ?_
          have := O7.out.2 k hk
          rw [setRow_other _ _ _ _ (by omega)]
        · have e30 := chk_le HL.out he
          rw [e30] at HC EE
          clear he e30
          go_wp2_with fail
          refine Calls.mono HC.out ?_
          rintro _ W9 ⟨rfl, hb9⟩
          have D9 : Hid (Dec w W9 B (rawF l) (.slice a7 n7 c7)) := D8.out.later hb9
          have z9 := D9.out.zero
          have HH : Hid _ := D9.out.zeroAt
          clear hb9 t16 lv7 l8 D8 O8 D7 D9
          go_wp2
          refine bodyPost_ret (results_two Try.results29 _ _ _ _ _ _ rfl rfl HH.out.1) rfl ?_
          exact dc_err 30 EE.out (by omega) HH.out.2
      · have hg' : (G != 0) = true := by simpa using hg
        have EE : Hid (dcE l = 30) := dcE_tag HS.out HL.out HT.out (by rw [HG.out]; exact hg)
        have z9 := D7.out.zero
        have HH : Hid _ := D7.out.zeroAt
        clear hg D7
        go_wp2
        refine bodyPost_ret (results_two Try.results29 _ _ _ _ _ _ rfl rfl HH.out.1) rfl ?_
        exact dc_err 30 EE.out (by omega) HH.out.2

theorem dref_any (x : Value) (l : List Int) (w : World) (h : Src w x l) (hb : ∀ x ∈ l, 0 ≤ x ∧ x ≤ 255) (hl : l.length ≤ 1900) : Calls Try.prog 29 #[x] w fun r w' => DcOut l w r w' := by
  by_cases h14 : l.length < 14
  · exact dref_few x l w h h14
  · cases ht : dcT l
    · have hs : shortB l = false := shortB_iff.2 ⟨by omega, fun e => by rw [ht] at e; cases e⟩
      by_cases hL : 1502 < (rawR l).length
      · exact dref_longp x l w h hb (by omega) ht hs hL
      · exact dref_mainp x l w h hb (by omega) ht hs hL hl
    · by_cases h18 : l.length < 18
      · exact dref_cut x l w h hb (by omega) ht h18
      · have hs : shortB l = false := shortB_iff.2 ⟨by omega, fun _ => by omega⟩
        by_cases hL : 1502 < (rawR l).length
        · exact dref_longt x l w h hb (by omega) ht (by omega) hs hL
        · exact dref_maint x l w h hb (by omega) ht (by omega) hs hL hl
end S4
end Go.Proofs.Ytgjagedngdhdaaa
