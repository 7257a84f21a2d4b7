/-
  PbbBack: what is encoded is decoded, and what is decoded, encoded, is what it was: the walk.
-/
import Derived.Test.YteljcgdenagcmaaBBegin
namespace Go.Proofs.Yteljcgdenagcmaa
set_option linter.unusedVariables false
set_option maxRecDepth 4000
set_option linter.unusedSimpArgs false
open Go.RowKit

attribute [local go_sem ↓] slS_eq ldS23 ldS25 ldI27 ldS30 ldS38 stS38 stS30 stS25

set_option maxHeartbeats 4000000 in
theorem PbbBack_walk (f : Bf) (x : Value) (l : List Int) (a : Option Addr) (n c : Nat) (m : List Int) (w : World) (hf : f.ok) (h : Src w x l) (hb : ∀ x ∈ l, 0 ≤ x ∧ x ≤ 255) (h' : Src w (.slice a n c) m) (hb' : ∀ x ∈ m, 0 ≤ x ∧ x ≤ 255) :
    Calls Try.prog 6 #[.agg (bcs f x), .slice a n c] w fun r w' => r = .returned (.bool true) ∧ Below w.heap.size w w' := by
  obtain ⟨B, hBB⟩ : ∃ B, m.take 1600 = B := ⟨_, rfl⟩
  have HB : Hid (∀ x ∈ B, 0 ≤ x ∧ x ≤ 255) := by rw [← hBB]; exact take_b hb' 1600
  have hF := BfAt.new w f x
  have hB : Below w.heap.size w (w.alloc (.cells (bcs f x) 30)) := (Below.refl _ _).alloc (Nat.le_refl _) _
  have ld := hF.ld
  have H : Hid (Src w x l ∧ f.ok ∧ (∀ x ∈ l.take 1510, 0 ≤ x ∧ x ≤ 255)) := ⟨h, hf, take_b hb 1510⟩
  have H' : Hid (Src w (.slice a n c) m) := h'
  have N0 : Hid (BfAt (w.alloc (.cells (bcs f x) 30)) w.heap.size f x ∧ Below w.heap.size w (w.alloc (.cells (bcs f x) 30))) := ⟨hF, hB⟩
  clear h hf hb hF hB h' hb'
  go_enter Try.func6, Try.ntmps6
  go_wp2_with fail
  refine (fewb_any f x l w _ H.out.1).mono ?_
  rintro _ w1 ⟨y, rfl, s1, b1⟩
  obtain ⟨L, hL⟩ : ∃ L, l.take 1510 = L := ⟨_, rfl⟩
  rw [hL] at s1 H
  obtain ⟨W1, st1, F1, B1, _, _⟩ := (N0.out.1.below b1).stx (w := w) (g := f) (y := y) (src_one s1) (Nat.le_refl _) (below_over N0.out.2 b1)
  have N1 : Hid (BfAt W1 w.heap.size f y ∧ Below w.heap.size w W1) := ⟨F1, B1⟩
  have SY : Hid (Src w y L) := s1
  clear s1 b1 F1 B1 N0 ld hL
  go_wp2_with fail
  refine (cut_any _ m w _ H'.out).mono ?_
  rintro _ w0 ⟨k, rfl, s0, e0⟩
  rw [hBB] at s0
  have SB : Hid (Src w k B) := s0
  have N1' : Hid (BfAt w0 w.heap.size f y ∧ Below w.heap.size w w0) := ⟨N1.out.1.below e0, below_over N1.out.2 e0⟩
  have l1 := N1'.out.1.ld
  clear e0 s0 hBB N1 st1
  go_wp2_with fail
  refine (bencode_any f y L _ (SY.out.below N1'.out.2) H.out.2.2 H.out.2.1).mono ?_
  rintro _ w2 ⟨s2, rfl, o2, b2⟩
  have N2 : Hid (BfAt w2 w.heap.size f y ∧ Below w.heap.size w w2) := ⟨N1'.out.1.below b2, below_over N1'.out.2 b2⟩
  by_cases hE : chkB f L = 0
  · have HE : Hid (chkB f L = 0) := hE
    rw [show bencO f L = bencL f L from if_pos hE] at o2
    have O2 : Hid (Src w2 s2 (bencL f L)) := o2.src
    rw [hE]
    have l2 := N2.out.1.ld
    clear hE o2 b2 N1' l1
    go_wp2_with fail
    refine (bdec_any _ (bencL f L) _ O2.out (benc_bytes H.out.2.1 H.out.2.2 HE.out)).mono ?_
    rintro _ w3 ⟨y3, rfl, o3, b3⟩
    obtain ⟨d1, d2, d3⟩ := benc_dec HE.out
    rw [d1, d2]
    rw [d3] at o3
    obtain ⟨W3, st3, F3, E3⟩ := bstore_new w3 f y3 (src_one o3.src)
    have e3 := below_over b3 E3
    have N3 : Hid (BfAt W3 w3.heap.size f y3 ∧ Src W3 y3 L ∧ BfAt W3 w.heap.size f y ∧ Below w.heap.size w W3) := ⟨F3, o3.src.below E3, N2.out.1.below e3, below_over N2.out.2 e3⟩
    have l3 := N3.out.1.ld
    have l4 := N3.out.2.2.1.ld
    have HS : Hid _ := bsameref_any f f y y3 L L W3 (SY.out.below N3.out.2.2.2) N3.out.2.1
    rw [sameBb_self] at HS
    clear o3 b3 F3 E3 e3 N2 O2 l2 d1 d2 d3
    go_wp2_with fail
    refine Calls.mono HS.out ?_
    rintro _ w4 ⟨rfl, b4⟩
    have N4 : Hid (Below w.heap.size w w4) := below_over N3.out.2.2.2 b4
    clear b4 N3 l3 l4 HS st3
    go_wp2_with fail
    refine (bdec_any _ B _ (SB.out.below N4.out) HB.out).mono ?_
    rintro _ w7 ⟨y7, rfl, o7, b7⟩
    obtain ⟨W7, st7, F7, E7⟩ := bstore_new w7 (bdF B) y7 (src_one o7.src)
    have N7 : Hid (BfAt W7 w7.heap.size (bdF B) y7 ∧ Src W7 y7 (bdR B) ∧ Below w.heap.size w W7) := ⟨F7, o7.src.below E7, below_over N4.out (below_over b7 E7)⟩
    have l7 := N7.out.1.ld
    clear o7 b7 F7 E7 N4
    by_cases hB0 : bdE B = 0
    · have HE : Hid (chkB (bdF B) (bdR B) = 0 ∧ bencL (bdF B) (bdR B) = B) := bdec_enc HB.out hB0
      have HF : Hid ((bdF B).ok ∧ ∀ x ∈ bdR B, 0 ≤ x ∧ x ≤ 255) := bd_ok' HB.out
      rw [hB0]
      clear hB0
      go_wp2_with fail
      refine (bencode_yes (bdF B) y7 (bdR B) _ N7.out.2.1 HF.out.2 HF.out.1 HE.out.1).mono ?_
      rintro _ w8 ⟨s8, rfl, o8, b8⟩
      rw [HE.out.2] at o8
      have B8 : Hid (Below w.heap.size w w8) := below_over N7.out.2.2 b8
      have q8 := o8.src.string
      have q9 := (SB.out.below B8.out).string
      clear o8 b8 l7 N7 st7
      go_wp2_with fail
      refine Calls.on_later (awake_any _) ?_
      intro y9
      go_wp2
      go_ret
      exact ⟨rfl, below_later B8.out y9⟩
    · have HZ : Hid (bdF B = zeroB ∧ bdR B = []) := ⟨by unfold bdF; rw [if_neg hB0], by unfold bdR; rw [if_neg hB0]⟩
      have HK : Hid _ := bsameref_any (bdF B) zeroB y7 (.slice none 0 0) (bdR B) [] W7 N7.out.2.1 (src_nil _)
      rw [HZ.out.1, HZ.out.2, sameBb_self] at HK
      rw [HZ.out.1] at l7 st7 ⊢
      obtain ⟨E, hE⟩ : ∃ E, bdE B = E := ⟨_, rfl⟩
      rw [hE] at hB0 ⊢
      have hE' : (E != 0) = true := by simpa using hB0
      clear hE hB0
      go_wp2_with fail
      refine Calls.mono HK.out ?_
      rintro _ w8 ⟨rfl, b8⟩
      have B8 : Hid (Below w.heap.size w w8) := below_over N7.out.2.2 b8
      clear b8 l7 N7 st7 HK
      go_wp2_with fail
      refine Calls.on_later (awake_any _) ?_
      intro y9
      go_wp2
      go_ret
      exact ⟨rfl, below_later B8.out y9⟩
  · obtain ⟨E, hEE⟩ : ∃ E, chkB f L = E := ⟨_, rfl⟩
    rw [hEE] at hE ⊢
    have hE' : (E == 0) = false := by simpa using hE
    have N4 : Hid (Below w.heap.size w w2) := N2.out.2
    clear hE hEE o2 b2 N1' N2 l1
    go_wp2_with fail
    refine (bdec_any _ B _ (SB.out.below N4.out) HB.out).mono ?_
    rintro _ w7 ⟨y7, rfl, o7, b7⟩
    obtain ⟨W7, st7, F7, E7⟩ := bstore_new w7 (bdF B) y7 (src_one o7.src)
    have N7 : Hid (BfAt W7 w7.heap.size (bdF B) y7 ∧ Src W7 y7 (bdR B) ∧ Below w.heap.size w W7) := ⟨F7, o7.src.below E7, below_over N4.out (below_over b7 E7)⟩
    have l7 := N7.out.1.ld
    clear o7 b7 F7 E7 N4
    by_cases hB0 : bdE B = 0
    · have HE : Hid (chkB (bdF B) (bdR B) = 0 ∧ bencL (bdF B) (bdR B) = B) := bdec_enc HB.out hB0
      have HF : Hid ((bdF B).ok ∧ ∀ x ∈ bdR B, 0 ≤ x ∧ x ≤ 255) := bd_ok' HB.out
      rw [hB0]
      clear hB0
      go_wp2_with fail
      refine (bencode_yes (bdF B) y7 (bdR B) _ N7.out.2.1 HF.out.2 HF.out.1 HE.out.1).mono ?_
      rintro _ w8 ⟨s8, rfl, o8, b8⟩
      rw [HE.out.2] at o8
      have B8 : Hid (Below w.heap.size w w8) := below_over N7.out.2.2 b8
      have q8 := o8.src.string
      have q9 := (SB.out.below B8.out).string
      clear o8 b8 l7 N7 st7
      go_wp2_with fail
      refine Calls.on_later (awake_any _) ?_
      intro y9
      go_wp2
      go_ret
      exact ⟨rfl, below_later B8.out y9⟩
    · have HZ : Hid (bdF B = zeroB ∧ bdR B = []) := ⟨by unfold bdF; rw [if_neg hB0], by unfold bdR; rw [if_neg hB0]⟩
      have HK : Hid _ := bsameref_any (bdF B) zeroB y7 (.slice none 0 0) (bdR B) [] W7 N7.out.2.1 (src_nil _)
      rw [HZ.out.1, HZ.out.2, sameBb_self] at HK
      rw [HZ.out.1] at l7 st7 ⊢
      obtain ⟨E, hE⟩ : ∃ E, bdE B = E := ⟨_, rfl⟩
      rw [hE] at hB0 ⊢
      have hE' : (E != 0) = true := by simpa using hB0
      clear hE hB0
      go_wp2_with fail
      refine Calls.mono HK.out ?_
      rintro _ w8 ⟨rfl, b8⟩
      have B8 : Hid (Below w.heap.size w w8) := below_over N7.out.2.2 b8
      clear b8 l7 N7 st7 HK
      go_wp2_with fail
      refine Calls.on_later (awake_any _) ?_
      intro y9
      go_wp2
      go_ret
      exact ⟨rfl, below_later B8.out y9⟩
end Go.Proofs.Yteljcgdenagcmaa
