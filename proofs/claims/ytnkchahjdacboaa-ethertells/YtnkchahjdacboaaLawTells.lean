/-
  EtherTells: which frames are the same, the frame in another VLAN, its type, as defined: the walk.
-/
import Derived.Test.YtnkchahjdacboaaStart
import Derived.Test.YtnkchahjdacboaaRetagRef
import Derived.Test.YtnkchahjdacboaaDecRef
import Derived.Deep.RegionWith
namespace Go.Proofs.Ytnkchahjdacboaa
set_option linter.unusedVariables false
set_option linter.unusedSimpArgs false
open Go.RowKit

attribute [local go_sem ↓] slS_eq ldS23 ldS25 ldS28 stS28 nqS_eq eqS_eq eqM_eq

/-- What holds behind the cut of both frames. -/
structure Cuts (w W : World) (f g : Fr) (y y2 : Value) (L M : List Int) : Prop where
  fa : FrAt W w.heap.size f y
  fb : FrAt W (w.heap.size + 1) g y2
  sa : Src w y L
  sb : Src w y2 M
  below : Below w.heap.size w W

theorem light_two {w W : World} {f g : Fr} {x z y y2 : Value} {L M : List Int} (ha : FrAt W w.heap.size f x) (hb : FrAt W (w.heap.size + 1) g z) (hB : Below w.heap.size w W) (sa : Src w y L) (sb : Src w y2 M) :
    ∃ W1 W2, (stS 28 (.pointer (some ⟨w.heap.size, 0, none⟩)) (.agg (fcs f y))).run Try.prog W = .ok () W1 ∧ (stS 28 (.pointer (some ⟨w.heap.size + 1, 0, none⟩)) (.agg (fcs g y2))).run Try.prog W1 = .ok () W2 ∧ Cuts w W2 f g y y2 L M := by
  have h1 := ha.set (g := f) (y := y)
  have h2 := hb.other (k := w.heap.size) (by omega) (fcs f y)
  refine ⟨_, _, ha.st (src_one sa), h2.st (src_one sb), h1.other (by omega) _, h2.set, sa, sb, below_setRow (below_setRow hB (Nat.le_refl _) _) (by omega) _⟩

set_option maxHeartbeats 2000000 in
theorem EtherTells_walk (f : Fr) (x : Value) (l : List Int) (g : Fr) (z : Value) (m : List Int) (v : Int) (w : World) (hf : f.ok) (h : Src w x l) (hb : ∀ x ∈ l, 0 ≤ x ∧ x ≤ 255) (hg : g.ok) (h' : Src w z m) (hb' : ∀ x ∈ m, 0 ≤ x ∧ x ≤ 255) (wv : (Lit.int .i64 v).wf = true) :
    Calls Try.prog 5 #[.agg (fcs f x), .agg (fcs g z), .int .i64 v] w fun r w' => r = .returned (.bool true) ∧ Below w.heap.size w w' := by
  clear wv
  have hB : Below w.heap.size w ((w.alloc (.cells (fcs f x) 28)).alloc (.cells (fcs g z) 28)) := ((Below.refl _ _).alloc (Nat.le_refl _) _).alloc (by simp) _
  have fA : FrAt ((w.alloc (.cells (fcs f x) 28)).alloc (.cells (fcs g z) 28)) w.heap.size f x := (FrAt.new w f x).below ((Below.refl _ _).alloc (Nat.le_refl _) _)
  have fB : FrAt ((w.alloc (.cells (fcs f x) 28)).alloc (.cells (fcs g z) 28)) (w.heap.size + 1) g z := by have := FrAt.new (w.alloc (.cells (fcs f x) 28)) g z; simpa using this
  have HA : Hid (Src w x l) := h
  have HB : Hid (Src w z m) := h'
  have H : Hid (f.ok ∧ (∀ x ∈ l.take 1600, 0 ≤ x ∧ x ≤ 255) ∧ (∀ x ∈ m.take 1600, 0 ≤ x ∧ x ≤ 255)) := ⟨hf, take_b hb 1600, take_b hb' 1600⟩
  have FA : Hid (FrAt ((w.alloc (.cells (fcs f x) 28)).alloc (.cells (fcs g z) 28)).drew w.heap.size f x) := fA.below (Below.refl _ _).drew
  have FB : Hid (FrAt ((w.alloc (.cells (fcs f x) 28)).alloc (.cells (fcs g z) 28)).drew (w.heap.size + 1) g z) := fB.below (Below.refl _ _).drew
  have BB : Hid (Below w.heap.size w ((w.alloc (.cells (fcs f x) 28)).alloc (.cells (fcs g z) 28)).drew) := hB.drew
  have la := FA.out.ld
  have lb := FB.out.ld
  clear h h' hf hg hb hb' hB fA fB
  go_enter Try.func5, Try.ntmps5
  go_wp2
  refine Code.wp_mono (Q := fun e a' w' => ∃ y y2, e = .normal ∧ a' = { tmps := #[.agg (fcs f x), .agg (fcs g z), .int .i64 v, .pointer (some ⟨w.heap.size, 0, none⟩), .pointer (some ⟨w.heap.size + 1, 0, none⟩), undef, .bool false, undef, undef, undef, undef, .agg (fcs f x), .agg (fcs f y), .agg (fcs g z), .agg (fcs g y2), undef, undef, undef, undef, undef, undef, undef, undef, undef, undef, undef, undef, undef, undef, undef, undef, undef, undef, undef, undef, undef, undef, undef, undef, undef, undef, undef, undef, undef, undef, undef, undef, undef, undef, undef, undef, undef, undef, undef, undef, undef, undef, undef, undef], defers := [] } ∧ Cuts w w' f g y y2 (l.take 1600) (m.take 1600)) ?_ ?_
  · rintro _ _ W ⟨y, y2, rfl, rfl, cc⟩
    obtain ⟨L, hL⟩ : ∃ L, l.take 1600 = L := ⟨_, rfl⟩
    obtain ⟨M, hM⟩ : ∃ M, m.take 1600 = M := ⟨_, rfl⟩
    rw [hL, hM] at cc H
    have C1 : Hid (Cuts w W f g y y2 L M) := cc
    have l1 := cc.fa.ld
    clear cc la lb FA FB BB HA HB hL hM
    go_wp2_with fail
    refine (retag_any f y L v _ (C1.out.sa.below C1.out.below) H.out.2.1 H.out.1).mono ?_
    rintro _ w2 ⟨s2, rfl, o2, b2⟩
    obtain ⟨W2, st2, F2, B2⟩ := store_new w2 (rtF f L v) s2 (src_one o2.src)
    have e2 := below_over b2 B2
    have C2 : Hid (Cuts w W2 f g y y2 L M) := ⟨C1.out.fa.below e2, C1.out.fb.below e2, C1.out.sa, C1.out.sb, below_over C1.out.below e2⟩
    have N2 : Hid (FrAt W2 w2.heap.size (rtF f L v) s2 ∧ Src W2 s2 (rtR f L v)) := ⟨F2, o2.src.below B2⟩
    have l2 := C2.out.fa.ld
    clear o2 b2 F2 B2 e2 C1 l1
    go_wp2_with fail
    refine (rtref_any f y L v _ (C2.out.sa.below C2.out.below) H.out.2.1 H.out.1).mono ?_
    rintro _ w3 ⟨s3, rfl, o3, b3⟩
    obtain ⟨W3, st3, F3, B3⟩ := store_new w3 (rtF f L v) s3 (src_one o3)
    have e3 := below_over b3 B3
    have C3 : Hid (Cuts w W3 f g y y2 L M) := ⟨C2.out.fa.below e3, C2.out.fb.below e3, C2.out.sa, C2.out.sb, below_over C2.out.below e3⟩
    have N3 : Hid (FrAt W3 w2.heap.size (rtF f L v) s2 ∧ Src W3 s2 (rtR f L v) ∧ FrAt W3 w3.heap.size (rtF f L v) s3 ∧ Src W3 s3 (rtR f L v)) := ⟨N2.out.1.below e3, N2.out.2.below e3, F3, o3.below B3⟩
    clear o3 b3 F3 B3 e3 C2 N2 l2 st2
    go_wp2
    clear st3
    obtain ⟨B2, hB2⟩ : ∃ B, w2.heap.size = B := ⟨_, rfl⟩
    obtain ⟨B3, hB3⟩ : ∃ B, w3.heap.size = B := ⟨_, rfl⟩
    rw [hB2] at N3 ⊢
    rw [hB3] at N3 ⊢
    clear hB2 hB3 w2 w3
    have ya := fun q : Later W3 => (C3.out.fa.below q.below).ld
    have yb := fun q : Later W3 => (C3.out.fb.below q.below).ld
    have y7 := fun q : Later W3 => (N3.out.1.below q.below).ld
    have y9 := fun q : Later W3 => (N3.out.2.2.1.below q.below).ld
    have P1 := fun q : Later W3 => same_any2 f g y y2 L M q.val ((C3.out.sa.below C3.out.below).below q.below) ((C3.out.sb.below C3.out.below).below q.below)
    have P2 := fun q : Later W3 => sameref_any f g y y2 L M q.val ((C3.out.sa.below C3.out.below).below q.below) ((C3.out.sb.below C3.out.below).below q.below)
    have P3 := fun q : Later W3 => same_any2 f f y y L L q.val ((C3.out.sa.below C3.out.below).below q.below) ((C3.out.sa.below C3.out.below).below q.below)
    have P4 := fun q : Later W3 => sameref_any (rtF f L v) (rtF f L v) s2 s3 _ _ q.val (N3.out.2.1.below q.below) (N3.out.2.2.2.below q.below)
    have P5 := fun q : Later W3 => type_any f y L q.val ((C3.out.sa.below C3.out.below).below q.below) H.out.2.1
    have P6 := fun q : Later W3 => typeref_any f y L q.val ((C3.out.sa.below C3.out.below).below q.below) H.out.2.1
    simp only [same_self] at P3 P4
    obtain ⟨Y, hY⟩ : ∃ Y, sameB f L g M = Y := ⟨_, rfl⟩
    obtain ⟨N, hN⟩ : ∃ N, tyN L = N := ⟨_, rfl⟩
    rw [hY] at P1 P2
    rw [hN] at P5 P6
    have Q1 : Hid _ := P1
    have Q2 : Hid _ := P2
    have Q3 : Hid _ := P3
    have Q4 : Hid _ := P4
    have Q5 : Hid _ := P5
    have Q6 : Hid _ := P6
    have BF : Hid (Below w.heap.size w W3) := C3.out.below
    clear P1 P2 P3 P4 P5 P6 hY hN C3 N3 H
    refine wp_region_later (by kernel_rfl) (by kernel_rfl) ?_
    repeat (go_big_quiet_step (first | exact rfl | (go_at_call 19; with_reducible exact Calls.later_of (Q1.out _)) | (go_at_call 16; with_reducible exact Calls.later_of (Q2.out _)) | (go_at_call 19; with_reducible exact Calls.later_of (Q3.out _)) | (go_at_call 16; with_reducible exact Calls.later_of (Q4.out _)) | (go_at_call 20; with_reducible exact Calls.later_of (Q5.out _)) | (go_at_call 21; with_reducible exact Calls.later_of (Q6.out _)) | (go_at_call 12; with_reducible exact Calls.later_of (awake_any _))))
    refine wpQuiet_nil ?_
    intro _ hw'
    obtain ⟨x5, rfl⟩ := hw'
    go_wp2
    go_ret
    exact ⟨rfl, below_later BF.out x5⟩
  · go_region_with (first
      | (go_at_call 8; refine (light_any f x l w _ HA.out).mono ?_; rintro _ w1 ⟨y, rfl, s1, b1⟩; have SY : Hid (Src w y (l.take 1600)) := s1; have fa := FA.out.below b1; have fb := FB.out.below b1; have bb := below_over BB.out b1; clear FA FB BB HA la lb s1 b1; have FA : Hid (FrAt w1 w.heap.size f x) := fa; have FB : Hid (FrAt w1 (w.heap.size + 1) g z) := fb; have BB : Hid (Below w.heap.size w w1) := bb; have lb := fb.ld; clear fa fb bb)
      | (go_at_call 8; refine (light_any g z m w _ HB.out).mono ?_; rintro _ w2 ⟨y2, rfl, s2, b2⟩; obtain ⟨W1, W2, st1, st2, cc⟩ := light_two (FA.out.below b2) (FB.out.below b2) (below_over BB.out b2) SY.out s2; have CC : Hid (Cuts w W2 f g y y2 (l.take 1600) (m.take 1600)) := cc; clear FA FB BB HB lb s2 b2 cc))
    all_goals exact ⟨_, _, rfl, rfl, CC.out⟩
end Go.Proofs.Ytnkchahjdacboaa
