/-
  PbbHides: how a customer's frame is hidden, what is shown of a frame of the backbone, which are the same, as defined: the walk.
-/
import Derived.Test.YteljcgdenagcmaaBBegin
import Derived.Test.YteljcgdenagcmaaBHideRef
import Derived.Test.YteljcgdenagcmaaBShow
namespace Go.Proofs.Yteljcgdenagcmaa
set_option linter.unusedVariables false
set_option maxRecDepth 4000
set_option linter.unusedSimpArgs false
open Go.RowKit

/-- The variables of the statement. -/
structure Hvs (w W : World) (f : Fr) (x : Value) (own to : M6) (g : Bf) (z : Value) (h : Bf) (u : Value) : Prop where
  fr : FrAt W w.heap.size f x
  ow : RvAt W (w.heap.size + 1) 23 #[.int .u8 own.a, .int .u8 own.b, .int .u8 own.c, .int .u8 own.d, .int .u8 own.e, .int .u8 own.f]
  to' : RvAt W (w.heap.size + 2) 23 #[.int .u8 to.a, .int .u8 to.b, .int .u8 to.c, .int .u8 to.d, .int .u8 to.e, .int .u8 to.f]
  b : BfAt W (w.heap.size + 3) g z
  c : BfAt W (w.heap.size + 4) h u
  below : Below w.heap.size w W
theorem Hvs.later {w W W' : World} {f : Fr} {x : Value} {own to : M6} {g : Bf} {z : Value} {h : Bf} {u : Value} (k : Hvs w W f x own to g z h u) (hb : Below W.heap.size W W') : Hvs w W' f x own to g z h u :=
  ⟨k.fr.below hb, k.ow.below hb, k.to'.below hb, k.b.below hb, k.c.below hb, below_over k.below hb⟩
theorem Hvs.new (w : World) (f : Fr) (x : Value) (own to : M6) (g : Bf) (z : Value) (h : Bf) (u : Value) : Hvs w (((((w.alloc (.cells (fcs f x) 38)).alloc (.cells #[.int .u8 own.a, .int .u8 own.b, .int .u8 own.c, .int .u8 own.d, .int .u8 own.e, .int .u8 own.f] 23)).alloc (.cells #[.int .u8 to.a, .int .u8 to.b, .int .u8 to.c, .int .u8 to.d, .int .u8 to.e, .int .u8 to.f] 23)).alloc (.cells (bcs g z) 30)).alloc (.cells (bcs h u) 30)) f x own to g z h u := by
  have b1 : Below w.heap.size w (w.alloc (.cells (fcs f x) 38)) := (Below.refl _ _).alloc (Nat.le_refl _) _
  obtain ⟨W1, h1⟩ : ∃ W, w.alloc (.cells (fcs f x) 38) = W := ⟨_, rfl⟩
  have f1 := FrAt.new w f x
  have s1 : W1.heap.size = w.heap.size + 1 := by rw [← h1]; simp
  rw [h1] at f1 b1 ⊢
  have b2 : Below W1.heap.size W1 (W1.alloc (.cells #[.int .u8 own.a, .int .u8 own.b, .int .u8 own.c, .int .u8 own.d, .int .u8 own.e, .int .u8 own.f] 23)) := (Below.refl _ _).alloc (Nat.le_refl _) _
  have o2 : RvAt (W1.alloc (.cells #[.int .u8 own.a, .int .u8 own.b, .int .u8 own.c, .int .u8 own.d, .int .u8 own.e, .int .u8 own.f] 23)) W1.heap.size 23 #[.int .u8 own.a, .int .u8 own.b, .int .u8 own.c, .int .u8 own.d, .int .u8 own.e, .int .u8 own.f] := alloc_at W1 _
  obtain ⟨W2, h2⟩ : ∃ W, W1.alloc (.cells #[.int .u8 own.a, .int .u8 own.b, .int .u8 own.c, .int .u8 own.d, .int .u8 own.e, .int .u8 own.f] 23) = W := ⟨_, rfl⟩
  have s2 : W2.heap.size = w.heap.size + 2 := by rw [← h2]; simp [s1]
  rw [h2] at b2 o2 ⊢
  have b3 : Below W2.heap.size W2 (W2.alloc (.cells #[.int .u8 to.a, .int .u8 to.b, .int .u8 to.c, .int .u8 to.d, .int .u8 to.e, .int .u8 to.f] 23)) := (Below.refl _ _).alloc (Nat.le_refl _) _
  have t3 : RvAt (W2.alloc (.cells #[.int .u8 to.a, .int .u8 to.b, .int .u8 to.c, .int .u8 to.d, .int .u8 to.e, .int .u8 to.f] 23)) W2.heap.size 23 #[.int .u8 to.a, .int .u8 to.b, .int .u8 to.c, .int .u8 to.d, .int .u8 to.e, .int .u8 to.f] := alloc_at W2 _
  obtain ⟨W3, h3⟩ : ∃ W, W2.alloc (.cells #[.int .u8 to.a, .int .u8 to.b, .int .u8 to.c, .int .u8 to.d, .int .u8 to.e, .int .u8 to.f] 23) = W := ⟨_, rfl⟩
  have s3 : W3.heap.size = w.heap.size + 3 := by rw [← h3]; simp [s2]
  rw [h3] at b3 t3 ⊢
  have b4 : Below W3.heap.size W3 (W3.alloc (.cells (bcs g z) 30)) := (Below.refl _ _).alloc (Nat.le_refl _) _
  have g4 := BfAt.new W3 g z
  obtain ⟨W4, h4⟩ : ∃ W, W3.alloc (.cells (bcs g z) 30) = W := ⟨_, rfl⟩
  have s4 : W4.heap.size = w.heap.size + 4 := by rw [← h4]; simp [s3]
  rw [h4] at b4 g4 ⊢
  have b5 : Below W4.heap.size W4 (W4.alloc (.cells (bcs h u) 30)) := (Below.refl _ _).alloc (Nat.le_refl _) _
  have c5 := BfAt.new W4 h u
  rw [s1] at o2
  rw [s2] at t3
  rw [s3] at g4
  rw [s4] at c5
  exact ⟨(((f1.below b2).below b3).below b4).below b5, ((o2.below b3).below b4).below b5, (t3.below b4).below b5, g4.below b5, c5, below_over (below_over (below_over (below_over b1 b2) b3) b4) b5⟩
theorem Hvs.setf {w W : World} {f : Fr} {x x' : Value} {own to : M6} {g : Bf} {z : Value} {h : Bf} {u : Value} (k : Hvs w W f x own to g z h u) (hx : x'.oneCell' = true) :
    ∃ W', (stS 38 (.pointer (some ⟨w.heap.size, 0, none⟩)) (.agg (fcs f x'))).run Try.prog W = .ok () W' ∧ Hvs w W' f x' own to g z h u := by
  obtain ⟨W', h1, h2, h3, h4, _⟩ := k.fr.stx (w := w) (g := f) (y := x') hx (Nat.le_refl _) k.below
  exact ⟨W', h1, h2, (h4 _ (by omega)).trans k.ow, (h4 _ (by omega)).trans k.to', (h4 _ (by omega)).trans k.b, (h4 _ (by omega)).trans k.c, h3⟩
theorem Hvs.setb {w W : World} {f : Fr} {x : Value} {own to : M6} {g : Bf} {z z' : Value} {h : Bf} {u : Value} (k : Hvs w W f x own to g z h u) (hx : z'.oneCell' = true) :
    ∃ W', (stS 30 (.pointer (some ⟨w.heap.size + 3, 0, none⟩)) (.agg (bcs g z'))).run Try.prog W = .ok () W' ∧ Hvs w W' f x own to g z' h u := by
  obtain ⟨W', h1, h2, h3, h4, _⟩ := k.b.stx (w := w) (g := g) (y := z') hx (by omega) k.below
  exact ⟨W', h1, (h4 _ (by omega)).trans k.fr, (h4 _ (by omega)).trans k.ow, (h4 _ (by omega)).trans k.to', h2, (h4 _ (by omega)).trans k.c, h3⟩
theorem Hvs.setc {w W : World} {f : Fr} {x : Value} {own to : M6} {g : Bf} {z : Value} {h : Bf} {u u' : Value} (k : Hvs w W f x own to g z h u) (hx : u'.oneCell' = true) :
    ∃ W', (stS 30 (.pointer (some ⟨w.heap.size + 4, 0, none⟩)) (.agg (bcs h u'))).run Try.prog W = .ok () W' ∧ Hvs w W' f x own to g z h u' := by
  obtain ⟨W', h1, h2, h3, h4, _⟩ := k.c.stx (w := w) (g := h) (y := u') hx (by omega) k.below
  exact ⟨W', h1, (h4 _ (by omega)).trans k.fr, (h4 _ (by omega)).trans k.ow, (h4 _ (by omega)).trans k.to', (h4 _ (by omega)).trans k.b, h2, h3⟩

attribute [local go_sem ↓] slS_eq ldS23 ldS25 ldI27 ldS30 ldS38 stS38 stS30 stS25

set_option maxHeartbeats 4000000 in
theorem PbbHides_walk (f : Fr) (x : Value) (l : List Int) (isid vid : Int) (own to : M6) (g : Bf) (z : Value) (m : List Int) (h : Bf) (u : Value) (k : List Int) (w : World) (hf : f.ok) (hx : Src w x l) (hbx : ∀ x ∈ l, 0 ≤ x ∧ x ≤ 255) (wi : (Lit.int .i64 isid).wf = true) (wv : (Lit.int .i64 vid).wf = true)
    (ho : own.ok) (ht : to.ok) (hg : g.ok) (hz : Src w z m) (hbz : ∀ x ∈ m, 0 ≤ x ∧ x ≤ 255) (hh : h.ok) (hu : Src w u k) (hbu : ∀ x ∈ k, 0 ≤ x ∧ x ≤ 255) :
    Calls Try.prog 5 #[.agg (fcs f x), .int .i64 isid, .int .i64 vid, .agg #[.int .u8 own.a, .int .u8 own.b, .int .u8 own.c, .int .u8 own.d, .int .u8 own.e, .int .u8 own.f], .agg #[.int .u8 to.a, .int .u8 to.b, .int .u8 to.c, .int .u8 to.d, .int .u8 to.e, .int .u8 to.f], .agg (bcs g z), .agg (bcs h u)] w fun r w' => r = .returned (.bool true) ∧ Below w.heap.size w w' := by
  clear wi wv
  have v0 := Hvs.new w f x own to g z h u
  obtain ⟨V, hV⟩ : ∃ V, (((((w.alloc (.cells (fcs f x) 38)).alloc (.cells #[.int .u8 own.a, .int .u8 own.b, .int .u8 own.c, .int .u8 own.d, .int .u8 own.e, .int .u8 own.f] 23)).alloc (.cells #[.int .u8 to.a, .int .u8 to.b, .int .u8 to.c, .int .u8 to.d, .int .u8 to.e, .int .u8 to.f] 23)).alloc (.cells (bcs g z) 30)).alloc (.cells (bcs h u) 30)) = V := ⟨_, rfl⟩
  rw [hV] at v0
  have ld := v0.fr.ld
  have N0 : Hid (Hvs w V f x own to g z h u) := v0
  have H : Hid (Src w x l ∧ Src w z m ∧ Src w u k) := ⟨hx, hz, hu⟩
  have HO : Hid (f.ok ∧ own.ok ∧ to.ok ∧ g.ok) := ⟨hf, ho, ht, hg⟩
  have HB : Hid ((∀ x ∈ l.take 1510, 0 ≤ x ∧ x ≤ 255) ∧ (∀ x ∈ m.take 1510, 0 ≤ x ∧ x ≤ 255) ∧ (l.take 1510).length ≤ 1510) := ⟨take_b hbx 1510, take_b hbz 1510, take_le l 1510⟩
  clear hf hx hbx ho ht hg hz hbz hh hu hbu v0
  go_enter Try.func5, Try.ntmps5
  go_wp2_with fail
  clear hV
  refine (few_any f x l w _ H.out.1).mono ?_
  rintro _ w1 ⟨y1, rfl, s1, b1⟩
  obtain ⟨L, hL⟩ : ∃ L, l.take 1510 = L := ⟨_, rfl⟩
  rw [hL] at s1 HB
  obtain ⟨W1, st1, v1⟩ := (N0.out.later b1).setf (src_one s1)
  have N1 : Hid (Hvs w W1 f y1 own to g z h u ∧ Src w y1 L) := ⟨v1, s1⟩
  have l1 := v1.b.ld
  clear s1 b1 v1 N0 ld hL
  go_wp2_with fail
  refine (fewb_any g z m w _ H.out.2.1).mono ?_
  rintro _ w2 ⟨y2, rfl, s2, b2⟩
  obtain ⟨M, hM⟩ : ∃ M, m.take 1510 = M := ⟨_, rfl⟩
  rw [hM] at s2 HB
  obtain ⟨W2, st2, v2⟩ := (N1.out.1.later b2).setb (src_one s2)
  have N2 : Hid (Hvs w W2 f y1 own to g y2 h u ∧ Src w y1 L ∧ Src w y2 M) := ⟨v2, N1.out.2, s2⟩
  have l2 := v2.c.ld
  clear s2 b2 v2 N1 l1 st1 hM
  go_wp2_with fail
  refine (fewb_any h u k w _ H.out.2.2).mono ?_
  rintro _ w3 ⟨y3, rfl, s3, b3⟩
  obtain ⟨K, hK⟩ : ∃ K, k.take 1510 = K := ⟨_, rfl⟩
  rw [hK] at s3
  obtain ⟨W3, st3, v3⟩ := (N2.out.1.later b3).setc (src_one s3)
  have N3 : Hid (Hvs w W3 f y1 own to g y2 h y3 ∧ Src w y1 L ∧ Src w y2 M ∧ Src w y3 K) := ⟨v3, N2.out.2.1, N2.out.2.2, s3⟩
  have l3 := v3.fr.ld
  have lo := v3.ow.ld rt23 rfl
  have lt := v3.to'.ld rt23 rfl
  clear s3 b3 v3 N2 l2 st2 hK H
  go_wp2_with fail
  refine (hide_any f y1 L isid vid own to _ (N3.out.2.1.below N3.out.1.below) HB.out.1 HO.out.1 HO.out.2.1 HO.out.2.2.1 (by have := HB.out.2.2; omega)).mono ?_
  rintro _ w4 ⟨s4, rfl, o4, b4⟩
  obtain ⟨W4, st4, F4, B4⟩ := bstore_new w4 (hdB f L isid vid own to) s4 (src_one o4.src)
  have v4 := N3.out.1.later (below_over b4 B4)
  have N4 : Hid (Hvs w W4 f y1 own to g y2 h y3 ∧ BfAt W4 w4.heap.size (hdB f L isid vid own to) s4 ∧ Src W4 s4 (hdR f L isid vid own to)) := ⟨v4, F4, o4.src.below B4⟩
  have l4 := v4.fr.ld
  have lo4 := v4.ow.ld rt23 rfl
  have lt4 := v4.to'.ld rt23 rfl
  clear b4 o4 F4 B4 v4 l3 lo lt st3
  go_wp2_with fail
  refine (hidref_any f y1 L isid vid own to _ (N3.out.2.1.below N4.out.1.below) HB.out.1 HO.out.1 HO.out.2.1 HO.out.2.2.1 (by have := HB.out.2.2; omega)).mono ?_
  rintro _ w5 ⟨s5, rfl, o5, b5⟩
  obtain ⟨W5, st5, F5, B5⟩ := bstore_new w5 (hdB f L isid vid own to) s5 (src_one o5.src)
  have e5 := below_over b5 B5
  have v5 := N4.out.1.later e5
  have N5 : Hid (Hvs w W5 f y1 own to g y2 h y3 ∧ BfAt W5 w4.heap.size (hdB f L isid vid own to) s4 ∧ Src W5 s4 (hdR f L isid vid own to) ∧ BfAt W5 w5.heap.size (hdB f L isid vid own to) s5 ∧ Src W5 s5 (hdR f L isid vid own to)) := ⟨v5, N4.out.2.1.below e5, N4.out.2.2.below e5, F5, o5.src.below B5⟩
  have l5 := v5.b.ld
  clear b5 o5 F5 B5 v5 e5 l4 lo4 lt4 st4 N4
  go_wp2_with fail
  refine (show_any g y2 M vid _ (N3.out.2.2.1.below N5.out.1.below) HB.out.2.1 HO.out.2.2.2).mono ?_
  rintro _ w6 ⟨s6, rfl, o6, b6⟩
  obtain ⟨W6, st6, F6, B6⟩ := store_new w6 (shG g M vid) s6 (src_one o6.src)
  have e6 := below_over b6 B6
  have v6 := N5.out.1.later e6
  have N6 : Hid (Hvs w W6 f y1 own to g y2 h y3 ∧ BfAt W6 w4.heap.size (hdB f L isid vid own to) s4 ∧ Src W6 s4 (hdR f L isid vid own to) ∧ BfAt W6 w5.heap.size (hdB f L isid vid own to) s5 ∧ Src W6 s5 (hdR f L isid vid own to) ∧ FrAt W6 w6.heap.size (shG g M vid) s6 ∧ Src W6 s6 (shR g M vid)) := ⟨v6, N5.out.2.1.below e6, N5.out.2.2.1.below e6, N5.out.2.2.2.1.below e6, N5.out.2.2.2.2.below e6, F6, o6.src.below B6⟩
  have l6 := v6.b.ld
  clear b6 o6 F6 B6 v6 e6 l5 st5 N5
  go_wp2_with fail
  refine (shoref_any g y2 M vid _ (N3.out.2.2.1.below N6.out.1.below) HB.out.2.1 HO.out.2.2.2).mono ?_
  rintro _ w7 ⟨s7, rfl, o7, b7⟩
  obtain ⟨W7, st7, F7, B7⟩ := store_new w7 (shG g M vid) s7 (src_one o7.src)
  have e7 := below_over b7 B7
  have N7 : Hid (Hvs w W7 f y1 own to g y2 h y3 ∧ BfAt W7 w4.heap.size (hdB f L isid vid own to) s4 ∧ Src W7 s4 (hdR f L isid vid own to) ∧ BfAt W7 w5.heap.size (hdB f L isid vid own to) s5 ∧ Src W7 s5 (hdR f L isid vid own to) ∧ FrAt W7 w6.heap.size (shG g M vid) s6 ∧ Src W7 s6 (shR g M vid) ∧ FrAt W7 w7.heap.size (shG g M vid) s7 ∧ Src W7 s7 (shR g M vid)) := ⟨N6.out.1.later e7, N6.out.2.1.below e7, N6.out.2.2.1.below e7, N6.out.2.2.2.1.below e7, N6.out.2.2.2.2.1.below e7, N6.out.2.2.2.2.2.1.below e7, N6.out.2.2.2.2.2.2.below e7, F7, o7.src.below B7⟩
  clear b7 o7 F7 B7 e7 l6 st6 N6
  go_wp2
  clear st7
  obtain ⟨C4, h4⟩ : ∃ B, w4.heap.size = B := ⟨_, rfl⟩
  obtain ⟨C5, h5⟩ : ∃ B, w5.heap.size = B := ⟨_, rfl⟩
  obtain ⟨C6, h6⟩ : ∃ B, w6.heap.size = B := ⟨_, rfl⟩
  obtain ⟨C7, h7⟩ : ∃ B, w7.heap.size = B := ⟨_, rfl⟩
  rw [h4] at N7 ⊢
  rw [h5] at N7 ⊢
  rw [h6] at N7 ⊢
  rw [h7] at N7 ⊢
  clear h4 h5 h6 h7
  obtain ⟨n0, n1, n2, n3, n4, n5, n6, n7, n8⟩ := N7.out
  have y4 := fun q : Later W7 => (n1.below q.below).ld
  have y5 := fun q : Later W7 => (n3.below q.below).ld
  have y6 := fun q : Later W7 => (n5.below q.below).ld
  have y7 := fun q : Later W7 => (n7.below q.below).ld
  have yb := fun q : Later W7 => (n0.b.below q.below).ld
  have yc := fun q : Later W7 => (n0.c.below q.below).ld
  have S2 : Src W7 y2 M := N3.out.2.2.1.below n0.below
  have S3 : Src W7 y3 K := N3.out.2.2.2.below n0.below
  have P1 := fun q : Later W7 => bsameref_any (hdB f L isid vid own to) (hdB f L isid vid own to) s4 s5 _ _ q.val (n2.below q.below) (n4.below q.below)
  have P2 := fun q : Later W7 => sameref_any (shG g M vid) (shG g M vid) s6 s7 _ _ q.val (n6.below q.below) (n8.below q.below)
  have P3 := fun q : Later W7 => bsame_any g h y2 y3 M K q.val (S2.below q.below) (S3.below q.below)
  have P4 := fun q : Later W7 => bsameref_any g h y2 y3 M K q.val (S2.below q.below) (S3.below q.below)
  have P5 := fun q : Later W7 => bsame_any g g y2 y2 M M q.val (S2.below q.below) (S2.below q.below)
  simp only [sameBb_self, same_self] at P1 P2 P5
  obtain ⟨Y, hY⟩ : ∃ Y, sameBb g M h K = Y := ⟨_, rfl⟩
  rw [hY] at P3 P4
  have Q1 : Hid _ := P1
  have Q2 : Hid _ := P2
  have Q3 : Hid _ := P3
  have Q4 : Hid _ := P4
  have Q5 : Hid _ := P5
  have BF : Hid (Below w.heap.size w W7) := n0.below
  obtain ⟨eh, heh⟩ : ∃ e, hdE f L isid vid own to = e := ⟨_, rfl⟩
  obtain ⟨es, hes⟩ : ∃ e, shE g M vid = e := ⟨_, rfl⟩
  rw [heh, hes]
  clear P1 P2 P3 P4 P5 hY n0 n1 n2 n3 n4 n5 n6 n7 n8 S2 S3 heh hes
  refine wp_region_later (by kernel_rfl) (by kernel_rfl) ?_
  repeat (go_big_quiet_step (first | exact rfl | (go_at_call 21; with_reducible exact Calls.later_of (Q1.out _)) | (go_at_call 14; with_reducible exact Calls.later_of (Q2.out _)) | (go_at_call 27; with_reducible exact Calls.later_of (Q3.out _)) | (go_at_call 21; with_reducible exact Calls.later_of (Q4.out _)) | (go_at_call 27; with_reducible exact Calls.later_of (Q5.out _)) | (go_at_call 17; with_reducible exact Calls.later_of (awake_any _))))
  refine wpQuiet_nil ?_
  intro _ hw'
  obtain ⟨x5, rfl⟩ := hw'
  go_wp2
  go_ret
  exact ⟨rfl, below_later BF.out x5⟩
end Go.Proofs.Yteljcgdenagcmaa
