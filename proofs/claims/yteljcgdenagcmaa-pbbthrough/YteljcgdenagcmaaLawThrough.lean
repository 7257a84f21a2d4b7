/-
  PbbThrough: what is hidden, encoded, decoded and shown with any VLAN is the frame with that VLAN: the walk.
-/
import Derived.Test.YteljcgdenagcmaaBBegin
import Derived.Test.YteljcgdenagcmaaBShow
namespace Go.Proofs.Yteljcgdenagcmaa
set_option linter.unusedVariables false
set_option maxRecDepth 4000
set_option linter.unusedSimpArgs false
open Go.RowKit

/-- The variables of the statement. -/
structure Tvs (w W : World) (f : Fr) (x : Value) (own to : M6) : Prop where
  fr : FrAt W w.heap.size f x
  ow : RvAt W (w.heap.size + 1) 23 #[.int .u8 own.a, .int .u8 own.b, .int .u8 own.c, .int .u8 own.d, .int .u8 own.e, .int .u8 own.f]
  to' : RvAt W (w.heap.size + 2) 23 #[.int .u8 to.a, .int .u8 to.b, .int .u8 to.c, .int .u8 to.d, .int .u8 to.e, .int .u8 to.f]
  below : Below w.heap.size w W
theorem Tvs.later {w W W' : World} {f : Fr} {x : Value} {own to : M6} (k : Tvs w W f x own to) (hb : Below W.heap.size W W') : Tvs w W' f x own to :=
  ⟨k.fr.below hb, k.ow.below hb, k.to'.below hb, below_over k.below hb⟩
theorem Tvs.new (w : World) (f : Fr) (x : Value) (own to : M6) : Tvs w (((w.alloc (.cells (fcs f x) 38)).alloc (.cells #[.int .u8 own.a, .int .u8 own.b, .int .u8 own.c, .int .u8 own.d, .int .u8 own.e, .int .u8 own.f] 23)).alloc (.cells #[.int .u8 to.a, .int .u8 to.b, .int .u8 to.c, .int .u8 to.d, .int .u8 to.e, .int .u8 to.f] 23)) f x own to := by
  have b1 : Below w.heap.size w (w.alloc (.cells (fcs f x) 38)) := (Below.refl _ _).alloc (Nat.le_refl _) _
  obtain ⟨W1, h1⟩ : ∃ W, w.alloc (.cells (fcs f x) 38) = W := ⟨_, rfl⟩
  have f1 := FrAt.new w f x
  have s1 : W1.heap.size = w.heap.size + 1 := by rw [← h1]; simp
  rw [h1] at f1 b1 ⊢
  have b2 : Below W1.heap.size W1 (W1.alloc (.cells #[.int .u8 own.a, .int .u8 own.b, .int .u8 own.c, .int .u8 own.d, .int .u8 own.e, .int .u8 own.f] 23)) := (Below.refl _ _).alloc (Nat.le_refl _) _
  have o2 : RvAt (W1.alloc (.cells #[.int .u8 own.a, .int .u8 own.b, .int .u8 own.c, .int .u8 own.d, .int .u8 own.e, .int .u8 own.f] 23)) W1.heap.size 23 #[.int .u8 own.a, .int .u8 own.b, .int .u8 own.c, .int .u8 own.d, .int .u8 own.e, .int .u8 own.f] := alloc_at W1 _
  obtain ⟨W2, h2⟩ : ∃ W, W1.alloc (.cells #[.int .u8 own.a, .int .u8 own.b, .int .u8 own.c, .int .u8 own.d, .int .u8 own.e, .int .u8 own.f] 23) = W := ⟨_, rfl⟩
  have s2 : W2.heap.size = w.heap.size + 2 := by rw [← h2]; simp [s1]
  rw [h2] at b2 o2 ⊢
  have b3 : Below W2.heap.size W2 (W2.alloc (.cells #[.int .u8 to.a, .int .u8 to.b, .int .u8 to.c, .int .u8 to.d, .int .u8 to.e, .int .u8 to.f] 23)) := (Below.refl _ _).alloc (Nat.le_refl _) _
  have t3 : RvAt (W2.alloc (.cells #[.int .u8 to.a, .int .u8 to.b, .int .u8 to.c, .int .u8 to.d, .int .u8 to.e, .int .u8 to.f] 23)) W2.heap.size 23 #[.int .u8 to.a, .int .u8 to.b, .int .u8 to.c, .int .u8 to.d, .int .u8 to.e, .int .u8 to.f] := alloc_at W2 _
  rw [s1] at o2
  rw [s2] at t3
  exact ⟨(f1.below b2).below b3, o2.below b3, t3, below_over (below_over b1 b2) b3⟩
theorem Tvs.setf {w W : World} {f : Fr} {x x' : Value} {own to : M6} (k : Tvs w W f x own to) (hx : x'.oneCell' = true) :
    ∃ W', (stS 38 (.pointer (some ⟨w.heap.size, 0, none⟩)) (.agg (fcs f x'))).run Try.prog W = .ok () W' ∧ Tvs w W' f x' own to := by
  obtain ⟨W', h1, h2, h3, h4, _⟩ := k.fr.stx (w := w) (g := f) (y := x') hx (Nat.le_refl _) k.below
  exact ⟨W', h1, h2, (h4 _ (by omega)).trans k.ow, (h4 _ (by omega)).trans k.to', h3⟩
theorem eqM_self (m : M6) (w : World) : (eqM m.v m.v).run Try.prog w = .ok (.bool true) w := by have := eqM_mac m m w; rw [M6.same_self] at this; exact this
theorem hd_parts {f : Fr} {l : List Int} {isid vid : Int} {own to : M6} (h : hdE f l isid vid own to = 0) : f.t = true ∧ chkB (hidF f isid vid own to) l = 0 := by
  unfold hdE at h
  by_cases hc : chkF f l = 0
  · rw [if_pos hc] at h
    cases ht : f.t
    · rw [ht] at h; simp at h
    · rw [ht] at h; exact ⟨rfl, by simpa using h⟩
  · rw [if_neg hc] at h; exact absurd h hc
theorem sh_hid {f : Fr} {isid vid v : Int} {own to : M6} (h : f.t = true) : shF (hidF f isid vid own to) v = ⟨f.d, f.s, f.t, f.p, f.e, v⟩ := by
  unfold shF hidF
  rw [h]

attribute [local go_sem ↓] slS_eq ldS23 ldS25 ldI27 ldS30 ldS38 stS38 stS30 stS25 eqM_eq

set_option maxHeartbeats 4000000 in
theorem PbbThrough_walk (f : Fr) (x : Value) (l : List Int) (isid vid ot : Int) (own to : M6) (w : World) (hf : f.ok) (hx : Src w x l) (hbx : ∀ x ∈ l, 0 ≤ x ∧ x ≤ 255) (wi : (Lit.int .i64 isid).wf = true) (wv : (Lit.int .i64 vid).wf = true) (wo : (Lit.int .u16 ot).wf = true) (ho : own.ok) (ht : to.ok) :
    Calls Try.prog 7 #[.agg (fcs f x), .int .i64 isid, .int .i64 vid, .int .u16 ot, .agg #[.int .u8 own.a, .int .u8 own.b, .int .u8 own.c, .int .u8 own.d, .int .u8 own.e, .int .u8 own.f], .agg #[.int .u8 to.a, .int .u8 to.b, .int .u8 to.c, .int .u8 to.d, .int .u8 to.e, .int .u8 to.f]] w fun r w' => r = .returned (.bool true) ∧ Below w.heap.size w w' := by
  clear wi wv
  have hot : 0 ≤ ot ∧ ot ≤ 65535 := by
    have := wo
    simp [Lit.wf, IntKind.min, IntKind.max, IntKind.signed, IntKind.bits] at this
    omega
  have cv1 : IntKind.i64.wrap ot = ot := IntWalk.i64_in _ (by omega)
  have cv2 : ot.tmod 4094 = ot % 4094 := Int.tmod_eq_emod_of_nonneg hot.1
  have cv3 : IntKind.i64.wrap (1 + ot % 4094) = 1 + ot % 4094 := IntWalk.i64_in _ (by omega)
  obtain ⟨v, hv⟩ : ∃ v, 1 + ot % 4094 = v := ⟨_, rfl⟩
  have HV : Hid (1 ≤ v ∧ v ≤ 4094) := by show 1 ≤ v ∧ v ≤ 4094; omega
  rw [hv] at cv3
  have v0 := Tvs.new w f x own to
  obtain ⟨V, hVV⟩ : ∃ V, (((w.alloc (.cells (fcs f x) 38)).alloc (.cells #[.int .u8 own.a, .int .u8 own.b, .int .u8 own.c, .int .u8 own.d, .int .u8 own.e, .int .u8 own.f] 23)).alloc (.cells #[.int .u8 to.a, .int .u8 to.b, .int .u8 to.c, .int .u8 to.d, .int .u8 to.e, .int .u8 to.f] 23)) = V := ⟨_, rfl⟩
  rw [hVV] at v0
  have ld := v0.fr.ld
  have N0 : Hid (Tvs w V f x own to) := v0
  have H : Hid (Src w x l ∧ f.ok ∧ own.ok ∧ to.ok) := ⟨hx, hf, ho, ht⟩
  have HB : Hid ((∀ x ∈ l.take 1510, 0 ≤ x ∧ x ≤ 255) ∧ (l.take 1510).length ≤ 1510) := ⟨take_b hbx 1510, take_le l 1510⟩
  clear hf hx hbx ho ht v0 hot wo
  go_enter Try.func7, Try.ntmps7
  go_wp2_with fail
  clear hVV
  refine (few_any f x l w _ H.out.1).mono ?_
  rintro _ w1 ⟨y1, rfl, s1, b1⟩
  obtain ⟨L, hL⟩ : ∃ L, l.take 1510 = L := ⟨_, rfl⟩
  rw [hL] at s1 HB
  obtain ⟨W1, st1, v1⟩ := (N0.out.later b1).setf (src_one s1)
  have N1 : Hid (Tvs w W1 f y1 own to ∧ Src w y1 L) := ⟨v1, s1⟩
  have l1 := v1.fr.ld
  have lo := v1.ow.ld rt23 rfl
  have lt := v1.to'.ld rt23 rfl
  clear s1 b1 v1 N0 ld hL
  go_wp2_with fail
  refine (hide_any f y1 L isid vid own to _ (N1.out.2.below N1.out.1.below) HB.out.1 H.out.2.1 H.out.2.2.1 H.out.2.2.2 (by have := HB.out.2; omega)).mono ?_
  rintro _ w4 ⟨s4, rfl, o4, b4⟩
  obtain ⟨W4, st4, F4, B4⟩ := bstore_new w4 (hdB f L isid vid own to) s4 (src_one o4.src)
  have v4 := N1.out.1.later (below_over b4 B4)
  by_cases hE : hdE f L isid vid own to = 0
  rotate_left
  · have e1 : hdB f L isid vid own to = zeroB := by unfold hdB; rw [if_neg hE]
    have e2 : hdR f L isid vid own to = [] := by unfold hdR; rw [if_neg hE]
    rw [e1] at F4 st4 ⊢
    rw [e2] at o4
    have N4 : Hid (Tvs w W4 f y1 own to ∧ Src W4 s4 []) := ⟨v4, o4.src.below B4⟩
    have l4 := F4.ld
    have HK : Hid _ := bsameref_any zeroB zeroB s4 (.slice none 0 0) [] [] W4 N4.out.2 (src_nil _)
    rw [sameBb_self] at HK
    obtain ⟨E, hEE⟩ : ∃ E, hdE f L isid vid own to = E := ⟨_, rfl⟩
    rw [hEE] at hE ⊢
    have hE' : (E != 0) = true := by simpa using hE
    clear hE hEE o4 b4 B4 F4 v4 e1 e2 st1 l1 lo lt
    go_wp2_with fail
    refine Calls.mono HK.out ?_
    rintro _ w5 ⟨rfl, b5⟩
    have B5 : Hid (Below w.heap.size w w5) := below_over N4.out.1.below b5
    clear b5 l4 HK st4 N4
    go_wp2_with fail
    refine Calls.on_later (awake_any _) ?_
    intro y9
    go_wp2
    go_ret
    exact ⟨rfl, below_later B5.out y9⟩
  · have e1 : hdB f L isid vid own to = hidF f isid vid own to := by unfold hdB; rw [if_pos hE]
    have e2 : hdR f L isid vid own to = L := by unfold hdR; rw [if_pos hE]
    obtain ⟨ht, hc⟩ := hd_parts hE
    rw [e1] at F4 st4 ⊢
    rw [e2] at o4
    rw [hE]
    have HT : Hid (f.t = true ∧ chkB (hidF f isid vid own to) L = 0 ∧ (hidF f isid vid own to).ok) := ⟨ht, hc, hidF_ok H.out.2.1 H.out.2.2.1 H.out.2.2.2⟩
    have N4 : Hid (Tvs w W4 f y1 own to ∧ BfAt W4 w4.heap.size (hidF f isid vid own to) s4 ∧ Src W4 s4 L) := ⟨v4, F4, o4.src.below B4⟩
    have l4 := F4.ld
    clear hE ht hc o4 b4 B4 F4 v4 e1 e2 st1 l1 lo lt
    go_wp2_with fail
    refine (bencode_yes (hidF f isid vid own to) s4 L _ N4.out.2.2 HB.out.1 HT.out.2.2 HT.out.2.1).mono ?_
    rintro _ w5 ⟨s5, rfl, o5, b5⟩
    have N5 : Hid (Tvs w w5 f y1 own to ∧ BfAt w5 w4.heap.size (hidF f isid vid own to) s4 ∧ Src w5 s5 (bencL (hidF f isid vid own to) L)) := ⟨N4.out.1.later b5, N4.out.2.1.below b5, o5.src⟩
    clear o5 b5 N4 l4 st4
    go_wp2_with fail
    refine (bdec_any _ _ _ N5.out.2.2 (benc_bytes HT.out.2.2 HB.out.1 HT.out.2.1)).mono ?_
    rintro _ w6 ⟨s6, rfl, o6, b6⟩
    obtain ⟨d1, d2, d3⟩ := benc_dec HT.out.2.1
    rw [d1, d2]
    rw [d3] at o6
    obtain ⟨W6, st6, F6, B6⟩ := bstore_new w6 (hidF f isid vid own to) s6 (src_one o6.src)
    have e6 := below_over b6 B6
    have N6 : Hid (Tvs w W6 f y1 own to ∧ BfAt W6 w4.heap.size (hidF f isid vid own to) s4 ∧ Src W6 s6 L) := ⟨N5.out.1.later e6, N5.out.2.1.below e6, o6.src.below B6⟩
    have l6 := F6.ld
    clear o6 b6 e6 F6 B6 N5 d1 d2 d3
    go_wp2_with fail
    refine (show_any (hidF f isid vid own to) s6 L v _ N6.out.2.2 HB.out.1 HT.out.2.2).mono ?_
    rintro _ w7 ⟨s7, rfl, o7, b7⟩
    have g1 : shE (hidF f isid vid own to) L v = 0 := by unfold shE; rw [if_pos HT.out.2.1, if_pos HV.out]
    have g2 : shG (hidF f isid vid own to) L v = ⟨f.d, f.s, f.t, f.p, f.e, v⟩ := by unfold shG; rw [if_pos g1]; exact sh_hid HT.out.1
    have g3 : shR (hidF f isid vid own to) L v = L := by unfold shR; rw [if_pos g1]
    rw [g1, g2]
    rw [g3] at o7
    obtain ⟨W7, st7, F7, B7⟩ := store_new w7 ⟨f.d, f.s, f.t, f.p, f.e, v⟩ s7 (src_one o7.src)
    have e7 := below_over b7 B7
    have n7 := N6.out.1.later e7
    have l7 := n7.fr.ld
    obtain ⟨W8, st8, F8, B8⟩ := store_new W7 f y1 (src_one N1.out.2)
    have n8 := n7.later B8
    have c15 := F8.c15
    have lv := F8.live
    have hq := F8.lt
    have F9 := F8.vid v
    have hs7 : w7.heap.size < W7.heap.size := F7.lt
    have hs4 : w4.heap.size < W7.heap.size := ((N6.out.2.1.below e7)).lt
    have hw2 : w.heap.size + 2 < W7.heap.size := n7.to'.lt
    have M9 : Hid (Tvs w (W8.setCell ⟨W7.heap.size, 15, none⟩ (.int .i64 v)) f y1 own to ∧ BfAt (W8.setCell ⟨W7.heap.size, 15, none⟩ (.int .i64 v)) w4.heap.size (hidF f isid vid own to) s4 ∧ FrAt (W8.setCell ⟨W7.heap.size, 15, none⟩ (.int .i64 v)) w7.heap.size ⟨f.d, f.s, f.t, f.p, f.e, v⟩ s7 ∧ FrAt (W8.setCell ⟨W7.heap.size, 15, none⟩ (.int .i64 v)) W7.heap.size ⟨f.d, f.s, f.t, f.p, f.e, v⟩ y1 ∧ Src W8 s7 L) :=
      ⟨⟨n8.fr.apart (by simp; omega) _, (heap_setCell_other _ _ _ _ (by simp; omega)).trans n8.ow, (heap_setCell_other _ _ _ _ (by simp; omega)).trans n8.to', n8.below.setCell (by simp; omega) _⟩, ((N6.out.2.1.below e7).below B8).apart (by simp; omega) _, (F7.below B8).apart (by simp; omega) _, F9, (o7.src.below B7).below B8⟩
    have S9 : Own (W8.setCell ⟨W7.heap.size, 15, none⟩ (.int .i64 v)) w.heap.size s7 L := ((o7.below B7).below B8).of_block (fun k hk => heap_setCell_other _ _ _ _ (by have := (o7.block k hk).2; simp; omega)) |>.base (by have := N6.out.1.below.size; omega)
    obtain ⟨X, hX⟩ : ∃ X, W8.setCell ⟨W7.heap.size, 15, none⟩ (.int .i64 v) = X := ⟨_, rfl⟩
    rw [hX] at M9 S9
    have M9' : Hid (Src X s7 L ∧ Src X y1 L) := ⟨S9.src, N1.out.2.below M9.out.1.below⟩
    have l8 := M9.out.2.2.1.ld
    have l9 := M9.out.2.2.2.1.ld
    clear o7 b7 e7 F7 B7 n7 F8 B8 n8 F9 hq hs7 hs4 hw2 S9 g1 g2 g3 l6 st6 N6
    go_wp2_with fail
    refine (sameref_any ⟨f.d, f.s, f.t, f.p, f.e, v⟩ ⟨f.d, f.s, f.t, f.p, f.e, v⟩ s7 y1 L L _ M9'.out.1 M9'.out.2).mono ?_
    rintro _ wx ⟨rfl, bx⟩
    rw [same_self]
    have nx := M9.out.1.later bx
    have fx := M9.out.2.1.below bx
    have c18 : wx.cell? ⟨w4.heap.size, 18, none⟩ = some (.int .i64 isid) := fx.c18
    have c14 : wx.cell? ⟨w4.heap.size, 14, none⟩ = some (.int .i64 vid) := fx.c14
    have ks : (ldS 23 (.pointer (some ⟨w4.heap.size, 6, none⟩))).run Try.prog wx = .ok own.v wx := fx.lds
    have kd : (ldS 23 (.pointer (some ⟨w4.heap.size, 0, none⟩))).run Try.prog wx = .ok to.v wx := fx.ldd
    have ko : (ldS 23 (.pointer (some ⟨w.heap.size + 1, 0, none⟩))).run Try.prog wx = .ok own.v wx := nx.ow.ld rt23 rfl
    have kt : (ldS 23 (.pointer (some ⟨w.heap.size + 2, 0, none⟩))).run Try.prog wx = .ok to.v wx := nx.to'.ld rt23 rfl
    have g1 := guard_mac .eql
    have q1 := eqM_self own
    have q2 := eqM_self to
    have BX : Hid (Below w.heap.size w wx) := nx.below
    clear bx nx fx l8 l9 M9 M9' l7 st7 st8 c15 lv hX
    go_wp2_with fail
    refine Calls.on_later (awake_any _) ?_
    intro y9
    go_wp2
    go_ret
    exact ⟨rfl, below_later BX.out y9⟩
end Go.Proofs.Yteljcgdenagcmaa
