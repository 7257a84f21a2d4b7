/-
  RvarAsks: its walk, for every two trees.
-/
import Derived.Test.YtnjepjkbmgkdkaaAwake
namespace Go.Proofs.Ytnjepjkbmgkdkaa
set_option linter.unusedVariables false
set_option maxRecDepth 4000
set_option linter.unusedSimpArgs false
open Go.RowKit

attribute [local go_sem ↓] ldP ldT stT
set_option maxHeartbeats 8000000 in
theorem RvarAsks_walk (h : Hd) (a0 : Option Addr) (n0 c0 : Nat) (l : List Pt) (g : Hd) (d0 : Option Addr) (m0 k0 : Nat) (ms : List Pt) (i : Int) (w : World) (hs : SlAt w a0 n0 c0 l) (hs' : SlAt w d0 m0 k0 ms) (hi : -9223372036854775808 ≤ i ∧ i ≤ 9223372036854775807) :
    Calls Try.prog 5 #[.agg (trc h (.slice a0 n0 c0)), .agg (trc g (.slice d0 m0 k0)), .int .i64 i] w fun r w' => r = .returned (.bool true) ∧ Below w.heap.size w w' := by
  obtain ⟨W, hW, r0, r1, bW, zW⟩ := two_tt w h g (.slice a0 n0 c0) (.slice d0 m0 k0)
  have H : Hid (SlAt W a0 n0 c0 l ∧ SlAt W d0 m0 k0 ms ∧ RvAt W w.heap.size 34 (trc h (.slice a0 n0 c0)) ∧ RvAt W (w.heap.size + 1) 34 (trc g (.slice d0 m0 k0)) ∧ Below w.heap.size w W ∧ W.heap.size = w.heap.size + 2) := ⟨hs.below bW, hs'.below bW, r0, r1, bW, zW⟩
  have f0 := fun qq : Later W => (H.out.2.2.1.below qq.below).tld
  have f1 := fun qq : Later W => (H.out.2.2.2.1.below qq.below).tld
  clear hs hs' r0 r1 bW zW hi
  go_enter Try.func5, Try.ntmps5
  go_wp2_with fail
  obtain ⟨X0, hX0⟩ : ∃ X0, World.drew W = X0 := ⟨_, rfl⟩
  have B0 : Hid (Below W.heap.size W X0) := by rw [← hX0]; exact (Below.refl _ _).drew
  refine wp_region_noPanic ?_
  refine AnyZ.start (z := 4) (S := fun w' => ∃ x : Later W, w' = x.val) (by kernel_rfl) ⟨⟨_, (Below.refl _ _).drew⟩, rfl⟩ (fun hHeld => ?_)
  rw [hX0] at hHeld ⊢
  clear hX0
  refine AnyZ.take (i := 0) (oi := { dst := some 8, op := Op.load 34 (Operand.tmp 3), type := 34, pos := "law.go:52", after := #[], guard := none }) (v := ?_) rfl (by kernel_rfl) (by kernel_rfl) (fun _ _ _ h => h) _ _ _ _ (by kernel_rfl) (by kernel_rfl) (by kernel_rfl) (Or.inl ⟨by rfl, ?_⟩) hHeld ?_
  rotate_left
  · intro W_ hSw_
    obtain ⟨qq, rfl⟩ := hSw_
    first | (go_simp; done) | (go_simp; with_reducible rfl)
  rotate_left
  try simp only [Act.put, List.setIfInBounds_toArray, List.set_cons_zero, List.set_cons_succ]
  refine AnyZ.take2 (i := 2) (m := 3) (oi := { dst := some 10, op := Op.load 34 (Operand.tmp 4), type := 34, pos := "law.go:52", after := #[], guard := none }) (v := ?_) rfl (by kernel_rfl) (by kernel_rfl) (by kernel_rfl) (fun _ _ _ h => h) _ _ _ _ (by kernel_rfl) (by kernel_rfl) (by kernel_rfl) (by kernel_rfl) (Or.inl ⟨by rfl, ?_⟩) hHeld ?_
  rotate_left
  · intro W_ hSw_
    obtain ⟨qq, rfl⟩ := hSw_
    first | (go_simp; done) | (go_simp; with_reducible rfl)
  rotate_left
  try simp only [Act.put, List.setIfInBounds_toArray, List.set_cons_zero, List.set_cons_succ]
  refine AnyZ.step (i := 1) (o := { dst := some 9, op := Op.call { callee := Callee.value (Operand.func 12), args := #[Operand.tmp 8], argTypes := #[34] }, type := 34, pos := "law.go:52", after := #[{ on := 0, ground := Ground.data }], guard := none }) (by kernel_rfl) rfl (fun K hK => ?_)
  go_simp
  refine (few_any h a0 n0 c0 l _ (H.out.1.below B0.out)).mono ?_
  rintro _ X1 ⟨v1, rfl, o1, bb⟩
  have B1 : Hid (Below W.heap.size W X1) := below_over B0.out bb
  have O1 : Hid (Own X1 W.heap.size v1 (l.take 10)) := o1.base B0.out.size
  clear bb o1 hHeld
  refine hK.out _ _ ⟨⟨_, B1.out⟩, rfl⟩ (fun hHeld => ?_)
  clear hK K
  try simp only [Act.put, List.setIfInBounds_toArray, List.set_cons_zero, List.set_cons_succ]
  refine AnyZ.step (i := 3) (o := { dst := some 11, op := Op.call { callee := Callee.value (Operand.func 12), args := #[Operand.tmp 10], argTypes := #[34] }, type := 34, pos := "law.go:52", after := #[{ on := 2, ground := Ground.data }, { on := 1, ground := Ground.chain }], guard := none }) (by kernel_rfl) rfl (fun K hK => ?_)
  go_simp
  refine (few_any g d0 m0 k0 ms _ (H.out.2.1.below B1.out)).mono ?_
  rintro _ X2 ⟨v2, rfl, o2, bb⟩
  have B2 : Hid (Below W.heap.size W X2) := below_over B1.out bb
  have O2 : Hid (Own X2 W.heap.size v2 (ms.take 10)) := o2.base B1.out.size
  have O3 : Hid (Own X2 W.heap.size v1 (l.take 10)) := O1.out.below bb
  clear bb o2 hHeld O1
  refine hK.out _ _ ⟨⟨_, B2.out⟩, rfl⟩ (fun hHeld => ?_)
  clear hK K
  try simp only [Act.put, List.setIfInBounds_toArray, List.set_cons_zero, List.set_cons_succ]
  clear hHeld
  obtain ⟨Z0, s0, e0, g0⟩ := (H.out.2.2.1.below B2.out).tst (g := h) (y := v1) O3.out.one
  have z2 := H.out.2.2.2.2.2
  have e0' := (H.out.2.2.2.1.below B2.out).keptBut g0 (by simp)
  obtain ⟨V, s1, e1, g1⟩ := e0'.tst (g := g) (y := v2) O2.out.one
  have q1 := e0.keptBut g1 (by simp)
  have oA := (O3.out.keptBut g0 (O3.out.apart (by omega))).keptBut g1 (O3.out.apart (by omega))
  have oB := (O2.out.keptBut g0 (O2.out.apart (by omega))).keptBut g1 (O2.out.apart (by omega))
  have bV : Below w.heap.size w V := gro (gro (below_over H.out.2.2.2.2.1 B2.out) g0 (Nat.le_refl _) (below_over H.out.2.2.2.2.1 B2.out).size) g1 (by omega) (by have := (below_over H.out.2.2.2.2.1 B2.out).size; have := g0.size; omega)
  obtain ⟨ls, hls⟩ : ∃ ls, l.take 10 = ls := ⟨_, rfl⟩
  obtain ⟨ns, hns⟩ : ∃ ns, ms.take 10 = ns := ⟨_, rfl⟩
  have hl1 : ls.length ≤ 10 := by rw [← hls, List.length_take]; omega
  have hl2 : ns.length ≤ 10 := by rw [← hns, List.length_take]; omega
  rw [hls] at oA
  rw [hns] at oB
  obtain ⟨a, c, hv1, sA, _⟩ := oA.form
  obtain ⟨d, k, hv2, sB, _⟩ := oB.form
  subst hv1
  subst hv2
  have G : Hid (RvAt V w.heap.size 34 (trc h (.slice a ls.length c)) ∧ RvAt V (w.heap.size + 1) 34 (trc g (.slice d ns.length k)) ∧ SlAt V a ls.length c ls ∧ SlAt V d ns.length k ns ∧ Below w.heap.size w V) := ⟨q1, e1, sA, sB, bV⟩
  clear O2 O3 e0 g0 z2 e0' e1 g1 q1 oA oB bV sA sB hls hns B0 B1 B2 f0 f1
  refine AnyZ.stepF (i := 4) (o := { dst := none, op := Op.store 34 (Operand.tmp 3) (Operand.tmp 9), type := 0, pos := "law.go:52", after := #[{ on := 1, ground := Ground.data }, { on := 3, ground := Ground.chain }, { on := 0, ground := Ground.phase }, { on := 1, ground := Ground.phase }, { on := 2, ground := Ground.textOnly Departure.lateStores }, { on := 3, ground := Ground.textOnly Departure.lateStoresUnsure }], guard := none }) (by kernel_rfl) rfl (by kernel_rfl) (fun K hK => ?_)
  go_simp
  refine hK.out _ _ ?_
  clear hK K
  try simp only [Act.put, List.setIfInBounds_toArray, List.set_cons_zero, List.set_cons_succ]
  refine AnyZ.stepF (i := 5) (o := { dst := none, op := Op.store 34 (Operand.tmp 4) (Operand.tmp 11), type := 0, pos := "law.go:52", after := #[{ on := 3, ground := Ground.data }, { on := 4, ground := Ground.chain }, { on := 0, ground := Ground.phase }, { on := 1, ground := Ground.phase }, { on := 2, ground := Ground.phase }, { on := 3, ground := Ground.phase }, { on := 4, ground := Ground.phase }], guard := none }) (by kernel_rfl) rfl (by kernel_rfl) (fun K hK => ?_)
  go_simp
  refine hK.out _ _ ?_
  clear hK K
  try simp only [Act.put, List.setIfInBounds_toArray, List.set_cons_zero, List.set_cons_succ]
  refine AnyZ.done (by kernel_rfl) ?_ _
  refine NoPanic.normal ?_
  clear s0 s1
  obtain ⟨n, hn⟩ : ∃ n, ls.length = n := ⟨_, rfl⟩
  obtain ⟨m, hm⟩ : ∃ m, ns.length = m := ⟨_, rfl⟩
  rw [hn] at G hl1
  rw [hm] at G hl2
  simp only [hn, hm]
  have HN : Hid (ls.length = n ∧ ns.length = m) := ⟨hn, hm⟩
  clear hn hm
  go_wp2_with fail
  go_loopw [7] (fun v7 wr => ∃ j : Nat, j ≤ n ∧ v7 = .int .i64 j ∧ Below V.heap.size V wr) (fun v7 _ => n - (intOf v7).toNat)
  case atStart => exact ⟨0, by omega, rfl, Below.refl _ _⟩
  case round =>
    obtain ⟨j, hj, rfl, hB⟩ := hrel
    have J : Hid (Below V.heap.size V wr) := hB
    have hin0 : (0 : Int) ≤ (j : Int) := by omega
    have t16 := (G.out.1.below hB).t16
    by_cases hit : j < n
    · have hin1 : (j : Int) < (n : Int) := by omega
      obtain ⟨b, o, rfl⟩ := G.out.2.2.1.some' (by omega)
      have hjl : j < ls.length := by rw [HN.out.1]; exact hit
      obtain ⟨x, hx⟩ : ∃ x, gtA ls j = x := ⟨_, rfl⟩
      have fp := fun qq : Later wr => ((G.out.2.2.1.below hB).below qq.below).ld (gtA_at hjl)
      rw [hx] at fp
      have f16 := fun qq : Later wr => ((G.out.1.below hB).below qq.below).t16
      have D1 : Hid (∀ qq : Later wr, Calls Try.prog 22 #[.agg x.cs] qq.val fun r w' => r = .returned (.int .u8 (delayP x)) ∧ Below qq.val.heap.size qq.val w') := fun qq => delay_any x qq.val
      have D2 : Hid (∀ qq : Later wr, Calls Try.prog 23 #[.agg x.cs] qq.val fun r w' => r = .returned (.int .u8 (delayP x)) ∧ Below qq.val.heap.size qq.val w') := fun qq => rdelay_any x qq.val
      generalize delayP x = dx at D1 D2
      clear hB hjl hx
      go_wp2_with fail
      refine wp_region_later (by kernel_rfl) (by kernel_rfl) ?_
      repeat (go_big_quiet_step (first | exact rfl | (go_at_call 22; with_reducible exact Calls.later_of (D1.out _)) | (go_at_call 23; with_reducible exact Calls.later_of (D2.out _))))
      refine wpQuiet_nil ?_
      intro _ hw'
      obtain ⟨z, rfl⟩ := hw'
      clear fp f16 D1 D2
      go_wp2
      go_roundw
      case rel => exact ⟨j + 1, by omega, by go_num, below_over J.out z.below⟩
      case measure => simp [intOf]; omega
    · have hin : j = n := by omega
      subst hin
      have hin1 : ¬ (j : Int) < (j : Int) := by omega
      have GG : Hid (RvAt wr w.heap.size 34 (trc h (.slice a j c)) ∧ RvAt wr (w.heap.size + 1) 34 (trc g (.slice d m k)) ∧ SlAt wr a j c ls ∧ SlAt wr d m k ns) := ⟨G.out.1.below hB, G.out.2.1.below hB, G.out.2.2.1.below hB, G.out.2.2.2.1.below hB⟩
      have ft := fun qq : Later wr => (GG.out.1.below qq.below).tld
      have fu := fun qq : Later wr => (GG.out.2.1.below qq.below).tld
      have C1 : Hid (∀ qq : Later wr, Calls Try.prog 24 #[.agg (trc h (.slice a j c)), .int .i64 i] qq.val fun r w' => r = .returned (.bool (allK (okS i) ls)) ∧ Below qq.val.heap.size qq.val w') := fun qq => allS_any h a j c ls i qq.val (GG.out.2.2.1.below qq.below) (by omega)
      have C2 : Hid (∀ qq : Later wr, Calls Try.prog 25 #[.agg (trc h (.slice a j c)), .int .i64 i] qq.val fun r w' => r = .returned (.bool (allK (okS i) ls)) ∧ Below qq.val.heap.size qq.val w') := fun qq => rallS_any h a j c ls i qq.val (GG.out.2.2.1.below qq.below) (by omega)
      have C3 : Hid (∀ qq : Later wr, Calls Try.prog 26 #[.agg (trc h (.slice a j c)), .int .i64 i] qq.val fun r w' => r = .returned (.bool (allK (okR i) ls)) ∧ Below qq.val.heap.size qq.val w') := fun qq => allR_any h a j c ls i qq.val (GG.out.2.2.1.below qq.below) (by omega)
      have C4 : Hid (∀ qq : Later wr, Calls Try.prog 27 #[.agg (trc h (.slice a j c)), .int .i64 i] qq.val fun r w' => r = .returned (.bool (allK (okR i) ls)) ∧ Below qq.val.heap.size qq.val w') := fun qq => rallR_any h a j c ls i qq.val (GG.out.2.2.1.below qq.below) (by omega)
      have C5 : Hid (∀ qq : Later wr, Calls Try.prog 28 #[.agg (trc h (.slice a j c)), .agg (trc g (.slice d m k))] qq.val fun r w' => r = .returned (.bool (sameT h g ls ns)) ∧ Below qq.val.heap.size qq.val w') := fun qq => same_any h g a d j m c k ls ns qq.val (GG.out.2.2.1.below qq.below) (GG.out.2.2.2.below qq.below) (by omega) (by omega)
      have C6 : Hid (∀ qq : Later wr, Calls Try.prog 9 #[.agg (trc h (.slice a j c)), .agg (trc g (.slice d m k))] qq.val fun r w' => r = .returned (.bool (sameT h g ls ns)) ∧ Below qq.val.heap.size qq.val w') := fun qq => rsame_any h g a d j m c k ls ns qq.val (GG.out.2.2.1.below qq.below) (GG.out.2.2.2.below qq.below) (by omega) (by omega)
      have C7 : Hid (∀ qq : Later wr, Calls Try.prog 28 #[.agg (trc h (.slice a j c)), .agg (trc h (.slice a j c))] qq.val fun r w' => r = .returned (.bool true) ∧ Below qq.val.heap.size qq.val w') := fun qq => by
        have := same_any h h a a j j c c ls ls qq.val (GG.out.2.2.1.below qq.below) (GG.out.2.2.1.below qq.below) (by omega) (by omega)
        rw [sameT_self] at this
        exact this
      have C8 : Hid (∀ qq : Later wr, Calls Try.prog 11 #[] qq.val fun r w' => r = .returned (.bool true) ∧ Below qq.val.heap.size qq.val w') := fun qq => awake_any qq.val
      generalize allK (okS i) ls = y1 at C1 C2
      generalize allK (okR i) ls = y2 at C3 C4
      generalize sameT h g ls ns = y3 at C5 C6
      clear hB
      go_wp2_with fail
      clear t16
      refine wp_region_later (by kernel_rfl) (by kernel_rfl) ?_
      repeat (go_big_quiet_step (first | exact rfl | (go_at_call 24; with_reducible exact Calls.later_of (C1.out _)) | (go_at_call 25; with_reducible exact Calls.later_of (C2.out _)) | (go_at_call 26; with_reducible exact Calls.later_of (C3.out _)) | (go_at_call 27; with_reducible exact Calls.later_of (C4.out _)) | (go_at_call 28; with_reducible exact Calls.later_of (C5.out _)) | (go_at_call 28; with_reducible exact Calls.later_of (C7.out _)) | (go_at_call 9; with_reducible exact Calls.later_of (C6.out _)) | (go_at_call 11; with_reducible exact Calls.later_of (C8.out _))))
      refine wpQuiet_nil ?_
      intro _ hw'
      obtain ⟨z, rfl⟩ := hw'
      clear ft fu C1 C2 C3 C4 C5 C6 C7 C8
      go_wp2
      go_ret
      exact ⟨rfl, below_over (below_over G.out.2.2.2.2 J.out) z.below⟩
end Go.Proofs.Ytnjepjkbmgkdkaa
