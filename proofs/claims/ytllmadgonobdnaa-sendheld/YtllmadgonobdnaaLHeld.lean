/-
  SendHeld: its walk, for every tree.
-/
import Derived.Test.YtllmadgonobdnaaLawP
import Derived.Test.YtllmadgonobdnaaOpen
namespace Go.Proofs.Ytllmadgonobdnaa
set_option linter.unusedVariables false
set_option maxRecDepth 4000
set_option linter.unusedSimpArgs false
open Go.RowKit

attribute [local go_sem ↓] ldP stP stB stU stW ldT stT alP
attribute [local go_sem] alP_run
set_option maxHeartbeats 16000000 in
theorem SendHeld_walk (h : Hd) (a0 : Option Addr) (n0 c0 : Nat) (l : List Pt) (i st : Int) (w : World) (hs : SlAt w a0 n0 c0 l) (hi : -9223372036854775808 ≤ i ∧ i ≤ 9223372036854775807) (hst : 0 ≤ st ∧ st ≤ 255) :
    Calls Try.prog 5 #[.agg (trc h (.slice a0 n0 c0)), .int .i64 i, .int .u8 st] w fun r w' => r = .returned (.bool true) ∧ Below w.heap.size w w' := by
  obtain ⟨W, hW, r0, bW, zW⟩ := one_t w h (.slice a0 n0 c0)
  have l0 := r0.tld
  have H : Hid (SlAt W a0 n0 c0 l ∧ RvAt W w.heap.size 31 (trc h (.slice a0 n0 c0)) ∧ Below w.heap.size w W) := ⟨hs.below bW, r0, bW⟩
  clear hs r0 bW zW hi
  go_enter Try.func5, Try.ntmps5
  go_wp2_with fail
  refine (few_any h a0 n0 c0 l W H.out.1).mono ?_
  rintro _ W1 ⟨v, rfl, o1, b1⟩
  obtain ⟨ls, a, n, c, V, hlen, hn, rfl, sV, t, gV⟩ := few_in H.out.2.1 H.out.2.2 (Nat.le_refl _) b1 o1
  have G : Hid (TQ w V w.heap.size h a n c ls) := t
  have HN : Hid (ls.length = n) := hlen
  have hn1 : n ≤ 1000 := by omega
  have hn10 : n ≤ 10 := hn
  have lV := t.ld
  clear o1 b1 gV t l0 H hlen hW hn
  go_wp2_with fail
  refine (has_any h a n c i V hn1).mono ?_
  rintro _ V3 ⟨rfl, b3⟩
  have G3 : Hid (TQ w V3 w.heap.size h a n c ls) := G.out.below b3
  have F3 : Hid (Below w.heap.size w V3) := G3.out.bel
  clear b3 G lV sV
  by_cases hi : 0 ≤ i ∧ i < (n : Int)
  rotate_left
  · have eb : (decide (0 ≤ i) && decide (i < (n : Int))) = false := by simp; omega
    rw [eb]
    clear eb hi G3
    go_wp2_with fail
    refine (awake_any _).mono ?_
    rintro _ VA ⟨rfl, bA⟩
    have FA : Hid (Below w.heap.size w VA) := below_over F3.out bA
    clear bA
    go_wp2
    go_ret
    exact ⟨rfl, FA.out⟩
  have eb : (decide (0 ≤ i) && decide (i < (n : Int))) = true := by simp; omega
  rw [eb]
  clear eb
  obtain ⟨k, hk⟩ : ∃ k : Nat, i = (k : Int) := ⟨i.toNat, by omega⟩
  subst hk
  have hin0 : (0 : Int) ≤ (k : Int) := by omega
  have hin1 : (k : Int) < (n : Int) := by omega
  have HK : Hid (k < n) := by exact (by omega : k < n)
  obtain ⟨g0, o0, rfl⟩ := G3.out.sl.some' (by omega)
  have c16 := G3.out.var.t16
  have lp := G3.out.sl.ld (gtP_at (i := k) (by rw [HN.out]; exact HK.out))
  obtain ⟨W0, s0, T0, b0⟩ := TPQ.new G3.out (by omega) (gtP ls k)
  obtain ⟨Z, hZ⟩ : ∃ z, V3.heap.size = z := ⟨_, rfl⟩
  rw [hZ] at s0 T0
  clear b0 G3 hi
  obtain ⟨V1, e1, T1⟩ := T0.setN kn75 wi1
  obtain ⟨V2, e2, T2⟩ := T1.setU ku64 u0
  have T2 : TPQ w V2 h (some ⟨g0, o0, none⟩) n c ls Z (idlP (gtP ls k)) := T2
  have K2 : Hid (TPQ w V2 h (some ⟨g0, o0, none⟩) n c ls Z (idlP (gtP ls k))) := T2
  have l2 := T2.t.ld
  have p2 := T2.v.pld
  clear T0 T1 T2
  go_wp2_with fail
  refine (with_any h (some ⟨g0, o0, none⟩) n c ls k (idlP (gtP ls k)) V2 K2.out.t.sl hn1 HK.out).mono ?_
  rintro _ X2 ⟨g2, c2, rfl, f2, s2, b2⟩
  obtain ⟨Y, sY, tY, gY⟩ := (K2.out.t.below b2).st s2
  have HR : Hid (∃ aj cj lj, TQ w Y w.heap.size h aj n cj lj ∧ lj.length = n ∧ Hl h 0 (gtP lj k) ∧ Value.slice (some ⟨g2, 0, none⟩) n c2 = .slice aj n cj) := ⟨_, _, _, tY, by rw [List.length_set]; exact HN.out, by rw [gtP_put (by rw [HN.out]; exact HK.out)]; exact held_start h _, rfl⟩
  clear f2 s2 b2 tY gY l2 p2 K2 e1 e2 c16 lp hZ s0
  have hcv : IntKind.i64.wrap st = st := IntWalk.i64_in _ (by omega)
  go_wp2_with fail
  clear sY
  go_loopw [8, 9, 10, 11, 12, 13] (fun v8 v9 v10 v11 v12 v13 wr => ∃ (j : Nat) (m : Int) (aj : Option Addr) (cj : Nat) (lj : List Pt), (j : Int) ≤ st ∧ v9 = .int .i64 j ∧ v8 = .int .i64 m ∧ 0 ≤ m ∧ TQ w wr w.heap.size h aj n cj lj ∧ lj.length = n ∧ Hl h m (gtP lj k)) (fun _ v9 _ _ _ _ _ => st.toNat - (intOf v9).toNat)
  case atStart =>
    obtain ⟨aj, cj, lj, t1, t2, t3, _⟩ := HR.out
    exact ⟨0, 0, aj, cj, lj, by omega, rfl, rfl, Int.le_refl _, t1, t2, t3⟩
  case round =>
    clear HR
    obtain ⟨j, m, aj, cj, lj, hj, rfl, rfl, hm0, tj, lenj, hl⟩ := hrel
    have hm1 : m ≤ h.nm 5 := hl.le
    have h5 := h.u8 (j := 5) rfl
    by_cases hjs : (j : Int) < st
    · obtain ⟨g, oo, rfl⟩ := tj.sl.some' (by omega)
      have c16 := tj.var.t16
      have lp := tj.sl.ld (gtP_at (i := k) (by rw [lenj]; exact HK.out))
      obtain ⟨R0, s0, T0, b0⟩ := TPQ.new tj (by omega) (gtP lj k)
      obtain ⟨Z2, hZ2⟩ : ∃ z, wr.heap.size = z := ⟨_, rfl⟩
      rw [hZ2] at s0 T0
      obtain ⟨R1, e1, T1⟩ := T0.setB kb11 true
      have l1 := T1.t.ld
      have p1 := T1.v.pld
      have K1 : Hid (TPQ w R1 h (some ⟨g, oo, none⟩) n cj lj Z2 ((gtP lj k).setB 11 kb11 true)) := T1
      have HJ : Hid (lj.length = n ∧ Hl h m (gtP lj k)) := ⟨lenj, hl⟩
      clear b0 T0 T1 tj lenj hl
      go_wp2_with fail
      refine (with_any h (some ⟨g, oo, none⟩) n cj lj k ((gtP lj k).setB 11 kb11 true) R1 K1.out.t.sl hn1 HK.out).mono ?_
      rintro _ R2 ⟨g2, c2, rfl, f2, s2, b2⟩
      have K2 : Hid (TPQ w R2 h (some ⟨g, oo, none⟩) n cj lj Z2 ((gtP lj k).setB 11 kb11 true) ∧ SlAt R2 (some ⟨g2, 0, none⟩) n c2 (lj.set k ((gtP lj k).setB 11 kb11 true))) := ⟨K1.out.below b2, s2⟩
      clear f2 s2 b2 K1 l1 p1 e1 s0 c16 lp hZ2
      obtain ⟨lq, hlq⟩ : ∃ z, lj.set k ((gtP lj k).setB 11 kb11 true) = z := ⟨_, rfl⟩
      have HQ : Hid (lq.length = n ∧ Hl h m (gtP lq k)) := by
        rw [← hlq]
        exact ⟨by rw [List.length_set]; exact HJ.out.1, by rw [gtP_put (by rw [HJ.out.1]; exact HK.out)]; exact held_new HJ.out.2⟩
      rw [hlq] at K2
      clear hlq HJ
      go_wp2_with fail
      refine (ptx_in h (some ⟨g2, 0, none⟩) n c2 lq k R2 K2.out.2 hn1 HK.out).mono ?_
      rintro _ R3 ⟨a3, c3, v3, rfl, s3, u3_, b3⟩
      obtain ⟨hs1, hs2⟩ := held_step (by rw [HQ.out.1]; exact HK.out) HQ.out.2
      obtain ⟨L, hL⟩ : ∃ z, (ptxO h lq k).getD lq = z := ⟨_, rfl⟩
      obtain ⟨BB, hBB⟩ : ∃ z, (ptxO h lq k).isSome = z := ⟨_, rfl⟩
      obtain ⟨UU, hUU⟩ : ∃ z, ptxU h lq k = z := ⟨_, rfl⟩
      rw [hL] at s3 hs1 hs2
      rw [hUU] at u3_ hs1
      rw [hBB]
      obtain ⟨R4, s4, t4, b4⟩ := TQ.new (w := w) (h := h) s3 (below_over K2.out.1.t.bel b3)
      obtain ⟨i4, hi4⟩ : ∃ z, R3.heap.size = z := ⟨_, rfl⟩
      rw [hi4] at s4 t4
      have t1 := (K2.out.1.t.below b3).below b4
      obtain ⟨R5, s5, t5, g5⟩ := t1.st t4.sl
      have l4 := t4.ld
      have d16 := t4.var.t16
      have c16 := t1.var.t16
      have J : Hid (TQ w R5 w.heap.size h a3 n c3 L ∧ L.length = n ∧ Hl h (m + outN UU) (gtP L k)) := ⟨t5, by rw [hs2]; exact HQ.out.1, hs1⟩
      clear s3 b3 t4 b4 t1 t5 g5 hs1 hs2 hL hBB hUU K2 HQ
      cases UU with
      | none =>
        have e : v3 = .slice none 0 0 := u3_
        subst e
        have ew : IntKind.i64.wrap (m + 0) = m := by rw [Int.add_zero]; exact IntWalk.i64_in _ (by omega)
        have J : Hid (TQ w R5 w.heap.size h a3 n c3 L ∧ L.length = n ∧ Hl h m (gtP L k)) := by
          have := J.out
          rw [show outN none = 0 from rfl, Int.add_zero] at this
          exact this
        clear u3_
        go_wp2
        go_roundw
        case rel => exact ⟨j + 1, m, a3, c3, L, by omega, by go_num, by first | rfl | (rw [Int.add_zero]), hm0, J.out.1, J.out.2.1, J.out.2.2⟩
        case measure => simp [intOf]; omega
      | some r =>
        obtain ⟨b, e, ro⟩ := u3_
        subst e
        have J : Hid (TQ w R5 w.heap.size h a3 n c3 L ∧ L.length = n ∧ Hl h (m + 1) (gtP L k)) := J.out
        have hle := J.out.2.2.le
        have ew : IntKind.i64.wrap (m + 1) = m + 1 := IntWalk.i64_in _ (by omega)
        clear ro hle
        go_wp2
        go_roundw
        case rel => exact ⟨j + 1, m + 1, a3, c3, L, by omega, by go_num, rfl, by omega, J.out.1, J.out.2.1, J.out.2.2⟩
        case measure => simp [intOf]; omega
    · have c5 := tj.var.tnum (j := 5) (k := .u8) rfl
      have hcv5 : IntKind.i64.wrap (h.nm 5) = h.nm 5 := IntWalk.i64_in _ (by omega)
      have FF : Hid (Below w.heap.size w wr) := tj.bel
      obtain ⟨H5, hH5⟩ : ∃ z, h.nm 5 = z := ⟨_, rfl⟩
      rw [hH5] at c5 hcv5 hm1 h5
      clear tj lenj hl hH5
      go_wp2_with fail
      refine (awake_any _).mono ?_
      rintro _ VA ⟨rfl, bA⟩
      have FA : Hid (Below w.heap.size w VA) := below_over FF.out bA
      clear bA
      go_wp2
      go_ret
      exact ⟨rfl, FA.out⟩
end Go.Proofs.Ytllmadgonobdnaa
