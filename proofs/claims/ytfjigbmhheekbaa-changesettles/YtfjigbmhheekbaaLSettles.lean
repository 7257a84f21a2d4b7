/-
  ChangeSettles: its walk, for every port.
-/
import Derived.Test.YtfjigbmhheekbaaPst
import Derived.Test.YtfjigbmhheekbaaAwake
import Derived.Test.YtfjigbmhheekbaaLPure
namespace Go.Proofs.Ytfjigbmhheekbaa
set_option linter.unusedVariables false
set_option maxRecDepth 4000
set_option linter.unusedSimpArgs false
open Go.RowKit

attribute [local go_sem ↓] ldP stP stB alP eqgP eqlP neqP
attribute [local go_sem] alP_run
set_option maxHeartbeats 8000000 in
theorem ChangeSettles_walk (p : Pt) (w : World) : Calls Try.prog 6 #[.agg p.cs] w fun r w' => r = .returned (.bool true) ∧ Below w.heap.size w w' := by
  obtain ⟨W, hW, r0, bW, zW⟩ := new_p w p
  have l0 := r0.pld
  obtain ⟨W0, s0, r1, b1, z1⟩ := var_p W p
  obtain ⟨Z, hZ⟩ : ∃ Z, W.heap.size = Z := ⟨_, rfl⟩
  rw [hZ] at s0 r1
  have H : Hid (RvAt W0 Z 36 p.cs ∧ RvAt W0 w.heap.size 36 p.cs ∧ Below w.heap.size w W0) := ⟨r1, r0.below b1, below_over bW b1⟩
  have HZ : Hid (w.heap.size < Z) := by rw [← hZ, zW]; exact Nat.lt_succ_self _
  obtain ⟨L, hL9⟩ : ∃ z, p.bt 9 = z := ⟨_, rfl⟩
  obtain ⟨F0, hF7⟩ : ∃ z, p.bt 7 = z := ⟨_, rfl⟩
  have H9 : Hid (p.bt 9 = L) := hL9
  have H7 : Hid (p.bt 7 = F0) := hF7
  clear r0 bW zW r1 b1 z1 hL9 hF7
  go_enter Try.func6, Try.ntmps6
  go_wp2_with fail
  clear s0 l0 hW hZ
  go_loopw [4] (fun v4 wr => ∃ (i : Nat) (x y : Bool), i ≤ 2 ∧ v4 = .int .i64 i ∧ rkS x y L F0 ≤ 2 - i ∧ RvAt wr Z 36 (doesP x y p).cs ∧ RvAt wr w.heap.size 36 p.cs ∧ Below w.heap.size w wr) (fun v4 _ => 3 - (intOf v4).toNat)
  case atStart => exact ⟨0, p.bt 10, p.bt 8, by omega, rfl, rkS_le _ _ _ _, by rw [does_self]; exact H.out.1, H.out.2.1, H.out.2.2⟩
  case round =>
    obtain ⟨i, x, y, hi, rfl, hr, hq, hp, hb⟩ := hrel
    have hi3 : (i : Int) < 3 := by omega
    have C := pst_any (doesP x y p) wr
    rw [pst_does, H9.out, H7.out] at C
    obtain ⟨O, hO⟩ : ∃ z, stp x y L F0 = z := ⟨_, rfl⟩
    rw [hO] at C
    have HO : Hid (stp x y L F0 = O) := hO
    obtain ⟨q, hqq⟩ : ∃ z, doesP x y p = z := ⟨_, rfl⟩
    rw [hqq] at C hq
    have EQ : Hid (doesP x y p = q) := hqq
    have lq := hq.pld
    have K0 : Hid (RvAt wr Z 36 q.cs ∧ RvAt wr w.heap.size 36 p.cs ∧ Below w.heap.size w wr) := ⟨hq, hp, hb⟩
    have HR : Hid (rkS x y L F0 ≤ 2 - i) := hr
    clear hq hp hb hr hO hqq
    cases O with
    | none =>
      have C : Calls Try.prog 9 #[.agg q.cs] wr fun r w' => r = .returned (.tuple #[.agg q.cs, .bool false]) ∧ Below wr.heap.size wr w' := C
      have C : Hid _ := C
      have HX : Hid (x = L ∧ y = (L && F0)) := rkS_none x y L F0 HO.out
      go_wp2_with fail
      refine Calls.mono C.out ?_
      rintro _ W1 ⟨rfl, b1⟩
      obtain ⟨W2, s2, r2, b2, z2⟩ := var_p W1 q
      have k0 := r2.pld
      have K : Hid (RvAt W2 Z 36 q.cs ∧ RvAt W2 w.heap.size 36 p.cs ∧ Below w.heap.size w W2) := ⟨(K0.out.1.below b1).below b2, (K0.out.2.1.below b1).below b2, below_over (below_over K0.out.2.2 b1) b2⟩
      have lq2 := K.out.1.pld
      have eq := Row.eq_self q
      have HB : Hid (q.bt 10 = L ∧ q.bt 8 = (L && F0) ∧ (q.setB 10 kb10 (p.bt 10)).setB 8 kb8 (p.bt 8) = p) := by
        rw [← EQ.out, does_bt10, does_bt8, does_back]
        exact ⟨HX.out.1, HX.out.2, rfl⟩
      clear r2 b2 z2 b1 C lq K0 HR HO EQ HX
      cases L
      · skip
        have c9 := K.out.2.1.pbit (j := 9) rfl
        have c7 := K.out.2.1.pbit (j := 7) rfl
        have d10 := K.out.2.1.pbit (j := 10) rfl
        have d8 := K.out.2.1.pbit (j := 8) rfl
        have c10 := K.out.1.pbit (j := 10) rfl
        have c8 := K.out.1.pbit (j := 8) rfl
        rw [HB.out.1] at c10
        rw [HB.out.2.1] at c8
        simp only [Bool.false_and, Bool.true_and] at c8
        rw [H9.out] at c9
        rw [H7.out] at c7
        obtain ⟨U1, u1, q1, g1⟩ := K.out.1.setB kb10 (p.bt 10)
        have p1 := K.out.2.1.keptBut g1 (by simp; have := HZ.out; omega)
        have d8' := p1.pbit (j := 8) rfl
        obtain ⟨U2, u2, q2, g2⟩ := q1.setB kb8 (p.bt 8)
        rw [HB.out.2.2] at q2
        have p2 := p1.keptBut g2 (by simp; have := HZ.out; omega)
        have k1 := q2.pld
        have k2 := p2.pld
        have ep := Row.eq_self p
        have bU := gro (gro K.out.2.2 g1 (by have := HZ.out; omega) K.out.2.2.size) g2 (by have := HZ.out; omega) (by have := K.out.2.2.size; have := g1.size; omega)
        have G : Hid (Below w.heap.size w U2) := bU
        clear g1 g2 q1 q2 p1 p2 bU
        have hn2 : ¬ (2 : Int) < (i : Int) := by omega
        go_wp2_with fail
        refine (awake_any U2).mono ?_
        rintro _ V5 ⟨rfl, b5⟩
        have F : Hid (Below w.heap.size w V5) := below_over G.out b5
        clear b5 G k1 k2 ep
        go_wp2
        go_ret
        exact ⟨rfl, F.out⟩
      · cases F0
        · skip
          have c9 := K.out.2.1.pbit (j := 9) rfl
          have c7 := K.out.2.1.pbit (j := 7) rfl
          have d10 := K.out.2.1.pbit (j := 10) rfl
          have d8 := K.out.2.1.pbit (j := 8) rfl
          have c10 := K.out.1.pbit (j := 10) rfl
          have c8 := K.out.1.pbit (j := 8) rfl
          rw [HB.out.1] at c10
          rw [HB.out.2.1] at c8
          simp only [Bool.false_and, Bool.true_and] at c8
          rw [H9.out] at c9
          rw [H7.out] at c7
          obtain ⟨U1, u1, q1, g1⟩ := K.out.1.setB kb10 (p.bt 10)
          have p1 := K.out.2.1.keptBut g1 (by simp; have := HZ.out; omega)
          have d8' := p1.pbit (j := 8) rfl
          obtain ⟨U2, u2, q2, g2⟩ := q1.setB kb8 (p.bt 8)
          rw [HB.out.2.2] at q2
          have p2 := p1.keptBut g2 (by simp; have := HZ.out; omega)
          have k1 := q2.pld
          have k2 := p2.pld
          have ep := Row.eq_self p
          have bU := gro (gro K.out.2.2 g1 (by have := HZ.out; omega) K.out.2.2.size) g2 (by have := HZ.out; omega) (by have := K.out.2.2.size; have := g1.size; omega)
          have G : Hid (Below w.heap.size w U2) := bU
          clear g1 g2 q1 q2 p1 p2 bU
          have hn2 : ¬ (2 : Int) < (i : Int) := by omega
          go_wp2_with fail
          refine (awake_any U2).mono ?_
          rintro _ V5 ⟨rfl, b5⟩
          have F : Hid (Below w.heap.size w V5) := below_over G.out b5
          clear b5 G k1 k2 ep
          go_wp2
          go_ret
          exact ⟨rfl, F.out⟩
        · skip
          have c9 := K.out.2.1.pbit (j := 9) rfl
          have c7 := K.out.2.1.pbit (j := 7) rfl
          have d10 := K.out.2.1.pbit (j := 10) rfl
          have d8 := K.out.2.1.pbit (j := 8) rfl
          have c10 := K.out.1.pbit (j := 10) rfl
          have c8 := K.out.1.pbit (j := 8) rfl
          rw [HB.out.1] at c10
          rw [HB.out.2.1] at c8
          simp only [Bool.false_and, Bool.true_and] at c8
          rw [H9.out] at c9
          rw [H7.out] at c7
          obtain ⟨U1, u1, q1, g1⟩ := K.out.1.setB kb10 (p.bt 10)
          have p1 := K.out.2.1.keptBut g1 (by simp; have := HZ.out; omega)
          have d8' := p1.pbit (j := 8) rfl
          obtain ⟨U2, u2, q2, g2⟩ := q1.setB kb8 (p.bt 8)
          rw [HB.out.2.2] at q2
          have p2 := p1.keptBut g2 (by simp; have := HZ.out; omega)
          have k1 := q2.pld
          have k2 := p2.pld
          have ep := Row.eq_self p
          have bU := gro (gro K.out.2.2 g1 (by have := HZ.out; omega) K.out.2.2.size) g2 (by have := HZ.out; omega) (by have := K.out.2.2.size; have := g1.size; omega)
          have G : Hid (Below w.heap.size w U2) := bU
          clear g1 g2 q1 q2 p1 p2 bU
          have hn2 : ¬ (2 : Int) < (i : Int) := by omega
          go_wp2_with fail
          refine (awake_any U2).mono ?_
          rintro _ V5 ⟨rfl, b5⟩
          have F : Hid (Below w.heap.size w V5) := below_over G.out b5
          clear b5 G k1 k2 ep
          go_wp2
          go_ret
          exact ⟨rfl, F.out⟩
    | some ab =>
      obtain ⟨u, v⟩ := ab
      have C : Calls Try.prog 9 #[.agg q.cs] wr fun r w' => r = .returned (.tuple #[.agg (doesP u v p).cs, .bool true]) ∧ Below wr.heap.size wr w' := C
      obtain ⟨s, hs⟩ : ∃ z, doesP u v p = z := ⟨_, rfl⟩
      rw [hs] at C
      have C : Hid _ := C
      have hrk : rkS u v L F0 < rkS x y L F0 := rkS_some x y L F0 u v HO.out
      have J : Hid (i + 1 ≤ 2 ∧ rkS u v L F0 ≤ 2 - (i + 1) ∧ doesP u v p = s) := by have := HR.out; exact ⟨by omega, by omega, hs⟩
      clear hrk HO HR hs EQ
      go_wp2_with fail
      refine Calls.mono C.out ?_
      rintro _ W1 ⟨rfl, b1⟩
      obtain ⟨W2, s2, r2, b2, z2⟩ := var_p W1 s
      have k0 := r2.pld
      obtain ⟨W3, s3, r3, g3⟩ := ((K0.out.1.below b1).below b2).pst (q := s)
      have hz := HZ.out
      have K : Hid (RvAt W3 Z 36 s.cs ∧ RvAt W3 w.heap.size 36 p.cs ∧ Below w.heap.size w W3) := ⟨r3, ((K0.out.2.1.below b1).below b2).keptBut g3 (by simp; omega), gro (below_over (below_over K0.out.2.2 b1) b2) g3 (by omega) (below_over (below_over K0.out.2.2 b1) b2).size⟩
      clear r2 b2 z2 b1 C lq K0 r3 g3 hz
      go_wp2
      go_roundw
      case rel => exact ⟨i + 1, u, v, J.out.1, by go_num, J.out.2.1, by rw [J.out.2.2]; exact K.out.1, K.out.2.1, K.out.2.2⟩
      case measure => simp [intOf]; omega
end Go.Proofs.Ytfjigbmhheekbaa
