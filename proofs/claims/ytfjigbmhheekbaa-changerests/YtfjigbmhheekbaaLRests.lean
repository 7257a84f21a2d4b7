/-
  ChangeRests: its walk, for every tree and place.
-/
import Derived.Test.YtfjigbmhheekbaaAwake
import Derived.Test.YtfjigbmhheekbaaLPure
import Derived.Deep.Cut
import Derived.Deep.CutRange
namespace Go.Proofs.Ytfjigbmhheekbaa
set_option linter.unusedVariables false
set_option maxRecDepth 4000
set_option linter.unusedSimpArgs false
open Go.RowKit

/-- Whatever came is gone. -/
def clrP (p : Pt) : Pt := (((p.setB 17 kb17 false).setB 19 kb19 false).setB 18 kb18 false).setB 27 kb27 false
theorem clr_cl (p : Pt) : Cl (clrP p) := by
  unfold clrP
  refine ⟨?_, ?_, ?_, ?_⟩
  · rw [setB_bt _ _ _ (by decide), setB_bt _ _ _ (by decide), setB_bt _ _ _ (by decide), setB_at]
  · rw [setB_bt _ _ _ (by decide), setB_bt _ _ _ (by decide), setB_at]
  · rw [setB_bt _ _ _ (by decide), setB_at]
  · rw [setB_at]
theorem PN.setB' {w W : World} {b j : Nat} {q : Pt} (s : PN w W b q) (h : kdP[j]? = some none) (x : Bool) : ∃ V, (stS 4 (.pointer (some ⟨b, j, none⟩)) (.bool x)).run Try.prog W = .ok () V ∧ PN w V b (q.setB j h x) := s.setB h x
attribute [local go_sem ↓] ldP stP stB ldT stT apE st32 alP
attribute [local go_sem] alP_run
set_option maxHeartbeats 8000000 in
theorem ChangeRests_walk (h : Hd) (a0 : Option Addr) (n0 c0 : Nat) (l0 : List Pt) (i : Int) (w : World) (hs : SlAt w a0 n0 c0 l0) (hi : 0 ≤ i ∧ i ≤ 255) :
    Calls Try.prog 8 #[.agg (trc h (.slice a0 n0 c0)), .int .u8 i] w fun r w' => r = .returned (.bool true) ∧ Below w.heap.size w w' := by
  obtain ⟨W, hW, r0, bW, zW⟩ := one_t w h (.slice a0 n0 c0)
  have t0 := r0.tld
  have H : Hid (SlAt W a0 n0 c0 l0 ∧ RvAt W w.heap.size 43 (trc h (.slice a0 n0 c0)) ∧ Below w.heap.size w W) := ⟨hs.below bW, r0, bW⟩
  clear hs r0 bW zW
  go_enter Try.func8, Try.ntmps8
  go_wp2_with fail
  refine (few_any h a0 n0 c0 l0 W H.out.1).mono ?_
  rintro _ W1 ⟨n, rfl, hn, s1, b1⟩
  obtain ⟨l, hl⟩ : ∃ l, l0.take 12 = l := ⟨_, rfl⟩
  rw [hl] at s1
  obtain ⟨V, sV, t⟩ := TQ.few (w := w) H.out.2.1 H.out.2.2 (Nat.le_refl _) b1 s1
  have G4 : Hid (TQ w V w.heap.size h a0 n c0 l) := t
  have hn1 : n ≤ 1000 := by omega
  have c16 := t.var.t16
  by_cases h0 : n = 0
  · subst h0
    clear s1 b1 t t0 H hW hl
    go_wp2_with fail
    refine (awake_any V).mono ?_
    rintro _ V5 ⟨rfl, b5⟩
    have F : Hid (Below w.heap.size w V5) := below_over G4.out.bel b5
    clear b5 G4
    go_wp2
    go_ret
    exact ⟨rfl, F.out⟩
  · have hn0 : ((n : Int) == 0) = false := by simp; omega
    have hnp : (0 : Int) < (n : Int) := by omega
    obtain ⟨k, hk, hkn⟩ : ∃ k : Nat, i % (n : Int) = (k : Int) ∧ k < n := ⟨(i % (n : Int)).toNat, by have := Int.emod_nonneg i (b := (n : Int)) (by omega); omega, by have := Int.emod_nonneg i (b := (n : Int)) (by omega); have := Int.emod_lt_of_pos i hnp; omega⟩
    obtain ⟨A, hA⟩ : ∃ A, V.alloc (.cells #[] 36) = A := ⟨_, rfl⟩
    have bA : Below V.heap.size V A := by rw [← hA]; exact (Below.refl _ _).alloc (Nat.le_refl _) _
    have oA : Own A V.heap.size (.slice (some ⟨V.heap.size, 0, none⟩) 0 0) [] := by rw [← hA]; exact zero_new V _ (Nat.le_refl _)
    have d16 := (t.below bA).var.t16
    obtain ⟨v, V2, ap, o2, g2⟩ := oA.app ((t.below bA).sl) (by have := t.sl.len; simp; omega) bA.size 41
    rw [List.nil_append] at o2
    have b2 : Below V.heap.size V V2 := bA.trans (below_of_grown g2 bA.size (fun j e => by cases e; exact Nat.le_refl _))
    have hkl : k < l.length := by rw [t.sl.len]; exact hkn
    have HL : Hid (l.length = n ∧ k < n ∧ k < l.length) := ⟨t.sl.len, hkn, hkl⟩
    have tv := (t.below b2)
    rcases o2.pat with ⟨hv, hle⟩ | ⟨g, cc, hv, hg, hp⟩
    · rw [hle] at hkl; simp at hkl
    rw [t.sl.len] at hv
    subst hv
    have hin0 : (0 : Int) ≤ (k : Int) := by omega
    have hin1 : (k : Int) < (n : Int) := by omega
    have lp := hp.ld (gtP_at hkl) (q := k * 77) rfl
    obtain ⟨p, hpp⟩ : ∃ p, gtP l k = p := ⟨_, rfl⟩
    rw [hpp] at lp
    obtain ⟨Y0, y0, N0⟩ := PN.new V2 p
    obtain ⟨pb, hpb⟩ : ∃ z, V2.heap.size = z := ⟨_, rfl⟩
    rw [hpb] at y0 N0
    obtain ⟨Y1, y1, N1⟩ := N0.setB kb17 false
    obtain ⟨Y2, y2, N2⟩ := N1.setB kb19 false
    obtain ⟨Y3, y3, N3⟩ := N2.setB kb18 false
    obtain ⟨Y4, y4, N4⟩ := N3.setB kb27 false
    have N4 : PN V2 Y4 pb (clrP p) := N4
    obtain ⟨pc, hpc⟩ : ∃ z, clrP p = z := ⟨_, rfl⟩
    have HC : Hid (Cl pc) := by rw [← hpc]; exact clr_cl p
    rw [hpc] at N4
    have lp4 := N4.var.pld
    obtain ⟨Y5, y5, p5, g5⟩ := (hp.below N4.bel).stp (i := k) (p := pc) (q := k * 77) hkl rfl
    have gt : w.heap.size < V.heap.size := t.var.lt
    have t5 := (tv.var.below N4.bel).keptBut g5 (by simp; omega)
    obtain ⟨Y6, y6, r6, g6⟩ := t5.tset (y := .slice (some ⟨g, 0, none⟩) n cc) rfl
    have p6 := p5.keptBut g6 (by simp; omega)
    have s6 := p6.sl
    rw [List.length_set, t.sl.len] at s6
    have b5 : Below w.heap.size w Y5 := gro (below_over tv.bel N4.bel) g5 (by have := t.bel.size; omega) (below_over tv.bel N4.bel).size
    have b6 : Below w.heap.size w Y6 := gro b5 g6 (Nat.le_refl _) b5.size
    have T6 : Hid (TQ w Y6 w.heap.size h (some ⟨g, 0, none⟩) n cc (l.set k pc) ∧ Cl (gtP (l.set k pc) k)) := ⟨⟨r6, s6, b6, Nat.le_refl _⟩, by rw [gtP_put hkl]; exact HC.out⟩
    clear s1 b1 t t0 H hW hl G4 bA oA o2 g2 b2 tv hp N0 N1 N2 N3 N4 p5 g5 t5 r6 g6 p6 s6 b5 b6 hpp hpc HC gt hkl h0 hg
    have HK : Hid (i % (n : Int) = (k : Int)) := hk
    clear hk
    go_upto_region 5 with fail
    rw [HK.out]
    clear HK hi
    go_wp2_with fail
    clear y0 y1 y2 y3 y4 y5 y6 lp lp4 ap d16 c16 hA sV hpb
    go_loopw [8] (fun v8 wr => ∃ (j : Nat) (L : List Pt) (a : Option Addr) (c : Nat), j ≤ 2 ∧ v8 = .int .i64 j ∧ TQ w wr w.heap.size h a n c L ∧ Cl (gtP L k) ∧ rkT (gtP L k) ≤ 2 - j) (fun v8 _ => 3 - (intOf v8).toNat)
    case atStart => exact ⟨0, _, _, _, by omega, rfl, T6.out.1, T6.out.2, rkT_le _⟩
    case round =>
      obtain ⟨j, L, a, c, hj, rfl, tq, cl, hr⟩ := hrel
      have hj3 : (j : Int) < 3 := by omega
      have lt := tq.ld
      have C := tcm_in h a n c L k wr tq.sl hn1 HL.out.2.1
      have hkL : k < L.length := by rw [tq.sl.len]; exact HL.out.2.1
      have HT : Hid (TQ w wr w.heap.size h a n c L) := tq
      rcases rests h hkL cl with e | ⟨L', e, hl', cl', hr'⟩
      · rw [e] at C
        have C : Calls Try.prog 18 #[.agg (trc h (.slice a n c)), .int .i64 (k : Int)] wr fun r w' => ∃ a' c', r = .returned (.tuple #[.agg (trc h (.slice a' n c')), .bool false]) ∧ SlAt w' a' n c' L ∧ Below wr.heap.size wr w' := C
        have C : Hid _ := C
        clear tq cl hr e hkL T6
        go_wp2_with fail
        refine Calls.mono C.out ?_
        rintro _ X1 ⟨a2, c2, rfl, s2, b2⟩
        obtain ⟨X2, e4, t2, b3⟩ := TQ.new (w := w) (h := h) s2 (below_over HT.out.bel b2)
        have G : Hid (Below w.heap.size w X2) := t2.bel
        clear s2 b2 t2 b3 C lt HT
        go_wp2_with fail
        refine (awake_any X2).mono ?_
        rintro _ V5 ⟨rfl, b5⟩
        have F : Hid (Below w.heap.size w V5) := below_over G.out b5
        clear b5 G e4
        go_wp2
        go_ret
        exact ⟨rfl, F.out⟩
      · rw [e] at C
        have C : Calls Try.prog 18 #[.agg (trc h (.slice a n c)), .int .i64 (k : Int)] wr fun r w' => ∃ a' c', r = .returned (.tuple #[.agg (trc h (.slice a' n c')), .bool true]) ∧ SlAt w' a' n c' L' ∧ Below wr.heap.size wr w' := C
        have C : Hid _ := C
        have J : Hid (j + 1 ≤ 2 ∧ Cl (gtP L' k) ∧ rkT (gtP L' k) ≤ 2 - (j + 1)) := ⟨by omega, cl', by omega⟩
        clear tq cl hr e hkL T6 hl' cl' hr'
        go_wp2_with fail
        refine Calls.mono C.out ?_
        rintro _ X1 ⟨a2, c2, rfl, s2, b2⟩
        obtain ⟨X2, e4, t2, b3⟩ := TQ.new (w := w) (h := h) s2 (below_over HT.out.bel b2)
        have l2 := t2.ld
        obtain ⟨X3, e5, t3⟩ := TQ.few (w := w) (HT.out.below b2).var (HT.out.below b2).bel (Nat.le_refl _) b3 t2.sl
        have K : Hid (TQ w X3 w.heap.size h a2 n c2 L') := t3
        clear s2 b2 t2 b3 C lt HT t3
        go_wp2
        go_roundw
        case rel => exact ⟨j + 1, L', a2, c2, J.out.1, by go_num, K.out, J.out.2.1, J.out.2.2⟩
        case measure => simp [intOf]; omega
end Go.Proofs.Ytfjigbmhheekbaa
