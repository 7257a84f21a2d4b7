/-
  How many maps, carries and members there may be: the walk of the statement, for every input.
-/
import Derived.Test.YtmfjlhcobhilcabMny
import Derived.Test.YtmfjlhcobhilcabMad
namespace Go.Proofs.Ytmfjlhcobhilcab
set_option linter.unusedVariables false
set_option maxRecDepth 4000
set_option linter.unusedSimpArgs false
open Go.RowKit
attribute [local go_sem ↓] ldM stM ldC stC ldB stB ldP stP apI bsI
attribute [local go_sem] bsI_is bsI2_is

attribute [local go_sem ↓] stIs stKs stMs stCs stBs ldD stD apK bsK
attribute [local go_sem] bsK_is
attribute [local go_sem ↓] bdB bdC bdM bdD
attribute [local go_sem] bdB_is bdC_is bdM3_is bdDB_is bdDC_is bdDM_is
theorem bsK3_is (x y z : Int) (w : World) : (bsS 24 3 #[(0, .int .i64 x), (1, .int .i64 y), (2, .int .i64 z)]).run Try.prog w = .ok (.slice (some ⟨w.heap.size, 0, none⟩) 3 3) (w.alloc (.cells #[.int .i64 x, .int .i64 y, .int .i64 z] 31)) := by kernel_rfl
attribute [local go_sem] bsK3_is
theorem many_new {α : Type} {e : El α} (W : World) (l : List α) (hl : l.length ≤ maxLen) : SlAt e (W.alloc (.cells (e.fl l).toArray e.ty)) (some ⟨W.heap.size, 0, none⟩) l.length l.length l := by
  refine ⟨rfl, Nat.le_refl _, hl, (fun e => by cases e), fun x hx h0 => ?_⟩
  cases hx
  refine ⟨_, _, rfl, fun j u hj => ?_⟩
  rw [Nat.zero_add]
  exact cell_at (alloc_at W _) j u (by simpa using hj)
theorem myB_end' {p : Pv} {i : Nat} (h : MyB p 64) (hi : i = 64) (m : Mp) (c : Cr) : doC p ⟨5, m, c, ⟨1 + (i : Int), [0]⟩⟩ = (p, 3) := by subst hi; exact myB_end h m c
theorem myC_end' {p : Pv} {i : Nat} (h : MyC p 64) (hi : i = 64) {v : Int} (h1 : 1 ≤ v) (h2 : v ≤ 64) (m : Mp) (b : Mb) : doC p ⟨3, m, ⟨1 + (i : Int), v⟩, b⟩ = (p, 3) := by subst hi; exact myC_end h h1 h2 m b
theorem myM_end' {p : Pv} {i : Nat} (h : MyM p 64) (hi : i = 64) (c : Cr) (b : Mb) : doC p ⟨1, myM i, c, b⟩ = (p, 3) := by subst hi; exact myM_end h c b
set_option maxHeartbeats 32000000 in
theorem ProvMany_walk (more : Int) (w : World) (hm : 0 ≤ more ∧ more ≤ 255) :
    Calls Try.prog 3 #[.int .u8 more] w fun r w' => r = .returned (.bool true) ∧ Below w.heap.size w w' := by
  obtain ⟨W, hW⟩ : ∃ z, w.alloc (.cells #[.int .i64 2, .int .i64 1, .int .i64 1] 31) = z := ⟨_, rfl⟩
  have B0 : Hid (Below w.heap.size w W ∧ SlAt eK W (some ⟨w.heap.size, 0, none⟩) 3 3 [2, 1, 1]) := by
    rw [← hW]
    exact ⟨(Below.refl _ _).alloc (Nat.le_refl _) _, many_new (e := eK) w [2, 1, 1] (by decide)⟩
  go_enter Try.func3, Try.ntmps3
  go_wp2_with fail
  refine (begun_any _ 3 3 [2, 1, 1] W B0.out.2).mono ?_
  rintro _ W1 ⟨⟨x0, rfl, h1⟩, b1⟩
  obtain ⟨P0, hP0⟩ : ∃ z, bgP [2, 1, 1] = z := ⟨_, rfl⟩
  have E0 : Hid (MyB P0 0) := by
    rw [← hP0]
    exact ⟨(chk_iff _).2 ⟨rfl, rfl, ⟨by show 0 ≤ 64; decide, by show 0 ≤ 64; decide, by show 0 ≤ 64; decide⟩, rfl, rfl, rfl⟩, rfl, rfl, rfl, rfl, (fun m hm => by cases hm), fun v h1 h2 => by omega⟩
  rw [hP0] at h1
  obtain ⟨W2, s2, S2, b2⟩ := PvS.new (w := w) (below_over B0.out.1 b1) h1
  have A2 : Hid (PvS w W2 W1.heap.size x0 P0) := S2
  clear h1 b1 S2 b2 hP0
  go_wp2_with fail
  obtain ⟨g, hg⟩ : ∃ z, W1.heap.size = z := ⟨_, rfl⟩
  rw [hg] at A2
  rw [hg]
  clear hg hW
  go_loopw [4] (fun v wr => ∃ (i : Nat) (x : Pr) (P : Pv), i ≤ 65 ∧ v = .int .i64 i ∧ PvS w wr g x P ∧ MyB P (min i 64)) (fun v _ => 65 - (intOf v).toNat)
  case atStart => exact ⟨0, x0, P0, by omega, rfl, A2.out, E0.out⟩
  case round =>
    obtain ⟨i, x, P, hi, rfl, hS, hR⟩ := hrel
    have J : Hid (PvS w wr g x P ∧ MyB P (min i 64) ∧ Sz P) := ⟨hS, hR, chk_sz hR.ok⟩
    have hi0 : (0 : Int) ≤ (i : Int) := by omega
    clear hS hR
    by_cases hit : i < 65
    · have hi1 : (i : Int) < 65 := by omega
      obtain ⟨U, hU⟩ : ∃ z, wr.alloc (.cells #[.int .i64 0] 3) = z := ⟨_, rfl⟩
      have bU : Below wr.heap.size wr U := by rw [← hU]; exact (Below.refl _ _).alloc (Nat.le_refl _) _
      have A3 : Hid (PvS w U g x P ∧ SlAt eI U (some ⟨wr.heap.size, 0, none⟩) 1 1 [0]) := ⟨J.out.1.below bU, by rw [← hU]; exact one_new wr 0 kI⟩
      clear bU
      have hne : ∃ q e, doC P ⟨5, ⟨0, 0, 0⟩, ⟨0, 0⟩, ⟨1 + (i : Int), [0]⟩⟩ = (q, e) ∧ MyB q (min (i + 1) 64) ∧ ((i < 64 ∧ e = 0) ∨ (i = 64 ∧ e = 3)) := by
        by_cases h6 : i < 64
        · have hR := J.out.2.1
          rw [show min i 64 = i by omega] at hR
          obtain ⟨q, h1, h2⟩ := myB_step hR h6 _ _
          exact ⟨q, 0, h1, by rw [show min (i + 1) 64 = i + 1 by omega]; exact h2, Or.inl ⟨h6, rfl⟩⟩
        · have hR := J.out.2.1
          rw [show min i 64 = 64 by omega] at hR
          exact ⟨P, 3, myB_end' hR (by omega) _ _, by rw [show min (i + 1) 64 = 64 by omega]; exact hR, Or.inr ⟨by omega, rfl⟩⟩
      obtain ⟨q, e, hd, hq, he⟩ := hne
      have D : Hid (doC P ⟨5, ⟨0, 0, 0⟩, ⟨0, 0⟩, ⟨1 + (i : Int), [0]⟩⟩ = (q, e) ∧ MyB q (min (i + 1) 64)) := ⟨hd, hq⟩
      clear hd hq
      have l0 := J.out.1.ld
      go_wp2_with fail
      refine (do_is (y := Cm.mk 5 ⟨0, 0, 0⟩ ⟨0, 0⟩ ⟨1 + (i : Int), some ⟨wr.heap.size, 0, none⟩, 1, 1⟩ zT) A3.out.1.pv J.out.2.2 ⟨rfl, rfl, rfl, rfl, A3.out.2⟩ (by show 1 ≤ 1000; decide) D.out.1).mono ?_
      rintro _ U4 ⟨⟨x2, rfl, h4⟩, b4⟩
      obtain ⟨U5, s5, Q5, b5⟩ := PvS.new (w := w) (below_over A3.out.1.bel b4) h4.pv
      have A5 : Hid (PvS w U5 g x P ∧ PvS w U5 U4.heap.size x2 q) := ⟨(A3.out.1.below b4).below b5, Q5⟩
      clear h4 b4 Q5 b5 l0
      have l5 := A5.out.2.ld
      obtain ⟨U6, s6, P6, g6⟩ := A5.out.1.st A5.out.2.pv
      have A6 : Hid (PvS w U6 g x2 q) := P6
      clear P6 g6
      rcases he with ⟨h6, rfl⟩ | ⟨h6, rfl⟩
      · have hi2 : (i : Int) < 64 := by omega
        have hi3 : ¬ (i : Int) ≥ 64 := by omega
        have hi4 : ¬ (64 : Int) ≤ (i : Int) := by omega
        have HI : Hid (i < 65) := hit
        clear h6 hit
        go_wp2
        go_roundw
        case rel => exact ⟨i + 1, x2, q, by have := HI.out; omega, by go_num, A6.out, D.out.2⟩
        case measure => have := HI.out; simp [intOf]; omega
      · have hi2 : ¬ (i : Int) < 64 := by omega
        have hi3 : (i : Int) ≥ 64 := by omega
        have hi4 : (64 : Int) ≤ (i : Int) := by omega
        have HI : Hid (i < 65) := hit
        clear h6 hit
        go_wp2
        go_roundw
        case rel => exact ⟨i + 1, x2, q, by have := HI.out; omega, by go_num, A6.out, D.out.2⟩
        case measure => have := HI.out; simp [intOf]; omega
    · have hi1 : ¬ (i : Int) < 65 := by omega
      have hin : i = 65 := by omega
      have K : Hid (PvS w wr g x P ∧ MyB P 64) := ⟨J.out.1, by have := J.out.2.1; rw [hin] at this; exact this⟩
      clear hin hit J
      go_wp2_with fail
      clear hi1 hi0 hi
      go_loopw [7] (fun v wr => ∃ (i : Nat) (x : Pr) (P : Pv), i ≤ 65 ∧ v = .int .i64 i ∧ PvS w wr g x P ∧ MyC P (min i 64)) (fun v _ => 65 - (intOf v).toNat)
      case atStart => exact ⟨0, x, P, by omega, rfl, K.out.1, K.out.2.done⟩
      case round =>
        obtain ⟨i, x, P, hi, rfl, hS, hR⟩ := hrel
        have J : Hid (PvS w wr g x P ∧ MyC P (min i 64) ∧ Sz P) := ⟨hS, hR, chk_sz hR.ok⟩
        have hi0 : (0 : Int) ≤ (i : Int) := by omega
        clear hS hR
        by_cases hit : i < 65
        · have hi1 : (i : Int) < 65 := by omega
          have A3 : Hid (PvS w wr g x P ∧ True) := ⟨J.out.1, trivial⟩
          have hne : ∃ q e, doC P ⟨3, ⟨0, 0, 0⟩, ⟨1 + (i : Int), 1 + ((i : Int) + more) % 64⟩, ⟨0, []⟩⟩ = (q, e) ∧ MyC q (min (i + 1) 64) ∧ ((i < 64 ∧ e = 0) ∨ (i = 64 ∧ e = 3)) := by
            by_cases h6 : i < 64
            · have hR := J.out.2.1
              rw [show min i 64 = i by omega] at hR
              obtain ⟨q, h1, h2⟩ := myC_step hR h6 (v := 1 + ((i : Int) + more) % 64) (by omega) (by omega) ⟨0, 0, 0⟩ ⟨0, []⟩
              exact ⟨q, 0, h1, by rw [show min (i + 1) 64 = i + 1 by omega]; exact h2, Or.inl ⟨h6, rfl⟩⟩
            · have hR := J.out.2.1
              rw [show min i 64 = 64 by omega] at hR
              exact ⟨P, 3, myC_end' hR (by omega) (by omega) (by omega) _ _, by rw [show min (i + 1) 64 = 64 by omega]; exact hR, Or.inr ⟨by omega, rfl⟩⟩
          obtain ⟨q, e, hd, hq, he⟩ := hne
          have D : Hid (doC P ⟨3, ⟨0, 0, 0⟩, ⟨1 + (i : Int), 1 + ((i : Int) + more) % 64⟩, ⟨0, []⟩⟩ = (q, e) ∧ MyC q (min (i + 1) 64)) := ⟨hd, hq⟩
          clear hd hq
          have l0 := J.out.1.ld
          go_wp2_with fail
          refine (do_is (y := Cm.mk 3 ⟨0, 0, 0⟩ ⟨1 + (i : Int), 1 + ((i : Int) + more) % 64⟩ ⟨0, none, 0, 0⟩ zT) A3.out.1.pv J.out.2.2 ⟨rfl, rfl, rfl, rfl, SlAt.none' _⟩ (by show 0 ≤ 1000; decide) D.out.1).mono ?_
          rintro _ U4 ⟨⟨x2, rfl, h4⟩, b4⟩
          obtain ⟨U5, s5, Q5, b5⟩ := PvS.new (w := w) (below_over A3.out.1.bel b4) h4.pv
          have A5 : Hid (PvS w U5 g x P ∧ PvS w U5 U4.heap.size x2 q) := ⟨(A3.out.1.below b4).below b5, Q5⟩
          clear h4 b4 Q5 b5 l0
          have l5 := A5.out.2.ld
          obtain ⟨U6, s6, P6, g6⟩ := A5.out.1.st A5.out.2.pv
          have A6 : Hid (PvS w U6 g x2 q) := P6
          clear P6 g6
          rcases he with ⟨h6, rfl⟩ | ⟨h6, rfl⟩
          · have hi2 : (i : Int) < 64 := by omega
            have hi3 : ¬ (i : Int) ≥ 64 := by omega
            have hi4 : ¬ (64 : Int) ≤ (i : Int) := by omega
            have HI : Hid (i < 65) := hit
            clear h6 hit
            go_wp2
            go_roundw
            case rel => exact ⟨i + 1, x2, q, by have := HI.out; omega, by go_num, A6.out, D.out.2⟩
            case measure => have := HI.out; simp [intOf]; omega
          · have hi2 : ¬ (i : Int) < 64 := by omega
            have hi3 : (i : Int) ≥ 64 := by omega
            have hi4 : (64 : Int) ≤ (i : Int) := by omega
            have HI : Hid (i < 65) := hit
            clear h6 hit
            go_wp2
            go_roundw
            case rel => exact ⟨i + 1, x2, q, by have := HI.out; omega, by go_num, A6.out, D.out.2⟩
            case measure => have := HI.out; simp [intOf]; omega
        · have hi1 : ¬ (i : Int) < 65 := by omega
          have hin : i = 65 := by omega
          have K : Hid (PvS w wr g x P ∧ MyC P 64) := ⟨J.out.1, by have := J.out.2.1; rw [hin] at this; exact this⟩
          clear hin hit J
          go_wp2_with fail
          clear hi1 hi0 hi
          go_loopw [10] (fun v wr => ∃ (i : Nat) (x : Pr) (P : Pv), i ≤ 65 ∧ v = .int .i64 i ∧ PvS w wr g x P ∧ MyM P (min i 64)) (fun v _ => 65 - (intOf v).toNat)
          case atStart => exact ⟨0, x, P, by omega, rfl, K.out.1, K.out.2.done⟩
          case round =>
            obtain ⟨i, x, P, hi, rfl, hS, hR⟩ := hrel
            have J : Hid (PvS w wr g x P ∧ MyM P (min i 64) ∧ Sz P) := ⟨hS, hR, chk_sz hR.ok⟩
            have hi0 : (0 : Int) ≤ (i : Int) := by omega
            clear hS hR
            by_cases hit : i < 65
            · have hi1 : (i : Int) < 65 := by omega
              have A3 : Hid (PvS w wr g x P ∧ True) := ⟨J.out.1, trivial⟩
              have hne : ∃ q e, doC P ⟨1, myM i, ⟨0, 0⟩, ⟨0, []⟩⟩ = (q, e) ∧ MyM q (min (i + 1) 64) ∧ ((i < 64 ∧ e = 0) ∨ (i = 64 ∧ e = 3)) := by
                by_cases h6 : i < 64
                · have hR := J.out.2.1
                  rw [show min i 64 = i by omega] at hR
                  obtain ⟨q, h1, h2⟩ := myM_step hR h6 _ _
                  exact ⟨q, 0, h1, by rw [show min (i + 1) 64 = i + 1 by omega]; exact h2, Or.inl ⟨h6, rfl⟩⟩
                · have hR := J.out.2.1
                  rw [show min i 64 = 64 by omega] at hR
                  exact ⟨P, 3, myM_end' hR (by omega) _ _, by rw [show min (i + 1) 64 = 64 by omega]; exact hR, Or.inr ⟨by omega, rfl⟩⟩
              obtain ⟨q, e, hd, hq, he⟩ := hne
              have D : Hid (doC P ⟨1, myM i, ⟨0, 0⟩, ⟨0, []⟩⟩ = (q, e) ∧ MyM q (min (i + 1) 64)) := ⟨hd, hq⟩
              clear hd hq
              have l0 := J.out.1.ld
              go_wp2_with fail
              refine (do_is (y := Cm.mk 1 (myM i) ⟨0, 0⟩ ⟨0, none, 0, 0⟩ zT) A3.out.1.pv J.out.2.2 ⟨rfl, rfl, rfl, rfl, SlAt.none' _⟩ (by show 0 ≤ 1000; decide) D.out.1).mono ?_
              rintro _ U4 ⟨⟨x2, rfl, h4⟩, b4⟩
              obtain ⟨U5, s5, Q5, b5⟩ := PvS.new (w := w) (below_over A3.out.1.bel b4) h4.pv
              have A5 : Hid (PvS w U5 g x P ∧ PvS w U5 U4.heap.size x2 q) := ⟨(A3.out.1.below b4).below b5, Q5⟩
              clear h4 b4 Q5 b5 l0
              have l5 := A5.out.2.ld
              obtain ⟨U6, s6, P6, g6⟩ := A5.out.1.st A5.out.2.pv
              have A6 : Hid (PvS w U6 g x2 q) := P6
              clear P6 g6
              rcases he with ⟨h6, rfl⟩ | ⟨h6, rfl⟩
              · have hi2 : (i : Int) < 64 := by omega
                have hi3 : ¬ (i : Int) ≥ 64 := by omega
                have hi4 : ¬ (64 : Int) ≤ (i : Int) := by omega
                have HI : Hid (i < 65) := hit
                clear h6 hit
                go_wp2
                go_roundw
                case rel => exact ⟨i + 1, x2, q, by have := HI.out; omega, by go_num, A6.out, D.out.2⟩
                case measure => have := HI.out; simp [intOf]; omega
              · have hi2 : ¬ (i : Int) < 64 := by omega
                have hi3 : (i : Int) ≥ 64 := by omega
                have hi4 : (64 : Int) ≤ (i : Int) := by omega
                have HI : Hid (i < 65) := hit
                clear h6 hit
                go_wp2
                go_roundw
                case rel => exact ⟨i + 1, x2, q, by have := HI.out; omega, by go_num, A6.out, D.out.2⟩
                case measure => have := HI.out; simp [intOf]; omega
            · have hi1 : ¬ (i : Int) < 65 := by omega
              have hin : i = 65 := by omega
              have K : Hid (PvS w wr g x P ∧ MyM P 64) := ⟨J.out.1, by have := J.out.2.1; rw [hin] at this; exact this⟩
              clear hin hit J
              obtain ⟨ma, mn, mc, mv, ms⟩ := K.out.1.pv.m
              obtain ⟨ca, cn, cc, cv, cs⟩ := K.out.1.pv.c
              obtain ⟨rr, ⟨ba, bn, bc, bv, bs⟩, bm⟩ := K.out.1.pv.b
              obtain rfl : mn = 64 := by rw [← ms.len]; exact K.out.2.len
              obtain rfl : cn = 64 := by rw [← cs.len]; exact K.out.2.cl
              obtain rfl : bn = 64 := by rw [← bs.len, bm.len]; exact K.out.2.bl
              have f1 := K.out.1.var.m
              have f2 := K.out.1.var.c
              have f3 := K.out.1.var.b
              rw [mv] at f1
              rw [cv] at f2
              rw [bv] at f3
              clear mv ms cv cs bv bs bm
              go_wp2_with fail
              refine (awake_any wr).mono ?_
              rintro _ V6 ⟨rfl, b6⟩
              have M6 : Hid (Below w.heap.size w V6) := below_over K.out.1.bel b6
              clear b6 f1 f2 f3
              go_wp2
              go_ret
              exact ⟨rfl, M6.out⟩
end Go.Proofs.Ytmfjlhcobhilcab
